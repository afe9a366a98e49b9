/-
  cut's region 8: its steps.
-/
import Derived.Test.YtlfgikhjcimppabR8
namespace Go.Proofs.Ytlfgikhjcimppab
open Go.RowKit
set_option linter.unusedVariables false

set_option maxRecDepth 100000 in
set_option maxHeartbeats 8000000 in
theorem reg8 {ops : Array Oper} (hops : Try.f33.body.bind (findReg 8) = some ops) {A0 : Act} {w0 : World} {z zc bb oo bn bc rb g base : Nat} {B : List UInt8} {i : Nat} {ro : Option Addr} {rc : Nat} {rs : List Rc} {x e0 : Value}
    (hK : Kc w0 z zc (some ⟨bb, oo, none⟩) bn bc rb x (.slice ro i rc) e0) (hC : Ct w0 (some ⟨bb, oo, none⟩) bn bc rb g B (posAt B i)) (hR : Rw w0 base ro i rc rs) (na : some z ≠ some rb) (nb : some (z + 1) ≠ some rb) (nc : some zc ≠ some rb)
    (hrr : blk ro = none ∨ blk ro ≠ some rb) (hra : some z ≠ blk ro) (hrbb : some (z + 1) ≠ blk ro) (hrc : some zc ≠ blk ro) (hpn : posAt B (i + 1) ≤ bn) (hpos : 0 < bn) (hbase : base ≤ w0.heap.size) (hi : i ≤ 100000)
    {Q : Exit → Act → World → Prop} (hroom : A0.tmps.size = 50) (b2 : A0.tmps[2]? = some (.pointer (some ⟨z, 0, none⟩))) (b4 : A0.tmps[4]? = some (.pointer (some ⟨zc, 0, none⟩)))
    (hQ : ∀ a' w' r w2 ro' rc' w4, a'.tmps.size = A0.tmps.size → a'.defers = A0.defers → (∀ s, s ∉ [27, 28, 29, 30, 31, 32, 33] → a'.tmps[s]? = A0.tmps[s]?) → Pst w0 bb oo bn bc rb g B i r w2 → (w2.alloc (.cells #[.int .i64 r.t, .slice r.ko r.kn r.kc, .slice r.vo r.vn r.vc] 37)).grownBy w4 (blk ro) → Rw w4 base ro' (i + 1) rc' (rs ++ [r]) → w' = w4.setCell ⟨z, 1, none⟩ (.slice ro' (i + 1) rc') → Q .normal a' w') :
    wpAny Try.prog .any ops Q 8 (Array.replicate 8 false) A0 w0 := by
  have hpp : posAt B i + 12 + kAt B (posAt B i) + vAt B (posAt B i) = posAt B (i + 1) := rfl
  have hrec : ∀ W, Ct W (some ⟨bb, oo, none⟩) bn bc rb g B (posAt B i) → Calls Try.prog 47 #[.agg #[.slice (some ⟨bb, oo, none⟩) bn bc, .pointer (some ⟨rb, 0, none⟩)]] W fun e w' => ∃ r : Rc, e = .returned (.agg #[.int .i64 r.t, .slice r.ko r.kn r.kc, .slice r.vo r.vn r.vc]) ∧ Cut w' (some ⟨bb, oo, none⟩) bc B (posAt B i) r ∧ Ct w' (some ⟨bb, oo, none⟩) bn bc rb g B (posAt B (i + 1)) ∧ W.grownBy w' (some rb) := fun W hW => record_yes W _ bn bc rb g B (posAt B i) hW hpos (by rw [hpp]; exact hpn)
  have hops2 : ∃ ops', Try.f33.body.bind (findReg 8) = some ops' ∧ wpAny Try.prog .any ops' Q 8 (Array.replicate 8 false) A0 w0 := by
    refine ⟨_, rfl, ?_⟩
    refine any_order (J := J8 A0 w0 z bb oo bn bc rb g base B i ro rc rs) ?size ?step ?stop ?low _ _ _ _ ?init ?count
    case size => exact fun l a w h => h.fr.size
    case low => exact low_of (by kernel_rfl)
    case count => exact left_all 8
    case init =>
      have hno : ∀ j, (Array.replicate 8 false).getD j false = true → False := by
        intro j hj
        by_cases h9 : j < 8 <;> simp [h9] at hj
      exact ⟨⟨rfl, rfl, rfl, fun _ _ => rfl⟩, fun j hj => (hno j hj).elim, fun h => (hno _ h).elim, fun h => (hno _ h).elim, fun h => (hno _ h).elim, .A rfl rfl rfl rfl rfl⟩
    case stop =>
      intro l a' w' hJ hall
      have h7 := hall 7 (by simp)
      cases hJ.st with
      | A _ _ _ h9 _ => rw [h7] at h9; cases h9
      | B _ _ _ h9 _ _ _ => rw [h7] at h9; cases h9
      | C _ _ _ h9 _ _ _ _ _ => rw [h7] at h9; cases h9
      | D _ _ _ h9 _ _ _ _ _ _ _ _ => rw [h7] at h9; cases h9
      | E _ _ _ _ r w2 ro' rc' w4 hp hg hR' hw => exact hQ a' w' r w2 ro' rc' w4 hJ.fr.room hJ.fr.defers hJ.fr.same hp hg hR' hw
    case step =>
      intro l a' w' q op hJ ho hl hdep
      have hq : q < 8 := by
        have h9 := (Array.getElem?_eq_some_iff.1 ho).1
        simpa using h9
      have e2 := hJ.fr.at b2 (by decide)
      have e4 := hJ.fr.at b4 (by decide)
      have hsz := hJ.fr.size
      have HR : Hid (A0.tmps.size = 50) := hroom
      have hlf : l.getD q false = false := by
        have hl9 : q < l.size := by omega
        simp only [Array.getD_eq_getD_getElem?, Array.getElem?_eq_getElem hl9, Option.getD_some] at hl ⊢
        exact hl
      clear hQ hroom
      match q, hq with
      | 0, _ =>
        cases ho
        clear hdep
        refine wpOp_step rfl (fun K hK => ?_)
        go_simp
        exact hK _ _ (hJ.quiet HR.out 0 27 rfl (by omega) _ (fun v hv => by cases hv; rfl))
      | 1, _ =>
        cases ho
        have x1 := hJ.tv 0 (hdep { on := 0, ground := .data } (by simp) rfl) 27 _ rfl rfl
        have hc : w'.cell? ⟨z, 1, none⟩ = some (.slice ro i rc) := by
          cases hJ.st with
          | A _ _ _ _ hw => rw [hw]; exact hK.b1
          | B _ _ _ _ r _ hp => exact hp.gr.cell hK.b1 na
          | C _ _ _ _ r w2 hp hw _ => rw [hw]; exact (alloc_grown _ _).cell (hp.gr.cell hK.b1 na) (by simp)
          | D _ _ h5 _ _ _ _ _ _ _ _ _ => have h9 := hJ.d1 h5; rw [hlf] at h9; cases h9
          | E _ _ h5 _ _ _ _ _ _ _ _ _ _ => have h9 := hJ.d1 h5; rw [hlf] at h9; cases h9
        clear hdep
        refine wpOp_step rfl (fun K hK => ?_)
        go_simp
        exact hK _ _ (hJ.quiet HR.out 1 28 rfl (by omega) _ (fun v hv => by cases hv; rfl))
      | 2, _ =>
        cases ho
        have hA : w' = w0 := by
          cases hJ.st with
          | A _ _ _ _ hw => exact hw
          | B h3 _ _ _ _ _ _ => have h9 := hJ.d2 h3; rw [hlf] at h9; cases h9
          | C h3 _ _ _ _ _ _ _ _ => have h9 := hJ.d2 h3; rw [hlf] at h9; cases h9
          | D h3 _ _ _ _ _ _ _ _ _ _ _ => have h9 := hJ.d2 h3; rw [hlf] at h9; cases h9
          | E h3 _ _ _ _ _ _ _ _ _ _ _ _ => have h9 := hJ.d2 h3; rw [hlf] at h9; cases h9
        have hc0 : w'.cell? ⟨zc, 0, none⟩ = some (.slice (some ⟨bb, oo, none⟩) bn bc) := by rw [hA]; exact hK.c0
        have hc1 : w'.cell? ⟨zc, 1, none⟩ = some (.pointer (some ⟨rb, 0, none⟩)) := by rw [hA]; exact hK.c1
        clear hdep hA
        refine wpOp_step rfl (fun K hK => ?_)
        go_simp
        exact hK _ _ (hJ.quiet HR.out 2 29 rfl (by omega) _ (fun v hv => by cases hv; rfl))
      | 6, _ =>
        cases ho
        clear hdep
        refine wpOp_step rfl (fun K hK => ?_)
        go_simp
        exact hK _ _ (hJ.quiet HR.out 6 33 rfl (by omega) _ (fun v hv => by cases hv; rfl))
      | 3, _ =>
        cases ho
        have x1 := hJ.tv 2 (hdep { on := 2, ground := .data } (by simp) rfl) 29 _ rfl rfl
        have hd2 := hdep { on := 2, ground := .data } (by simp) rfl
        cases hJ.st with
        | B h3 _ _ _ _ _ _ => rw [hlf] at h3; cases h3
        | C h3 _ _ _ _ _ _ _ _ => rw [hlf] at h3; cases h3
        | D h3 _ _ _ _ _ _ _ _ _ _ _ => rw [hlf] at h3; cases h3
        | E h3 _ _ _ _ _ _ _ _ _ _ _ _ => rw [hlf] at h3; cases h3
        | A h3 h4 h5 h7 hw =>
          subst hw
          clear hdep
          refine wpOp_step rfl (fun K hK => ?_)
          go_simp
          go_at_call 47
          refine (hrec _ hC).mono ?_
          rintro e w2 ⟨r, rfl, hcut, hC2, hg2⟩
          have o := fun j (hj : j ≠ 3) => getD_other (l := l) (i := 3) (j := j) hsz (by omega) hj
          refine hK _ _ ⟨hJ.fr.put 3 30 _ (by decide), Tv.put hJ.fr hJ.tv sl8_inj (fun i s hs => by have := sl8_lt hs; have h9 := HR.out; omega) 3 30 (by omega) rfl _ (fun v hv => by cases hv), ?_, ?_, ?_, ?_⟩
          · rw [o 5 (by omega), h5]; intro h; cases h
          · intro _; rw [o 2 (by omega)]; exact hd2
          · rw [o 7 (by omega), h7]; intro h; cases h
          · exact .B (by rw [getD_set (by omega), if_pos rfl]) ((o 4 (by omega)).trans h4) ((o 5 (by omega)).trans h5) ((o 7 (by omega)).trans h7) r (put_self (by have h8 := hJ.fr.room; have h9 := HR.out; omega)) ⟨hcut, hC2, hg2⟩
      | 4, _ =>
        cases ho
        have hd3 := hdep { on := 3, ground := .data } (by simp) rfl
        cases hJ.st with
        | A h3 _ _ _ _ => rw [hd3] at h3; cases h3
        | C _ h4 _ _ _ _ _ _ _ => rw [hlf] at h4; cases h4
        | D _ h4 _ _ _ _ _ _ _ _ _ _ => rw [hlf] at h4; cases h4
        | E _ h4 _ _ _ _ _ _ _ _ _ _ _ => rw [hlf] at h4; cases h4
        | B h3 h4 h5 h7 r hs hp =>
          clear hdep
          refine wpOp_step rfl (fun K hK => ?_)
          go_simp
          have o := fun j (hj : j ≠ 4) => getD_other (l := l) (i := 4) (j := j) hsz (by omega) hj
          refine hK _ _ ⟨hJ.fr.put 4 31 _ (by decide), Tv.put hJ.fr hJ.tv sl8_inj (fun i s hs => by have := sl8_lt hs; have h9 := HR.out; omega) 4 31 (by omega) rfl _ (fun v hv => by cases hv), ?_, ?_, ?_, ?_⟩
          · rw [o 5 (by omega), h5]; intro h; cases h
          · intro _; rw [o 2 (by omega)]; exact hJ.d2 h3
          · rw [o 7 (by omega), h7]; intro h; cases h
          · exact .C ((o 3 (by omega)).trans h3) (by rw [getD_set (by omega), if_pos rfl]) ((o 5 (by omega)).trans h5) ((o 7 (by omega)).trans h7) r w' hp rfl (put_self (by have h8 := hJ.fr.room; have h9 := HR.out; omega))
      | 5, _ =>
        cases ho
        have hd1 := hdep { on := 1, ground := .data } (by simp) rfl
        have hd4 := hdep { on := 4, ground := .data } (by simp) rfl
        have x28 := hJ.tv 1 hd1 28 _ rfl rfl
        cases hJ.st with
        | A _ h4 _ _ _ => rw [hd4] at h4; cases h4
        | B _ h4 _ _ _ _ _ => rw [hd4] at h4; cases h4
        | D _ _ h5 _ _ _ _ _ _ _ _ _ => rw [hlf] at h5; cases h5
        | E _ _ h5 _ _ _ _ _ _ _ _ _ _ => rw [hlf] at h5; cases h5
        | C h3 h4 h5 h7 r w2 hp hw hs =>
          subst hw
          clear hdep
          have hg2 := hp.gr
          have hs2 := hg2.size
          have hev1 : a'.eval (.tmp 28) = .slice ro i rc := by simp [Act.eval, x28]
          have hev2 : a'.eval (.tmp 31) = .slice (some ⟨w2.heap.size, 0, none⟩) 1 1 := by simp [Act.eval, hs]
          have hR3 := (hR.kept hg2 hrr).kept (alloc_grown w2 (.cells #[.int .i64 r.t, .slice r.ko r.kn r.kc, .slice r.vo r.vn r.vc] 37)) (by cases ro; exact Or.inl rfl; right; simp [blk])
          refine wpOp_step rfl (fun K hK => ?_)
          refine step_append_rec rfl rfl (.tmp 28) (.tmp 31) rfl base ro i rc rs hev1 hR3 r w2.heap.size hev2 (by simp) (by simp) (by simp) hi (by simp; omega) ?_
          intro ro' rc' w4 h2 h3'
          have o := fun j (hj : j ≠ 5) => getD_other (l := l) (i := 5) (j := j) hsz (by omega) hj
          refine hK _ _ ⟨hJ.fr.put 5 32 _ (by decide), Tv.put hJ.fr hJ.tv sl8_inj (fun i s hs => by have := sl8_lt hs; have h9 := HR.out; omega) 5 32 (by omega) rfl _ (fun v hv => by cases hv), ?_, ?_, ?_, ?_⟩
          · intro _; rw [o 1 (by omega)]; exact hd1
          · intro _; rw [o 2 (by omega)]; exact hJ.d2 h3
          · rw [o 7 (by omega), h7]; intro h; cases h
          · exact .D ((o 3 (by omega)).trans h3) ((o 4 (by omega)).trans h4) (by rw [getD_set (by omega), if_pos rfl]) ((o 7 (by omega)).trans h7) r w2 ro' rc' hp h3' h2 (put_self (by have h8 := hJ.fr.room; have h9 := HR.out; omega))
      | 7, _ =>
        cases ho
        have hd5 := hdep { on := 5, ground := .data } (by simp) rfl
        have x33 := hJ.tv 6 (hdep { on := 6, ground := .data } (by simp) rfl) 33 _ rfl rfl
        cases hJ.st with
        | A _ _ h5 _ _ => rw [hd5] at h5; cases h5
        | B _ _ h5 _ _ _ _ => rw [hd5] at h5; cases h5
        | C _ _ h5 _ _ _ _ _ _ => rw [hd5] at h5; cases h5
        | E _ _ _ h7 _ _ _ _ _ _ _ _ _ => rw [hlf] at h7; cases h7
        | D h3 h4 h5 h7 r w2 ro' rc' hp hg hR' hs =>
          clear hdep
          have hK4 := ((hK.kept hp.gr na nb nc).kept (alloc_grown w2 (.cells #[.int .i64 r.t, .slice r.ko r.kn r.kc, .slice r.vo r.vn r.vc] 37)) (by simp) (by simp) (by simp)).kept hg hra hrbb hrc
          have t1 := hK4.b1
          have tf := hK4.fb
          refine wpOp_step rfl (fun K hK => ?_)
          go_simp
          have o := fun j (hj : j ≠ 7) => getD_other (l := l) (i := 7) (j := j) hsz (by omega) hj
          refine hK _ _ ⟨hJ.fr.skip 7, Tv.skip hJ.fr hJ.tv 7 (by omega) rfl, ?_, ?_, ?_, ?_⟩
          · intro _; rw [o 1 (by omega)]; exact hJ.d1 hd5
          · intro _; rw [o 2 (by omega)]; exact hJ.d2 h3
          · intro _; rw [o 1 (by omega)]; exact hJ.d1 hd5
          · exact .E ((o 3 (by omega)).trans h3) ((o 4 (by omega)).trans h4) ((o 5 (by omega)).trans h5) (by rw [getD_set (by omega), if_pos rfl]) r w2 ro' rc' w' hp hg hR' rfl
  obtain ⟨ops', hh1, hh2⟩ := hops2
  rw [hops] at hh1
  cases hh1
  exact hh2
end Go.Proofs.Ytlfgikhjcimppab
