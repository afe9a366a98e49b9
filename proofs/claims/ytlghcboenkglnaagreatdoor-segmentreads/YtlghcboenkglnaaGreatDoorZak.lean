import Derived.Test.YtlghcboenkglnaaGreatDoorZaj
/-
  cut's region 8: its steps.
-/
namespace Go.Proofs.YtlghcboenkglnaaGreatDoor.Rec
open Go.Proofs.YtlghcboenkglnaaGreatDoor
open Go.RowKit
set_option linter.unusedVariables false

set_option maxRecDepth 100000 in
set_option maxHeartbeats 8000000 in
theorem reg8 {ops : Array Oper} (hops : Tryz.f165.body.bind (findReg 8) = some ops) {A0 : Act} {w0 : World} {z zc bb oo bn bc rb g base : Nat} {B : List UInt8} {i : Nat} {ro : Option Addr} {rc : Nat} {rs : List Rc} {x e0 : Value}
    (hK : Kc w0 z zc (some ⟨bb, oo, none⟩) bn bc rb x (.slice ro i rc) e0) (hC : Ct w0 (some ⟨bb, oo, none⟩) bn bc rb g B (posAt B i)) (hR : Rw w0 base ro i rc rs) (na : some z ≠ some rb) (nb : some (z + 1) ≠ some rb) (nc : some zc ≠ some rb)
    (hrr : blk ro = none ∨ blk ro ≠ some rb) (hra : some z ≠ blk ro) (hrbb : some (z + 1) ≠ blk ro) (hrc : some zc ≠ blk ro) (hpn : posAt B (i + 1) ≤ bn) (hpos : 0 < bn) (hbase : base ≤ w0.heap.size) (hi : i ≤ 100000)
    {Q : Exit → Act → World → Prop} (hroom : A0.tmps.size = 50) (b2 : A0.tmps[2]? = some (.pointer (some ⟨z, 0, none⟩))) (b4 : A0.tmps[4]? = some (.pointer (some ⟨zc, 0, none⟩)))
    (hQ : ∀ a' w' r w2 ro' rc' w4, a'.tmps.size = A0.tmps.size → a'.defers = A0.defers → (∀ s, s ∉ [27, 28, 29, 30, 31, 32, 33] → a'.tmps[s]? = A0.tmps[s]?) → Pst w0 bb oo bn bc rb g B i r w2 → (w2.alloc (.cells #[.int .i64 r.t, .slice r.ko r.kn r.kc, .slice r.vo r.vn r.vc] 148)).grownBy w4 (blk ro) → Rw w4 base ro' (i + 1) rc' (rs ++ [r]) → w' = w4.setCell ⟨z, 1, none⟩ (.slice ro' (i + 1) rc') → Q .normal a' w') :
    wpAny Tryz.prog .any ops Q 8 (Array.replicate 8 false) A0 w0 := by
  have hpp : posAt B i + 12 + kAt B (posAt B i) + vAt B (posAt B i) = posAt B (i + 1) := rfl
  have hrec : ∀ W, Ct W (some ⟨bb, oo, none⟩) bn bc rb g B (posAt B i) → Calls Tryz.prog 185 #[.agg #[.slice (some ⟨bb, oo, none⟩) bn bc, .pointer (some ⟨rb, 0, none⟩)]] W fun e w' => ∃ r : Rc, e = .returned (.agg #[.int .i64 r.t, .slice r.ko r.kn r.kc, .slice r.vo r.vn r.vc]) ∧ Cut w' (some ⟨bb, oo, none⟩) bc B (posAt B i) r ∧ Ct w' (some ⟨bb, oo, none⟩) bn bc rb g B (posAt B (i + 1)) ∧ W.grownBy w' (some rb) := fun W hW => record_yes W _ bn bc rb g B (posAt B i) hW hpos (by rw [hpp]; exact hpn)
  have hops2 : ∃ ops', Tryz.f165.body.bind (findReg 8) = some ops' ∧ wpAny Tryz.prog .any ops' Q 8 (Array.replicate 8 false) A0 w0 := by
    refine ⟨_, rfl, ?_⟩
    refine any_order (J := J8 A0 w0 z bb oo bn bc rb g base B i ro rc rs) ?size ?step ?stop ?low _ _ _ _ ?init ?count
    case size => exact fun l a w h => h.fr.size
    case low => exact low_of (by kernel_rfl)
    case count => exact left_all 8
    case init =>
      have hno : ∀ j, (Array.replicate 8 false).getD j false = true → False := by
        intro j hj
        by_cases h9 : j < 8 <;> simp [h9] at hj
      exact ⟨⟨rfl, rfl, rfl, fun _ _ => rfl⟩, fun j hj => (hno j hj).elim, fun h => (hno _ h).elim, fun h => (hno _ h).elim, fun h => (hno _ h).elim, .A rfl rfl rfl rfl rfl⟩
    case stop =>
      intro l a' w' hJ hall
      have h7 := hall 7 (by simp)
      cases hJ.st with
      | A _ _ _ h9 _ => rw [h7] at h9; cases h9
      | B _ _ _ h9 _ _ _ => rw [h7] at h9; cases h9
      | C _ _ _ h9 _ _ _ _ _ => rw [h7] at h9; cases h9
      | D _ _ _ h9 _ _ _ _ _ _ _ _ => rw [h7] at h9; cases h9
      | E _ _ _ _ r w2 ro' rc' w4 hp hg hR' hw => exact hQ a' w' r w2 ro' rc' w4 hJ.fr.room hJ.fr.defers hJ.fr.same hp hg hR' hw
    case step =>
      intro l a' w' q op hJ ho hl hdep
      have hq : q < 8 := by
        have h9 := (Array.getElem?_eq_some_iff.1 ho).1
        simpa using h9
      have e2 := hJ.fr.at b2 (by decide)
      have e4 := hJ.fr.at b4 (by decide)
      have hsz := hJ.fr.size
      have HR : Hid (A0.tmps.size = 50) := hroom
      have hlf : l.getD q false = false := by
        have hl9 : q < l.size := by omega
        simp only [Array.getD_eq_getD_getElem?, Array.getElem?_eq_getElem hl9, Option.getD_some] at hl ⊢
        exact hl
      clear hQ hroom
      match q, hq with
      | 0, _ =>
        cases ho
        clear hdep
        refine wpOp_step rfl (fun K hK => ?_)
        go_simp
        exact hK _ _ (hJ.quiet HR.out 0 27 rfl (by omega) _ (fun v hv => by cases hv; rfl))
      | 1, _ =>
        cases ho
        have x1 := hJ.tv 0 (hdep { on := 0, ground := .data } (by simp) rfl) 27 _ rfl rfl
        have hc : w'.cell? ⟨z, 1, none⟩ = some (.slice ro i rc) := by
          cases hJ.st with
          | A _ _ _ _ hw => rw [hw]; exact hK.b1
          | B _ _ _ _ r _ hp => exact hp.gr.cell hK.b1 na
          | C _ _ _ _ r w2 hp hw _ => rw [hw]; exact (alloc_grown _ _).cell (hp.gr.cell hK.b1 na) (by simp)
          | D _ _ h5 _ _ _ _ _ _ _ _ _ => have h9 := hJ.d1 h5; rw [hlf] at h9; cases h9
          | E _ _ h5 _ _ _ _ _ _ _ _ _ _ => have h9 := hJ.d1 h5; rw [hlf] at h9; cases h9
        clear hdep
        refine wpOp_step rfl (fun K hK => ?_)
        go_simp
        exact hK _ _ (hJ.quiet HR.out 1 28 rfl (by omega) _ (fun v hv => by cases hv; rfl))
      | 2, _ =>
        cases ho
        have hA : w' = w0 := by
          cases hJ.st with
          | A _ _ _ _ hw => exact hw
          | B h3 _ _ _ _ _ _ => have h9 := hJ.d2 h3; rw [hlf] at h9; cases h9
          | C h3 _ _ _ _ _ _ _ _ => have h9 := hJ.d2 h3; rw [hlf] at h9; cases h9
          | D h3 _ _ _ _ _ _ _ _ _ _ _ => have h9 := hJ.d2 h3; rw [hlf] at h9; cases h9
          | E h3 _ _ _ _ _ _ _ _ _ _ _ _ => have h9 := hJ.d2 h3; rw [hlf] at h9; cases h9
        have hc0 : w'.cell? ⟨zc, 0, none⟩ = some (.slice (some ⟨bb, oo, none⟩) bn bc) := by rw [hA]; exact hK.c0
        have hc1 : w'.cell? ⟨zc, 1, none⟩ = some (.pointer (some ⟨rb, 0, none⟩)) := by rw [hA]; exact hK.c1
        clear hdep hA
        refine wpOp_step rfl (fun K hK => ?_)
        go_simp
        exact hK _ _ (hJ.quiet HR.out 2 29 rfl (by omega) _ (fun v hv => by cases hv; rfl))
      | 6, _ =>
        cases ho
        clear hdep
        refine wpOp_step rfl (fun K hK => ?_)
        go_simp
        exact hK _ _ (hJ.quiet HR.out 6 33 rfl (by omega) _ (fun v hv => by cases hv; rfl))
      | 3, _ =>
        cases ho
        have x1 := hJ.tv 2 (hdep { on := 2, ground := .data } (by simp) rfl) 29 _ rfl rfl
        have hd2 := hdep { on := 2, ground := .data } (by simp) rfl
        cases hJ.st with
        | B h3 _ _ _ _ _ _ => rw [hlf] at h3; cases h3
        | C h3 _ _ _ _ _ _ _ _ => rw [hlf] at h3; cases h3
        | D h3 _ _ _ _ _ _ _ _ _ _ _ => rw [hlf] at h3; cases h3
        | E h3 _ _ _ _ _ _ _ _ _ _ _ _ => rw [hlf] at h3; cases h3
        | A h3 h4 h5 h7 hw =>
          subst hw
          clear hdep
          refine wpOp_step rfl (fun K hK => ?_)
          go_simp
          go_at_call 185
          refine (hrec _ hC).mono ?_
          rintro e w2 ⟨r, rfl, hcut, hC2, hg2⟩
          have o := fun j (hj : j ≠ 3) => getD_other (l := l) (i := 3) (j := j) hsz (by omega) hj
          refine hK _ _ ⟨hJ.fr.put 3 30 _ (by decide), Tv.put hJ.fr hJ.tv sl8_inj (fun i s hs => by have := sl8_lt hs; have h9 := HR.out; omega) 3 30 (by omega) rfl _ (fun v hv => by cases hv), ?_, ?_, ?_, ?_⟩
          · rw [o 5 (by omega), h5]; intro h; cases h
          · intro _; rw [o 2 (by omega)]; exact hd2
          · rw [o 7 (by omega), h7]; intro h; cases h
          · exact .B (by rw [getD_set (by omega), if_pos rfl]) ((o 4 (by omega)).trans h4) ((o 5 (by omega)).trans h5) ((o 7 (by omega)).trans h7) r (put_self (by have h8 := hJ.fr.room; have h9 := HR.out; omega)) ⟨hcut, hC2, hg2⟩
      | 4, _ =>
        cases ho
        have hd3 := hdep { on := 3, ground := .data } (by simp) rfl
        cases hJ.st with
        | A h3 _ _ _ _ => rw [hd3] at h3; cases h3
        | C _ h4 _ _ _ _ _ _ _ => rw [hlf] at h4; cases h4
        | D _ h4 _ _ _ _ _ _ _ _ _ _ => rw [hlf] at h4; cases h4
        | E _ h4 _ _ _ _ _ _ _ _ _ _ _ => rw [hlf] at h4; cases h4
        | B h3 h4 h5 h7 r hs hp =>
          clear hdep
          refine wpOp_step rfl (fun K hK => ?_)
          go_simp
          have o := fun j (hj : j ≠ 4) => getD_other (l := l) (i := 4) (j := j) hsz (by omega) hj
          refine hK _ _ ⟨hJ.fr.put 4 31 _ (by decide), Tv.put hJ.fr hJ.tv sl8_inj (fun i s hs => by have := sl8_lt hs; have h9 := HR.out; omega) 4 31 (by omega) rfl _ (fun v hv => by cases hv), ?_, ?_, ?_, ?_⟩
          · rw [o 5 (by omega), h5]; intro h; cases h
          · intro _; rw [o 2 (by omega)]; exact hJ.d2 h3
          · rw [o 7 (by omega), h7]; intro h; cases h
          · exact .C ((o 3 (by omega)).trans h3) (by rw [getD_set (by omega), if_pos rfl]) ((o 5 (by omega)).trans h5) ((o 7 (by omega)).trans h7) r w' hp rfl (put_self (by have h8 := hJ.fr.room; have h9 := HR.out; omega))
      | 5, _ =>
        cases ho
        have hd1 := hdep { on := 1, ground := .data } (by simp) rfl
        have hd4 := hdep { on := 4, ground := .data } (by simp) rfl
        have x28 := hJ.tv 1 hd1 28 _ rfl rfl
        cases hJ.st with
        | A _ h4 _ _ _ => rw [hd4] at h4; cases h4
        | B _ h4 _ _ _ _ _ => rw [hd4] at h4; cases h4
        | D _ _ h5 _ _ _ _ _ _ _ _ _ => rw [hlf] at h5; cases h5
        | E _ _ h5 _ _ _ _ _ _ _ _ _ _ => rw [hlf] at h5; cases h5
        | C h3 h4 h5 h7 r w2 hp hw hs =>
          subst hw
          clear hdep
          have hg2 := hp.gr
          have hs2 := hg2.size
          have hev1 : a'.eval (.tmp 28) = .slice ro i rc := by simp [Act.eval, x28]
          have hev2 : a'.eval (.tmp 31) = .slice (some ⟨w2.heap.size, 0, none⟩) 1 1 := by simp [Act.eval, hs]
          have hR3 := (hR.kept hg2 hrr).kept (alloc_grown w2 (.cells #[.int .i64 r.t, .slice r.ko r.kn r.kc, .slice r.vo r.vn r.vc] 148)) (by cases ro; exact Or.inl rfl; right; simp [blk])
          refine wpOp_step rfl (fun K hK => ?_)
          refine step_append_rec rfl rfl (.tmp 28) (.tmp 31) rfl base ro i rc rs hev1 hR3 r w2.heap.size hev2 (by simp) (by simp) (by simp) hi (by simp; omega) ?_
          intro ro' rc' w4 h2 h3'
          have o := fun j (hj : j ≠ 5) => getD_other (l := l) (i := 5) (j := j) hsz (by omega) hj
          refine hK _ _ ⟨hJ.fr.put 5 32 _ (by decide), Tv.put hJ.fr hJ.tv sl8_inj (fun i s hs => by have := sl8_lt hs; have h9 := HR.out; omega) 5 32 (by omega) rfl _ (fun v hv => by cases hv), ?_, ?_, ?_, ?_⟩
          · intro _; rw [o 1 (by omega)]; exact hd1
          · intro _; rw [o 2 (by omega)]; exact hJ.d2 h3
          · rw [o 7 (by omega), h7]; intro h; cases h
          · exact .D ((o 3 (by omega)).trans h3) ((o 4 (by omega)).trans h4) (by rw [getD_set (by omega), if_pos rfl]) ((o 7 (by omega)).trans h7) r w2 ro' rc' hp h3' h2 (put_self (by have h8 := hJ.fr.room; have h9 := HR.out; omega))
      | 7, _ =>
        cases ho
        have hd5 := hdep { on := 5, ground := .data } (by simp) rfl
        have x33 := hJ.tv 6 (hdep { on := 6, ground := .data } (by simp) rfl) 33 _ rfl rfl
        cases hJ.st with
        | A _ _ h5 _ _ => rw [hd5] at h5; cases h5
        | B _ _ h5 _ _ _ _ => rw [hd5] at h5; cases h5
        | C _ _ h5 _ _ _ _ _ _ => rw [hd5] at h5; cases h5
        | E _ _ _ h7 _ _ _ _ _ _ _ _ _ => rw [hlf] at h7; cases h7
        | D h3 h4 h5 h7 r w2 ro' rc' hp hg hR' hs =>
          clear hdep
          have hK4 := ((hK.kept hp.gr na nb nc).kept (alloc_grown w2 (.cells #[.int .i64 r.t, .slice r.ko r.kn r.kc, .slice r.vo r.vn r.vc] 148)) (by simp) (by simp) (by simp)).kept hg hra hrbb hrc
          have t1 := hK4.b1
          have tf := hK4.fb
          refine wpOp_step rfl (fun K hK => ?_)
          go_simp
          have o := fun j (hj : j ≠ 7) => getD_other (l := l) (i := 7) (j := j) hsz (by omega) hj
          refine hK _ _ ⟨hJ.fr.skip 7, Tv.skip hJ.fr hJ.tv 7 (by omega) rfl, ?_, ?_, ?_, ?_⟩
          · intro _; rw [o 1 (by omega)]; exact hJ.d1 hd5
          · intro _; rw [o 2 (by omega)]; exact hJ.d2 h3
          · intro _; rw [o 1 (by omega)]; exact hJ.d1 hd5
          · exact .E ((o 3 (by omega)).trans h3) ((o 4 (by omega)).trans h4) ((o 5 (by omega)).trans h5) (by rw [getD_set (by omega), if_pos rfl]) r w2 ro' rc' w' hp hg hR' rfl
  obtain ⟨ops', hh1, hh2⟩ := hops2
  rw [hops] at hh1
  cases hh1
  exact hh2
end Go.Proofs.YtlghcboenkglnaaGreatDoor.Rec

/-
  Put: the walk.
-/
namespace Go.Proofs.YtlghcboenkglnaaGreatDoor.Rec
open Go.Proofs.YtlghcboenkglnaaGreatDoor
open Go.RowKit
set_option linter.unusedVariables false

theorem Tryz.size5 : (Tryz.prog.info? 5).map (·.size) = some 1 := by kernel_rfl
/-- Four bytes, written over those at 4. -/
theorem copy_four (w : World) (base g n cap c : Nat) (l k : List UInt8) (ho : Ow w base 5 (some ⟨g, 0, none⟩) n cap l) (xo : Option Addr) (xc : Nat) (hb : Bs w xo 4 xc k) (hn : 8 ≤ n) :
    ∃ w', (Builtin.copy_ #[48, 48] 3 #[.slice (some ⟨g, 4, none⟩) 4 c, .slice xo 4 xc]).run Tryz.prog w = .ok (.int .i64 4) w' ∧ Ow w' base 5 (some ⟨g, 0, none⟩) n cap (l.take 4 ++ k ++ l.drop 8) ∧ w.grownBy w' (some g) := by
  have hkl := hb.len
  have hll := ho.len
  obtain ⟨xb, xof, rfl, hxb⟩ := hb.addr (by omega)
  rcases ho.row.2 with ⟨h0, _⟩ | ⟨g', cap', cur, hv, hbg, hg, hnc, hcm, hcs, htake⟩
  · cases h0
  · cases hv
    have hcs' : cur.size = cap := by omega
    have hr := run_copy_row Tryz.prog w 48 48 3 5 g 4 4 c ⟨xb, xof, none⟩ 4 xc cur 5 (k.map bv) Tryz.underlying48 Tryz.size5 hg (by simp [hkl]) (hb.cells _ rfl) (by simp [hkl]; omega) (bv_one k)
    have htk : cur.toList.take n = l.map bv := by simpa using htake
    have e3 : (k.map bv).length = 4 := by simp [hkl]
    rw [e3] at hr
    refine ⟨_, hr, ⟨by simp [hkl]; omega, ?_⟩, ⟨rfl, rfl, rfl, by simp, fun k _ hk => setRow_other w g k _ (fun e => hk (by simp [e]))⟩⟩
    refine ⟨by simp [hkl]; omega, .inr ⟨g, cap, _, rfl, hbg, setRow_heap w g cur _ 5 _ hg, hnc, hcm, ?_, ?_⟩⟩
    · simp [hkl]
      omega
    · have e1 : cur.toList.take 4 = (l.take 4).map bv := by
        have h9 : (cur.toList.take n).take 4 = (l.map bv).take 4 := by rw [htk]
        rw [List.take_take, Nat.min_eq_left (by omega)] at h9
        rw [h9, List.map_take]
      have e2 : (cur.toList.drop 8).take (n - 8) = (l.drop 8).map bv := by
        have h9 : (cur.toList.take n).drop 8 = (l.map bv).drop 8 := by rw [htk]
        rw [List.drop_take] at h9
        rw [h9, List.map_drop]
      simp only [List.map_append, ← e1, ← e2]
      have hcl : cur.toList.length = cap := by simpa using hcs'
      rw [Nat.mul_one]
      have hl8 : (cur.toList.take 4 ++ k.map bv).length = 8 := by simp [hkl]; omega
      rw [show n = (cur.toList.take 4 ++ k.map bv).length + (n - 8) by omega, List.take_length_add_append]
      rw [hl8]
      simp
theorem szs_take (l : List Rc) (i : Nat) : szs (l.take i) ≤ szs l := by
  unfold szs
  conv => rhs; rw [← List.take_append_drop i l]
  rw [List.map_append, List.sum_append]
  omega
theorem may_small {r : Rc} (h : mayR r = true) : r.kn ≤ 256 ∧ r.vn ≤ 4096 := by
  unfold mayR mayB at h
  simp at h
  omega
set_option maxRecDepth 100000 in
set_option maxHeartbeats 8000000 in
theorem put_ok (w : World) (base : Int) (ao : Option Addr) (n cap : Nat) (l : List Rc) (ha : Rs w ao n cap l) (hs : Small l) (hm : (measR base l).2 = 0) :
    Calls Tryz.prog 60 #[.agg #[.int .i64 base, .slice ao n cap]] w fun e w' => ∃ g, e = .returned (.tuple #[.slice (some ⟨g, 0, none⟩) (20 + szs l : Nat) (20 + szs l : Nat), .int .i64 0]) ∧ Ow w' w.heap.size 5 (some ⟨g, 0, none⟩) (20 + szs l) (20 + szs l) (batB base l) ∧ w.grownBy w' none := by
  obtain ⟨hf, hoff, hmf⟩ := meas_ok hm
  obtain ⟨hall, hne, hn256, hsz, hsize⟩ := fits_ok hf
  have hlen := ha.len
  have hg0 := alloc_grown w (.cells #[.int .i64 base, .slice ao n cap] 54)
  have HM : Hid (measR base l = (20 + szs l, 0)) := by show _ = _; rw [hmf]; exact Prod.ext hsize hf
  have HA : Hid (l.all mayR = true) := hall
  have b0 : (w.alloc (.cells #[.int .i64 base, .slice ao n cap] 54)).cell? ⟨w.heap.size, 0, none⟩ = some (.int .i64 base) := by simp
  have b1 : (w.alloc (.cells #[.int .i64 base, .slice ao n cap] 54)).cell? ⟨w.heap.size, 1, none⟩ = some (.slice ao n cap) := by simp
  have hl0 : w.heap.size < (w.alloc (.cells #[.int .i64 base, .slice ao n cap] 54)).heap.size := by simp
  clear hm hf hoff hmf hall hsize hne
  go_enter Tryz.func60, Tryz.ntmps60
  go_wp2_with fail
  refine (measure_any _ base ao n cap l (ha.grown hg0) hs).mono ?_
  rw [HM.out]
  rintro e w1 ⟨rfl, hg1⟩
  have hG1 := grown_trans hg0 hg1 (by simp)
  have c0 := hg1.cell b0 (by simp)
  have c1 := hg1.cell b1 (by simp)
  have hl1 : w.heap.size < w1.heap.size := Nat.lt_of_lt_of_le hl0 hg1.size
  clear b0 b1 hg0 hg1 hl0
  obtain ⟨h0, hh0⟩ : ∃ h0, Hid (h0 = w.heap.size) := ⟨_, rfl⟩
  rw [← hh0.out] at c0 c1 hl1 ⊢
  obtain ⟨Z, hZ⟩ : ∃ Z, Hid (Z = 20 + szs l) := ⟨_, rfl⟩
  have hZb : 20 ≤ Z ∧ Z ≤ 65536 := by have := hZ.out; omega
  obtain ⟨hZ1, hZ2⟩ := hZb
  rw [← hZ.out]
  go_wp2_with (at_make; refine wpList_make_bs _ rfl _ _ 48 rfl w1.heap.size 5 Tryz.underlying48 Tryz.info5 0 Z rfl rfl rfl (by omega) (by omega) (by omega) (Nat.le_refl _) ?_)
  intro g w2 ho2 hg2
  have hgb := (ho2.from_base g rfl).1
  have hrow : ∀ {W W' : World}, W.grownBy W' (some g) → ∀ i v, W.cell? ⟨h0, i, none⟩ = some v → W'.cell? ⟨h0, i, none⟩ = some v := fun hg i v h => hg.cell h (by simp; omega)
  have hG2 := grown_trans hG1 hg2 (by simp)
  have hgw : w.heap.size ≤ g := Nat.le_trans hG1.size hgb
  have hup : ∀ {W W' : World}, w.grownBy W none → W.grownBy W' (some g) → w.grownBy W' none := fun h1 h2 => below_of_new h1 h2 hgw
  have d0 := hg2.cell c0 (by simp)
  have d1 := hg2.cell c1 (by simp)
  have ho2' := ho2.rebase (Nat.le_trans hG1.size (Nat.le_refl _) : w.heap.size ≤ w1.heap.size)
  clear ho2 hg2 c0 c1 hG1
  have hz4 : ((Z : Int) - 4) = ((Z - 4 : Nat) : Int) := by omega
  go_wp2_with fail
  refine (appendU32_any _ none 0 0 (Z - 4) [] (Bs.empty _) (by omega) (by omega)).mono ?_
  rintro e w3 ⟨ao3, c3, rfl, ho3, hg3⟩
  have hG3 := grown_trans hG2 hg3 (by simp)
  go_wp2_with (at_builtin; refine wpList_append_room _ rfl _ _ 48 rfl w.heap.size 5 Tryz.underlying48 Tryz.info5 rfl (ho2'.grown hg3) rfl ho3.shows (by omega) ?_)
  intro w4 ho4 hg4
  have hG4 := hup hG3 hg4
  have d0 := hrow hg4 _ _ (hg3.cell d0 (by simp))
  have d1 := hrow hg4 _ _ (hg3.cell d1 (by simp))
  clear ho3 hg3 hg4 ho2' hG3 hG2
  go_wp2_with (at_builtin; refine wpList_append_zeros _ rfl _ 48 3 rfl w.heap.size 5 Tryz.underlying48 Tryz.underlying3 Tryz.info5 rfl ho4 (by omega) ?_)
  intro w5 ho5 hg5
  have hG5 := hup hG4 hg5
  have d0 := hrow hg5 _ _ d0
  have d1 := hrow hg5 _ _ d1
  clear ho4 hg5 hG4
  go_wp2_with fail
  refine (appendI64_any _ none 0 0 base _ [] (wrapU64 base) (by omega) (Bs.empty _) (by omega)).mono ?_
  rintro e w6 ⟨ao6, c6, rfl, ho6, hg6⟩
  have hG6 := grown_trans hG5 hg6 (by simp)
  go_wp2_with (at_builtin; refine wpList_append_room _ rfl _ _ 48 rfl w.heap.size 5 Tryz.underlying48 Tryz.info5 rfl (ho5.grown hg6) rfl ho6.shows (by omega) ?_)
  intro w7 ho7 hg7
  have hG7 := hup hG6 hg7
  have d0 := hrow hg7 _ _ (hg6.cell d0 (by simp))
  have d1 := hrow hg7 _ _ (hg6.cell d1 (by simp))
  clear ho6 hg6 hg7 ho5 hG6 hG5
  go_wp2_with fail
  refine (appendU32_any _ none 0 0 n [] (Bs.empty _) (by omega) (by omega)).mono ?_
  rintro e w8 ⟨ao8, c8, rfl, ho8, hg8⟩
  have hG8 := grown_trans hG7 hg8 (by simp)
  go_wp2_with (at_builtin; refine wpList_append_room _ rfl _ _ 48 rfl w.heap.size 5 Tryz.underlying48 Tryz.info5 rfl (ho7.grown hg8) rfl ho8.shows (by omega) ?_)
  intro w9 ho9 hg9
  have hG9 := hup hG8 hg9
  have d0 := hrow hg9 _ _ (hg8.cell d0 (by simp))
  have d1 := hrow hg9 _ _ (hg8.cell d1 (by simp))
  clear ho8 hg8 hg9 ho7 hG8 hG7
  obtain ⟨PRE, hP⟩ : ∃ PRE, Hid (PRE = low (Z - 4) 4 ++ [0, 0, 0, 0] ++ i8 base ++ low n 4) := ⟨low (Z - 4) 4 ++ [0, 0, 0, 0] ++ i8 base ++ low n 4, (rfl : _ = _)⟩
  have hpl : PRE.length = 20 := by rw [hP.out]; simp [i8_len, low_length]
  have ho9 : Ow w9 w.heap.size 5 (some ⟨g, 0, none⟩) 20 Z PRE := by rw [hP.out]; simpa [i8] using ho9
  clear d0
  go_wp2_with fail
  clear d1
  go_loopw [6, 8, 42] (fun o' _ i' wr => ∃ (i m : Nat), i ≤ n ∧ i' = .int .i64 i ∧ o' = .slice (some ⟨g, 0, none⟩) m Z ∧ Hid (m = 20 + szs (l.take i)) ∧ Ow wr w.heap.size 5 (some ⟨g, 0, none⟩) m Z (PRE ++ ((l.take i).map rby).flatten) ∧ w.grownBy wr none) (fun _ _ i' _ => n - (intOf i').toNat)
  case atStart => exact ⟨0, 20, Nat.zero_le _, rfl, rfl, (by simp [szs] : 20 = 20 + szs (l.take 0)), by simpa using ho9, hG9⟩
  case round =>
    obtain ⟨i, m, hi, rfl, rfl, hM, ho, hg⟩ := hrel
    by_cases hlt : i < n
    · obtain ⟨b, o, rfl, hbl⟩ := ha.addr (by omega)
      have h1 : i < l.length := by omega
      obtain ⟨a1, a2, a3, ak⟩ := (ha.grown hg).at h1
      have hkk : ∀ W, w.grownBy W none → Rk W l[i] := fun W hW => ((ha.grown hW).at h1).2.2.2
      have hd : decide ((i : Int) < (n : Int)) = true := by simp; omega
      have hmr := may_small (List.all_eq_true.1 HA.out _ (List.getElem_mem h1))
      have hz := szs_snoc h1
      have hzt := szs_take l (i + 1)
      have HZ : Hid (szs (l.take (i + 1)) = szs (l.take i) + (12 + (l[i]).kn + (l[i]).vn)) := hz
      have HF : Hid (((l.take (i + 1)).map rby).flatten = ((l.take i).map rby).flatten ++ rby l[i]) := flat_rby h1
      have hroom : m + 12 + (l[i]).kn + (l[i]).vn ≤ Z := by have := hM.out; have := hZ.out; omega
      clear ak hz hzt
      generalize l[i] = x at *
      obtain ⟨m', hm'⟩ : ∃ m', Hid (m' = m + (12 + x.kn + x.vn)) := ⟨_, rfl⟩
      go_wp2_with fail
      have hga := alloc_grown wr (.cells #[.int .i64 x.t, .slice x.ko x.kn x.kc, .slice x.vo x.vn x.vc] 148)
      have hGa := grown_trans hg hga (by simp)
      refine (appendRecord_any _ w.heap.size g m Z _ x (ho.grown hga) (fun W hW => hkk W (hup hGa hW)) hroom (by omega) (by omega)).mono ?_
      rintro e w2 ⟨rfl, ho2, hg2⟩
      have hG2 := hup hGa hg2
      rw [← hm'.out] at ho2 ⊢
      clear ho hga hGa hg2 hkk a1 a2 a3 hg
      go_wp2
      go_roundw
      case rel => exact ⟨i + 1, m', by omega, by go_num, rfl, (by rw [hm'.out, HZ.out, hM.out]; omega : m' = 20 + szs (l.take (i + 1))), by rw [HF.out, ← List.append_assoc]; exact ho2, hG2⟩
      case measure => simp [intOf]; omega
    · obtain rfl : i = n := by omega
      have hd : decide ((i : Int) < (i : Int)) = false := by simp
      have hmZ : m = Z := by rw [hM.out, hZ.out, List.take_of_length_le (by omega)]
      subst hmZ
      rw [List.take_of_length_le (by omega)] at ho
      have HB : Hid ((PRE ++ (l.map rby).flatten).drop 8 = bodyB base l) := by
        show _ = _
        rw [hP.out]
        unfold bodyB
        rw [hlen]
        simp [List.append_assoc, List.drop_append, low_length]
      have HT : Hid ((PRE ++ (l.map rby).flatten).take 4 = low (m - 4) 4) := by
        show _ = _
        rw [hP.out]
        simp [List.append_assoc, low_length]
      have hB8 : ∀ W, wr.grownBy W none → Bs W (some ⟨g, 8, none⟩) (m - 8) (m - 8) (bodyB base l) := fun W hW => by
        have h9 := (ho.shows.grown hW).drop 8 (by omega) 8 (Or.inr rfl)
        rwa [HB.out] at h9
      obtain ⟨BODY, hBD⟩ : ∃ B, Hid (B = bodyB base l) := ⟨bodyB base l, (rfl : _ = _)⟩
      rw [← hBD.out] at hB8
      have hX := sm_lt BODY
      obtain ⟨X, hXd⟩ : ∃ X, Hid (X = sm BODY) := ⟨sm BODY, (rfl : _ = _)⟩
      rw [← hXd.out] at hX
      have hsum : ∀ W po m c, Pc W po m c [BODY] → Calls Tryz.prog 104 #[.slice po m c] W fun e w' => e = .returned (.int .u32 X) ∧ W.grownBy w' none := fun W po m c h => by
        have h9 := sum_any W po m c [BODY] h
        rw [hXd.out]
        simpa using h9
      generalize PRE ++ (l.map rby).flatten = OUT at *
      have i1 : (8 : Int) ≤ (m : Int) := by omega
      have i2 : 8 ≤ m := by omega
      have i3 : ¬ m = 8 := by omega
      have i4 : ¬ m = 4 := by omega
      have i5 : ¬ m - 8 = 0 := by omega
      have i6 : ¬ m - 4 = 0 := by omega
      have i7 : (4 : Int) ≤ (m : Int) := by omega
      go_wp2_with fail
      go_region_held3 (fun w' => True) (trivial) (first
        | (go_at_call 104; refine (hsum _ _ _ _ (Pc.one (wr.drewN 1) _ _ _ BODY (hB8 _ (grown_drewN wr 1 none)) _)).mono ?_; rintro e w3 ⟨rfl, hg3⟩; have hgd : wr.grownBy w3 none := grown_trans (grown_trans (grown_drewN wr 1 none) (alloc_grown _ _) (by simp)) hg3 (by simp))
        | (go_at_call 101; refine (appendU32_any _ none 0 0 X [] (Bs.empty _) hX (by omega)).mono ?_; rintro e w4 ⟨ao4, c4, rfl, ho4, hg4⟩; have hge := grown_trans hgd hg4 (by simp); obtain ⟨w5, hcp, ho5, hg5⟩ := copy_four w4 w.heap.size g m m (m - 4) OUT (low X 4) (ho.grown hge) ao4 c4 (by simpa using ho4.shows) (by omega)))
      have hGe := hup (grown_trans hg hge (by simp)) hg5
      rw [HT.out, HB.out] at ho5
      clear hcp hg5 hge hgd hg3 hg4 ho4
      go_wp2
      go_ret2
      refine ⟨g, by rw [hZ.out]; rfl, ?_, hGe⟩
      rw [← hZ.out]
      have h9 : low (m - 4) 4 ++ low X 4 ++ bodyB base l = batB base l := by
        unfold batB
        rw [hXd.out, hBD.out, hZ.out, show 20 + szs l - 4 = 16 + szs l by omega]
      rw [← h9]
      exact ho5
end Go.Proofs.YtlghcboenkglnaaGreatDoor.Rec
