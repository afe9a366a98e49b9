/-
  cut's regions, where they end in the panic: the sum, a record.
-/
import Derived.Test.YtlghcboenkglnaaGreatDoorZan
import Derived.Test.YtlghcboenkglnaaGreatDoorZak
namespace Go.Proofs.YtlghcboenkglnaaGreatDoor.Rec
open Go.Proofs.YtlghcboenkglnaaGreatDoor
open Go.RowKit
set_option linter.unusedVariables false

set_option maxRecDepth 100000 in
set_option maxHeartbeats 8000000 in
theorem reg8_no {ops : Array Oper} (hops : Tryz.f165.body.bind (findReg 8) = some ops) {A0 : Act} {w0 : World} {z zc bb oo bn bc rb g base : Nat} {B : List UInt8} {i : Nat} {ro : Option Addr} {rc : Nat} {rs : List Rc} {x e0 : Value}
    (hK : Kc w0 z zc (some ⟨bb, oo, none⟩) bn bc rb x (.slice ro i rc) e0) (hC : Ct w0 (some ⟨bb, oo, none⟩) bn bc rb g B (posAt B i)) (hpn : bn < posAt B (i + 1)) (hpos : 0 < bn)
    {Q : Exit → Act → World → Prop} (hroom : A0.tmps.size = 50) (b2 : A0.tmps[2]? = some (.pointer (some ⟨z, 0, none⟩))) (b4 : A0.tmps[4]? = some (.pointer (some ⟨zc, 0, none⟩)))
    (hQ : ∀ a' w', a'.tmps.size = A0.tmps.size → a'.defers = A0.defers → a'.tmps[2]? = A0.tmps[2]? → a'.tmps[3]? = A0.tmps[3]? → w0.grownBy w' (some rb) → Q (.panic oops) a' w') :
    wpAny Tryz.prog .any ops Q 8 (Array.replicate 8 false) A0 w0 := by
  have hpp : posAt B i + 12 + kAt B (posAt B i) + vAt B (posAt B i) = posAt B (i + 1) := rfl
  have hrec : ∀ W, Ct W (some ⟨bb, oo, none⟩) bn bc rb g B (posAt B i) → Calls Tryz.prog 185 #[.agg #[.slice (some ⟨bb, oo, none⟩) bn bc, .pointer (some ⟨rb, 0, none⟩)]] W fun e w' => e = .panicked oops ∧ W.grownBy w' (some rb) := fun W hW => record_no W _ bn bc rb g B (posAt B i) hW hpos (by omega)
  have hops2 : ∃ ops', Tryz.f165.body.bind (findReg 8) = some ops' ∧ wpAny Tryz.prog .any ops' Q 8 (Array.replicate 8 false) A0 w0 := by
    refine ⟨_, rfl, ?_⟩
    refine any_order (J := fun l a w => J8 A0 w0 z bb oo bn bc rb g 0 B i ro rc rs l a w ∧ w = w0 ∧ l.getD 3 false = false ∧ l.getD 4 false = false ∧ l.getD 5 false = false ∧ l.getD 7 false = false) ?size ?step ?stop ?low _ _ _ _ ?init ?count
    case size => exact fun l a w h => h.1.fr.size
    case low => exact low_of (by kernel_rfl)
    case count => exact left_all 8
    case init =>
      have hno : ∀ j, (Array.replicate 8 false).getD j false = true → False := by
        intro j hj
        by_cases h9 : j < 8 <;> simp [h9] at hj
      exact ⟨⟨⟨rfl, rfl, rfl, fun _ _ => rfl⟩, fun j hj => (hno j hj).elim, fun h => (hno _ h).elim, fun h => (hno _ h).elim, fun h => (hno _ h).elim, .A rfl rfl rfl rfl rfl⟩, rfl, rfl, rfl, rfl, rfl⟩
    case stop =>
      intro l a' w' hJ hall
      have h7 := hall 7 (by simp)
      rw [hJ.2.2.2.2.2] at h7
      cases h7
    case step =>
      rintro l a' w' q op ⟨hJ, hw, n3, n4, n5, n7⟩ ho hl hdep
      subst hw
      have hq : q < 8 := by
        have h9 := (Array.getElem?_eq_some_iff.1 ho).1
        simpa using h9
      have e2 := hJ.fr.at b2 (by decide)
      have e4 := hJ.fr.at b4 (by decide)
      have hsz := hJ.fr.size
      have HR : Hid (A0.tmps.size = 50) := hroom
      have hc := hK.b1
      have hc0 := hK.c0
      have hc1 := hK.c1
      have four : ∀ q, q < 8 → q ≠ 3 → q ≠ 4 → q ≠ 5 → q ≠ 7 → (l.setIfInBounds q true).getD 3 false = false ∧ (l.setIfInBounds q true).getD 4 false = false ∧ (l.setIfInBounds q true).getD 5 false = false ∧ (l.setIfInBounds q true).getD 7 false = false := fun q h0 h1 h2 h3 h4 => by
        have o := fun j (hj : j ≠ q) => getD_other (l := l) (i := q) (j := j) hsz h0 hj
        exact ⟨(o 3 (fun e => h1 e.symm)).trans n3, (o 4 (fun e => h2 e.symm)).trans n4, (o 5 (fun e => h3 e.symm)).trans n5, (o 7 (fun e => h4 e.symm)).trans n7⟩
      clear hroom
      match q, hq with
      | 0, _ =>
        cases ho
        clear hdep
        refine wpOp_step rfl (fun K hK => ?_)
        go_simp
        exact hK _ _ ⟨hJ.quiet HR.out 0 27 rfl (by omega) _ (fun v hv => by cases hv; rfl), rfl, four 0 (by omega) (by omega) (by omega) (by omega) (by omega)⟩
      | 1, _ =>
        cases ho
        have x1 := hJ.tv 0 (hdep { on := 0, ground := .data } (by simp) rfl) 27 _ rfl rfl
        clear hdep
        refine wpOp_step rfl (fun K hK => ?_)
        go_simp
        exact hK _ _ ⟨hJ.quiet HR.out 1 28 rfl (by omega) _ (fun v hv => by cases hv; rfl), rfl, four 1 (by omega) (by omega) (by omega) (by omega) (by omega)⟩
      | 2, _ =>
        cases ho
        clear hdep
        refine wpOp_step rfl (fun K hK => ?_)
        go_simp
        exact hK _ _ ⟨hJ.quiet HR.out 2 29 rfl (by omega) _ (fun v hv => by cases hv; rfl), rfl, four 2 (by omega) (by omega) (by omega) (by omega) (by omega)⟩
      | 6, _ =>
        cases ho
        clear hdep
        refine wpOp_step rfl (fun K hK => ?_)
        go_simp
        exact hK _ _ ⟨hJ.quiet HR.out 6 33 rfl (by omega) _ (fun v hv => by cases hv; rfl), rfl, four 6 (by omega) (by omega) (by omega) (by omega) (by omega)⟩
      | 3, _ =>
        cases ho
        have x1 := hJ.tv 2 (hdep { on := 2, ground := .data } (by simp) rfl) 29 _ rfl rfl
        clear hdep
        refine wpOp_step rfl (fun K hK => ?_)
        go_simp
        go_at_call 185
        refine (hrec _ hC).mono ?_
        rintro e w2 ⟨rfl, hg2⟩
        exact hQ _ _ hJ.fr.room hJ.fr.defers (hJ.fr.same 2 (by decide)) (hJ.fr.same 3 (by decide)) hg2
      | 4, _ =>
        cases ho
        have h9 := hdep { on := 3, ground := .data } (by simp) rfl
        rw [n3] at h9; cases h9
      | 5, _ =>
        cases ho
        have h9 := hdep { on := 4, ground := .data } (by simp) rfl
        rw [n4] at h9; cases h9
      | 7, _ =>
        cases ho
        have h9 := hdep { on := 5, ground := .data } (by simp) rfl
        rw [n5] at h9; cases h9
  obtain ⟨ops', hh1, hh2⟩ := hops2
  rw [hops] at hh1
  cases hh1
  exact hh2
def sl4 : Nat → Option Nat
  | 0 => some 12 | 1 => some 13 | 2 => some 14 | 3 => some 15 | 4 => some 16 | 5 => some 17 | 6 => some 18 | _ => none
theorem sl4_lt {i s : Nat} (h : sl4 i = some s) : i < 7 ∧ s = 12 + i := by
  unfold sl4 at h
  split at h <;> simp_all
theorem sl4_inj (i j s : Nat) (hi : sl4 i = some s) (hj : sl4 j = some s) : i = j := by
  have h1 := sl4_lt hi
  have h2 := sl4_lt hj
  omega
def vals4 (c s b t x : Value) : Nat → Option Value
  | 0 => some c | 1 => some s | 2 => some b | 3 => some t | 5 => some x | 6 => some (.bool false) | _ => none
/-- How far the region of the sum has come. -/
structure J4 (A0 : Act) (w0 : World) (bb oo bn bc rb g : Nat) (B : List UInt8) (S X : Nat) (l : Array Bool) (a : Act) (w : World) : Prop where
  fr : Fr A0 A0.tmps [12, 13, 14, 15, 16, 17, 18] 8 l a
  tv : Tv sl4 (vals4 (.agg #[.slice (some ⟨bb, oo, none⟩) bn bc, .pointer (some ⟨rb, 0, none⟩)]) (.int .u32 S) (.slice (some ⟨bb, oo, none⟩) bn bc) (.slice (some ⟨bb, oo + 8, none⟩) (bn - 8 : Nat) (bc - 8 : Nat)) (.int .u32 X)) l a
  n7 : l.getD 7 false = false
  st : (l.getD 1 false = false ∧ Ct w (some ⟨bb, oo, none⟩) bn bc rb g B 4) ∨ (l.getD 1 false = true ∧ Ct w (some ⟨bb, oo, none⟩) bn bc rb g B 8)
  pc : l.getD 4 false = true → ∃ q, a.tmps[16]? = some (.slice (some ⟨q, 0, none⟩) 1 1) ∧ w.cell? ⟨q, 0, none⟩ = some (.slice (some ⟨bb, oo + 8, none⟩) (bn - 8 : Nat) (bc - 8 : Nat)) ∧ q ≠ rb
  gr : w0.grownBy w (some rb)
theorem J4.quiet {A0 : Act} {w0 : World} {bb oo bn bc rb g : Nat} {B : List UInt8} {S X : Nat} {l : Array Bool} {a : Act} {w w' : World} (hA : A0.tmps.size = 50) (h : J4 A0 w0 bb oo bn bc rb g B S X l a w) (hg : w.grownBy w' none) (q s : Nat) (hs : sl4 q = some s) (hq : q ≠ 1 ∧ q ≠ 4) (u : Value) (hu : ∀ v, vals4 (.agg #[.slice (some ⟨bb, oo, none⟩) bn bc, .pointer (some ⟨rb, 0, none⟩)]) (.int .u32 S) (.slice (some ⟨bb, oo, none⟩) bn bc) (.slice (some ⟨bb, oo + 8, none⟩) (bn - 8 : Nat) (bc - 8 : Nat)) (.int .u32 X) q = some v → u = v) : J4 A0 w0 bb oo bn bc rb g B S X (l.setIfInBounds q true) (a.put (some s) u) w' := by
  have h1 := sl4_lt hs
  have hsz := h.fr.size
  have o := fun j (hj : j ≠ q) => getD_other (l := l) (i := q) (j := j) hsz (by omega) hj
  refine ⟨h.fr.put q s u (by have h9 := h1.2; have h8 := h1.1; have : s = 12 ∨ s = 13 ∨ s = 14 ∨ s = 15 ∨ s = 16 ∨ s = 17 ∨ s = 18 := by omega
                             rcases this with rfl | rfl | rfl | rfl | rfl | rfl | rfl <;> decide), Tv.put h.fr h.tv sl4_inj (fun i s hs => by have := sl4_lt hs; omega) q s (by omega) hs u hu, ?_, ?_, ?_, grown_trans h.gr (grown_any hg (some rb)) (fun k hk => Or.inl hk)⟩
  · rw [o 7 (by omega)]; exact h.n7
  · rw [o 1 (fun e => hq.1 e.symm)]; exact h.st.imp (fun h9 => ⟨h9.1, h9.2.grown hg⟩) (fun h9 => ⟨h9.1, h9.2.grown hg⟩)
  · rw [o 4 (fun e => hq.2 e.symm)]
    intro h4
    obtain ⟨p, p1, p2, p3⟩ := h.pc h4
    exact ⟨p, by rw [put_other (by omega)]; exact p1, hg.cell p2 (by simp), p3⟩
set_option maxRecDepth 100000 in
set_option maxHeartbeats 8000000 in
theorem reg4_no {ops : Array Oper} (hops : Tryz.f165.body.bind (findReg 4) = some ops) {A0 : Act} {w0 : World} {z zc bb oo bn bc rb g : Nat} {B : List UInt8} {x y e0 : Value}
    (hK : Kc w0 z zc (some ⟨bb, oo, none⟩) bn bc rb x y e0) (hC : Ct w0 (some ⟨bb, oo, none⟩) bn bc rb g B 4) (nc : some zc ≠ some rb) (h32 : 32 ≤ bn) (hbr : bn ≤ bc) (hbc : bc ≤ 9223372036854775807) (hsum : sAt B ≠ sm (B.drop 8))
    {Q : Exit → Act → World → Prop} (hroom : A0.tmps.size = 50) (b0 : A0.tmps[0]? = some (.slice (some ⟨bb, oo, none⟩) bn bc)) (b4 : A0.tmps[4]? = some (.pointer (some ⟨zc, 0, none⟩)))
    (hQ : ∀ a' w', a'.tmps.size = A0.tmps.size → a'.defers = A0.defers → a'.tmps[2]? = A0.tmps[2]? → a'.tmps[3]? = A0.tmps[3]? → w0.grownBy w' (some rb) → Q (.panic oops) a' w') :
    wpAny Tryz.prog .any ops Q 8 (Array.replicate 8 false) A0 w0 := by
  obtain ⟨BODY, hBD⟩ : ∃ Y, Hid (Y = B.drop 8) := ⟨B.drop 8, (rfl : _ = _)⟩
  obtain ⟨X, hX⟩ : ∃ X, Hid (X = sm BODY) := ⟨sm BODY, (rfl : _ = _)⟩
  obtain ⟨S, hS⟩ : ∃ S, Hid (S = sAt B) := ⟨sAt B, (rfl : _ = _)⟩
  have hSX : ((S : Int) == (X : Int)) = false := by
    have : S ≠ X := by rw [hS.out, hX.out, hBD.out]; exact hsum
    simp; omega
  have hsumC : ∀ W po m c, Pc W po m c [BODY] → Calls Tryz.prog 104 #[.slice po m c] W fun e w' => e = .returned (.int .u32 X) ∧ W.grownBy w' none := fun W po m c h => by
    have h9 := sum_any W po m c [BODY] h
    rw [hX.out]
    simpa using h9
  have hn4 : ∀ W, Ct W (some ⟨bb, oo, none⟩) bn bc rb g B 4 → Calls Tryz.prog 183 #[.agg #[.slice (some ⟨bb, oo, none⟩) bn bc, .pointer (some ⟨rb, 0, none⟩)]] W fun e w' => e = .returned (.int .u32 S) ∧ Ct w' (some ⟨bb, oo, none⟩) bn bc rb g B 8 ∧ W.grownBy w' (some rb) := fun W hW => by
    have h9 := number4_yes W (some ⟨bb, oo, none⟩) bn bc rb g B 4 hW (by omega)
    rw [hS.out]
    exact h9
  have hB8 : ∀ W, Ct W (some ⟨bb, oo, none⟩) bn bc rb g B 8 → Bs W (some ⟨bb, oo + 8, none⟩) (bn - 8) (bc - 8) BODY := fun W hW => by
    rw [hBD.out]
    exact hW.bytes.drop 8 (by omega) (oo + 8) (Or.inr rfl)
  have i1 : (8 : Int) ≤ (bn : Int) := by omega
  have i2 : 8 ≤ bn := by omega
  have i3 : ¬ bn = 8 := by omega
  have i4 : ¬ bc = 8 := by omega
  have i5 : (8 : Int) ≤ (bc : Int) := by omega
  have hrb0 := hC.rbl
  have hops2 : ∃ ops', Tryz.f165.body.bind (findReg 4) = some ops' ∧ wpAny Tryz.prog .any ops' Q 8 (Array.replicate 8 false) A0 w0 := by
    refine ⟨_, rfl, ?_⟩
    refine any_order (J := J4 A0 w0 bb oo bn bc rb g B S X) ?size ?step ?stop ?low _ _ _ _ ?init ?count
    case size => exact fun l a w h => h.fr.size
    case low => exact low_of (by kernel_rfl)
    case count => exact left_all 8
    case init =>
      have hno : ∀ j, (Array.replicate 8 false).getD j false = true → False := by
        intro j hj
        by_cases h9 : j < 8 <;> simp [h9] at hj
      exact ⟨⟨rfl, rfl, rfl, fun _ _ => rfl⟩, fun j hj => (hno j hj).elim, rfl, Or.inl ⟨rfl, hC⟩, fun h => (hno _ h).elim, grown_refl _ _⟩
    case stop =>
      intro l a' w' hJ hall
      have h7 := hall 7 (by simp)
      rw [hJ.n7] at h7
      cases h7
    case step =>
      intro l a' w' q op hJ ho hl hdep
      have hq : q < 8 := by
        have h9 := (Array.getElem?_eq_some_iff.1 ho).1
        simpa using h9
      have e0 := hJ.fr.at b0 (by decide)
      have e4 := hJ.fr.at b4 (by decide)
      have hsz := hJ.fr.size
      have HR : Hid (A0.tmps.size = 50) := hroom
      have hc0 := hJ.gr.cell hK.c0 nc
      have hc1 := hJ.gr.cell hK.c1 nc
      have hlf : l.getD q false = false := by
        have hl9 : q < l.size := by omega
        simp only [Array.getD_eq_getD_getElem?, Array.getElem?_eq_getElem hl9, Option.getD_some] at hl ⊢
        exact hl
      clear hroom
      match q, hq with
      | 0, _ =>
        cases ho
        clear hdep
        refine wpOp_step rfl (fun K hK => ?_)
        go_simp
        exact hK _ _ (hJ.quiet HR.out (grown_refl _ _) 0 12 rfl (by omega) _ (fun v hv => by cases hv; rfl))
      | 1, _ =>
        cases ho
        have x1 := hJ.tv 0 (hdep { on := 0, ground := .data } (by simp) rfl) 12 _ rfl rfl
        clear hdep
        rcases hJ.st with ⟨_, hC4⟩ | ⟨h1, _⟩
        · refine wpOp_step rfl (fun K hK => ?_)
          go_simp
          go_at_call 183
          refine (hn4 _ hC4).mono ?_
          rintro e w2 ⟨rfl, hC8, hg2⟩
          have o := fun j (hj : j ≠ 1) => getD_other (l := l) (i := 1) (j := j) hsz (by omega) hj
          refine hK _ _ ⟨hJ.fr.put 1 13 _ (by decide), Tv.put hJ.fr hJ.tv sl4_inj (fun i s hs => by have := sl4_lt hs; have h9 := HR.out; omega) 1 13 (by omega) rfl _ (fun v hv => by cases hv; rfl), ?_, ?_, ?_, grown_trans hJ.gr hg2 (fun k hk => Or.inl hk)⟩
          · rw [o 7 (by omega)]; exact hJ.n7
          · exact Or.inr ⟨by rw [getD_set (by omega), if_pos rfl], hC8⟩
          · rw [o 4 (by omega)]
            intro h4
            obtain ⟨p, p1, p2, p3⟩ := hJ.pc h4
            exact ⟨p, (put_other (a := a') (s := 13) (t := 16) (by omega)).trans p1, hg2.cell p2 (by simpa using p3), p3⟩
        · rw [hlf] at h1; cases h1
      | 2, _ =>
        cases ho
        clear hdep
        refine wpOp_step rfl (fun K hK => ?_)
        go_simp
        exact hK _ _ (hJ.quiet HR.out (grown_refl _ _) 2 14 rfl (by omega) _ (fun v hv => by cases hv; rfl))
      | 3, _ =>
        cases ho
        have x1 := hJ.tv 2 (hdep { on := 2, ground := .data } (by simp) rfl) 14 _ rfl rfl
        clear hdep
        refine wpOp_step rfl (fun K hK => ?_)
        go_simp
        exact hK _ _ (hJ.quiet HR.out (grown_refl _ _) 3 15 rfl (by omega) _ (fun v hv => by cases hv; rfl))
      | 4, _ =>
        cases ho
        have x1 := hJ.tv 3 (hdep { on := 3, ground := .data } (by simp) rfl) 15 _ rfl rfl
        clear hdep
        refine wpOp_step rfl (fun K hK => ?_)
        go_simp
        have ga := alloc_grown w' (.cells #[.slice (some ⟨bb, oo + 8, none⟩) (bn - 8 : Nat) (bc - 8 : Nat)] 48)
        have o := fun j (hj : j ≠ 4) => getD_other (l := l) (i := 4) (j := j) hsz (by omega) hj
        refine hK _ _ ⟨hJ.fr.put 4 16 _ (by decide), Tv.put hJ.fr hJ.tv sl4_inj (fun i s hs => by have := sl4_lt hs; have h9 := HR.out; omega) 4 16 (by omega) rfl _ (fun v hv => by cases hv), ?_, ?_, ?_, grown_trans hJ.gr (grown_any ga (some rb)) (fun k hk => Or.inl hk)⟩
        · rw [o 7 (by omega)]; exact hJ.n7
        · rw [o 1 (by omega)]; exact hJ.st.imp (fun h9 => ⟨h9.1, h9.2.grown ga⟩) (fun h9 => ⟨h9.1, h9.2.grown ga⟩)
        · intro _
          exact ⟨w'.heap.size, put_self (by have h8 := hJ.fr.room; have h9 := HR.out; omega), by simp, by have := hJ.gr.size; omega⟩
      | 5, _ =>
        cases ho
        obtain ⟨p, p1, p2, p3⟩ := hJ.pc (hdep { on := 4, ground := .data } (by simp) rfl)
        have hd1 := hdep { on := 1, ground := .chain } (by simp) rfl
        clear hdep
        rcases hJ.st with ⟨h1, _⟩ | ⟨_, hC8⟩
        · rw [hd1] at h1; cases h1
        · refine wpOp_step rfl (fun K hK => ?_)
          go_simp
          go_at_call 104
          refine (hsumC _ _ _ _ (Pc.of1 p2 (hB8 _ hC8))).mono ?_
          rintro e w2 ⟨rfl, hg2⟩
          exact hK _ _ (hJ.quiet HR.out hg2 5 17 rfl (by omega) _ (fun v hv => by cases hv; rfl))
      | 6, _ =>
        cases ho
        have x1 := hJ.tv 1 (hdep { on := 1, ground := .data } (by simp) rfl) 13 _ rfl rfl
        have x5 := hJ.tv 5 (hdep { on := 5, ground := .data } (by simp) rfl) 17 _ rfl rfl
        clear hdep
        refine wpOp_step rfl (fun K hK => ?_)
        go_simp
        exact hK _ _ (hJ.quiet HR.out (grown_refl _ _) 6 18 rfl (by omega) _ (fun v hv => by cases hv; rfl))
      | 7, _ =>
        cases ho
        have x1 := hJ.tv 6 (hdep { on := 6, ground := .data } (by simp) rfl) 18 _ rfl rfl
        clear hdep
        refine wpOp_step rfl (fun K hK => ?_)
        go_simp
        go_at_call 182
        refine (need_no _).mono ?_
        rintro e w2 ⟨rfl, hw2⟩
        subst hw2
        exact hQ _ _ hJ.fr.room hJ.fr.defers (hJ.fr.same 2 (by decide)) (hJ.fr.same 3 (by decide)) hJ.gr
  obtain ⟨ops', hh1, hh2⟩ := hops2
  rw [hops] at hh1
  cases hh1
  exact hh2
end Go.Proofs.YtlghcboenkglnaaGreatDoor.Rec
