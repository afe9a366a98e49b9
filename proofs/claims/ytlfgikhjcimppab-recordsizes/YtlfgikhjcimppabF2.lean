/-
  A record that is not all there: the cutter gives up.
-/
import Derived.Test.YtlfgikhjcimppabF1
import Derived.Test.YtlfgikhjcimppabOrd
namespace Go.Proofs.Ytlfgikhjcimppab
open Go.RowKit
set_option linter.unusedVariables false

def sl3 : Nat → Option Nat
  | 0 => some 9 | 1 => some 10 | 2 => some 11 | 3 => some 12 | _ => none
theorem sl3_lt {i s : Nat} (h : sl3 i = some s) : i < 4 ∧ s = 9 + i := by
  unfold sl3 at h
  split at h <;> simp_all
theorem sl3_inj (i j s : Nat) (hi : sl3 i = some s) (hj : sl3 j = some s) : i = j := by
  have h1 := sl3_lt hi
  have h2 := sl3_lt hj
  omega
def vals3 (c n : Value) : Nat → Option Value
  | 0 => some c | 1 => some n | 3 => some c | _ => none
/-- How far record's region with two numbers has come, ahead of the second. -/
structure J3 (A0 : Act) (w0 : World) (bo : Option Addr) (bn bc rb g : Nat) (B : List UInt8) (i N : Nat) (l : Array Bool) (a : Act) (w : World) : Prop where
  fr : Fr A0 A0.tmps [9, 10, 11, 12] 8 l a
  tv : Tv sl3 (vals3 (.agg #[.slice bo bn bc, .pointer (some ⟨rb, 0, none⟩)]) (.int .u16 N)) l a
  n4 : l.getD 4 false = false
  n5 : l.getD 5 false = false
  n6 : l.getD 6 false = false
  n7 : l.getD 7 false = false
  st : (l.getD 1 false = false ∧ w = w0) ∨ (l.getD 1 false = true ∧ Ct w bo bn bc rb g B (i + 10))
  gr : w0.grownBy w (some rb)
theorem J3.quiet {A0 : Act} {w0 : World} {bo : Option Addr} {bn bc rb g : Nat} {B : List UInt8} {i N : Nat} {l : Array Bool} {a : Act} {w : World} (hA : A0.tmps.size = 24) (h : J3 A0 w0 bo bn bc rb g B i N l a w) (q s : Nat) (hs : sl3 q = some s) (hq : q ≠ 1) (u : Value) (hu : ∀ v, vals3 (.agg #[.slice bo bn bc, .pointer (some ⟨rb, 0, none⟩)]) (.int .u16 N) q = some v → u = v) : J3 A0 w0 bo bn bc rb g B i N (l.setIfInBounds q true) (a.put (some s) u) w := by
  have h1 := sl3_lt hs
  have hsz := h.fr.size
  have o := fun j (hj : j ≠ q) => getD_other (l := l) (i := q) (j := j) hsz (by omega) hj
  refine ⟨h.fr.put q s u (by have h9 := h1.2; have h8 := h1.1; have : s = 9 ∨ s = 10 ∨ s = 11 ∨ s = 12 := by omega
                             rcases this with rfl | rfl | rfl | rfl <;> decide), Tv.put h.fr h.tv sl3_inj (fun i s hs => by have := sl3_lt hs; omega) q s (by omega) hs u hu, ?_, ?_, ?_, ?_, ?_, h.gr⟩
  · rw [o 4 (by omega)]; exact h.n4
  · rw [o 5 (by omega)]; exact h.n5
  · rw [o 6 (by omega)]; exact h.n6
  · rw [o 7 (by omega)]; exact h.n7
  · rw [o 1 (fun e => hq e.symm)]; exact h.st
set_option maxRecDepth 100000 in
set_option maxHeartbeats 4000000 in
theorem reg3_no {ops : Array Oper} (hops : Try.f47.body.bind (findReg 3) = some ops) {A0 : Act} {w0 : World} {z : Nat} {bo : Option Addr} {bn bc rb g : Nat} {B : List UInt8} {i : Nat}
    (c0 : w0.cell? ⟨z, 0, none⟩ = some (.slice bo bn bc)) (c1 : w0.cell? ⟨z, 1, none⟩ = some (.pointer (some ⟨rb, 0, none⟩))) (hz : some z ≠ some rb) (hC : Ct w0 bo bn bc rb g B (i + 8)) (hk : bn < i + 12)
    {Q : Exit → Act → World → Prop} (hroom : A0.tmps.size = 24) (b1 : A0.tmps[1]? = some (.pointer (some ⟨z, 0, none⟩)))
    (hQ : ∀ a' w', a'.defers = A0.defers → w0.grownBy w' (some rb) → Q (.panic oops) a' w') :
    wpAny Try.prog .any ops Q 8 (Array.replicate 8 false) A0 w0 := by
  obtain ⟨N, hN⟩ : ∃ N, Hid (N = val ((B.drop (i + 8)).take 2)) := ⟨_, (rfl : val ((B.drop (i + 8)).take 2) = _)⟩
  have hn2 : ∀ W, Ct W bo bn bc rb g B (i + 10) → Calls Try.prog 56 #[.agg #[.slice bo bn bc, .pointer (some ⟨rb, 0, none⟩)]] W fun e w' => e = .panicked oops ∧ W.grownBy w' (some rb) := fun W hW => number2_no W bo bn bc rb g B (i + 10) hW (by omega)
  have hops2 : ∃ ops', Try.f47.body.bind (findReg 3) = some ops' ∧ wpAny Try.prog .any ops' Q 8 (Array.replicate 8 false) A0 w0 := by
    refine ⟨_, rfl, ?_⟩
    refine any_order (J := J3 A0 w0 bo bn bc rb g B i N) ?size ?step ?stop ?low _ _ _ _ ?init ?count
    case size => exact fun l a w h => h.fr.size
    case low => exact low_of (by kernel_rfl)
    case count => exact left_all 8
    case init =>
      have hno : ∀ j, (Array.replicate 8 false).getD j false = true → False := by
        intro j hj
        by_cases h9 : j < 8 <;> simp [h9] at hj
      exact ⟨⟨rfl, rfl, rfl, fun _ _ => rfl⟩, fun j hj => (hno j hj).elim, rfl, rfl, rfl, rfl, Or.inl ⟨rfl, rfl⟩, grown_refl _ _⟩
    case stop =>
      intro l a' w' hJ hall
      have h7 := hall 7 (by simp)
      rw [hJ.n7] at h7
      cases h7
    case step =>
      intro l a' w' q op hJ ho hl hdep
      have hq : q < 8 := by
        have h9 := (Array.getElem?_eq_some_iff.1 ho).1
        simpa using h9
      have e1 := hJ.fr.at b1 (by decide)
      have hsz := hJ.fr.size
      have HR : Hid (A0.tmps.size = 24) := hroom
      have x0 := hJ.gr.cell c0 hz
      have x1 := hJ.gr.cell c1 hz
      have hlf : l.getD q false = false := by
        have hl9 : q < l.size := by omega
        simp only [Array.getD_eq_getD_getElem?, Array.getElem?_eq_getElem hl9, Option.getD_some] at hl ⊢
        exact hl
      clear hroom
      match q, hq with
      | 0, _ =>
        cases ho
        clear hdep
        refine wpOp_step rfl (fun K hK => ?_)
        go_simp
        exact hK _ _ (hJ.quiet HR.out 0 9 rfl (by omega) _ (fun v hv => by cases hv; rfl))
      | 3, _ =>
        cases ho
        clear hdep
        refine wpOp_step rfl (fun K hK => ?_)
        go_simp
        exact hK _ _ (hJ.quiet HR.out 3 12 rfl (by omega) _ (fun v hv => by cases hv; rfl))
      | 1, _ =>
        cases ho
        have y := hJ.tv 0 (hdep { on := 0, ground := .data } (by simp) rfl) 9 _ rfl rfl
        clear hdep
        rcases hJ.st with ⟨_, hw⟩ | ⟨h1, _⟩
        · subst hw
          refine wpOp_step rfl (fun K hK => ?_)
          go_simp
          go_at_call 56
          by_cases hk2 : bn < i + 10
          · refine (number2_no _ bo bn bc rb g B (i + 8) hC (by omega)).mono ?_
            rintro e w2 ⟨rfl, hg2⟩
            exact hQ _ _ hJ.fr.defers hg2
          · refine (number2_yes _ bo bn bc rb g B (i + 8) hC (by omega)).mono ?_
            rintro e w2 ⟨rfl, hC2, hg2⟩
            have o := fun j (hj : j ≠ 1) => getD_other (l := l) (i := 1) (j := j) hsz (by omega) hj
            refine hK _ _ ⟨hJ.fr.put 1 10 _ (by decide), Tv.put hJ.fr hJ.tv sl3_inj (fun i s hs => by have := sl3_lt hs; have h9 := HR.out; omega) 1 10 (by omega) rfl _ (fun v hv => by cases hv; rw [hN.out]), ?_, ?_, ?_, ?_, ?_, hg2⟩
            · rw [o 4 (by omega)]; exact hJ.n4
            · rw [o 5 (by omega)]; exact hJ.n5
            · rw [o 6 (by omega)]; exact hJ.n6
            · rw [o 7 (by omega)]; exact hJ.n7
            · exact Or.inr ⟨by rw [getD_set (by omega), if_pos rfl], hC2⟩
        · rw [hlf] at h1; cases h1
      | 2, _ =>
        cases ho
        have y := hJ.tv 1 (hdep { on := 1, ground := .data } (by simp) rfl) 10 _ rfl rfl
        clear hdep
        refine wpOp_step rfl (fun K hK => ?_)
        go_simp
        exact hK _ _ (hJ.quiet HR.out 2 11 rfl (by omega) _ (fun v hv => by cases hv))
      | 4, _ =>
        cases ho
        have y := hJ.tv 3 (hdep { on := 3, ground := .data } (by simp) rfl) 12 _ rfl rfl
        have hd1 := hdep { on := 1, ground := .chain } (by simp) rfl
        clear hdep
        rcases hJ.st with ⟨h1, _⟩ | ⟨_, hC2⟩
        · rw [hd1] at h1; cases h1
        · refine wpOp_step rfl (fun K hK => ?_)
          go_simp
          go_at_call 56
          refine (hn2 _ hC2).mono ?_
          rintro e w2 ⟨rfl, hg2⟩
          exact hQ _ _ hJ.fr.defers (grown_trans hJ.gr hg2 (fun k hk => Or.inl hk))
      | 5, _ =>
        cases ho
        have h9 := hdep { on := 4, ground := .data } (by simp) rfl
        rw [hJ.n4] at h9; cases h9
      | 6, _ =>
        cases ho
        have h9 := hdep { on := 4, ground := .chain } (by simp) rfl
        rw [hJ.n4] at h9; cases h9
      | 7, _ =>
        cases ho
        have h9 := hdep { on := 5, ground := .data } (by simp) rfl
        rw [hJ.n5] at h9; cases h9
  obtain ⟨ops', hh1, hh2⟩ := hops2
  rw [hops] at hh1
  cases hh1
  exact hh2
set_option maxRecDepth 100000 in
set_option maxHeartbeats 4000000 in
theorem record_no1 (w : World) (bo : Option Addr) (bn bc rb g : Nat) (B : List UInt8) (i : Nat) (h : Ct w bo bn bc rb g B i) (hpos : 0 < bn) (hk : bn < i + 8) :
    Calls Try.prog 47 #[.agg #[.slice bo bn bc, .pointer (some ⟨rb, 0, none⟩)]] w fun e w' => e = .panicked oops ∧ w.grownBy w' (some rb) := by
  have hrbl := h.rbl
  go_enter Try.func47, Try.ntmps47
  go_wp2_with fail
  have hg0 : w.grownBy (((w.alloc (.cells #[.slice bo bn bc, .pointer (some ⟨rb, 0, none⟩)] 91)).alloc (.cells #[.int .i64 0, .slice none 0 0, .slice none 0 0] 37)).alloc (.cells #[.int .i64 0, .slice none 0 0, .slice none 0 0] 37)) none := grown_trans (grown_trans (alloc_grown _ _) (alloc_grown _ _) (by simp)) (alloc_grown _ _) (by simp)
  have hL0 : Lc (((w.alloc (.cells #[.slice bo bn bc, .pointer (some ⟨rb, 0, none⟩)] 91)).alloc (.cells #[.int .i64 0, .slice none 0 0, .slice none 0 0] 37)).alloc (.cells #[.int .i64 0, .slice none 0 0, .slice none 0 0] 37)) w.heap.size bo bn bc rb (.int .i64 0) (.slice none 0 0) (.slice none 0 0) := by
    have s1 : (w.alloc (.cells #[.slice bo bn bc, .pointer (some ⟨rb, 0, none⟩)] 91)).heap.size = w.heap.size + 1 := by simp
    have s2 : ((w.alloc (.cells #[.slice bo bn bc, .pointer (some ⟨rb, 0, none⟩)] 91)).alloc (.cells #[.int .i64 0, .slice none 0 0, .slice none 0 0] 37)).heap.size = w.heap.size + 1 + 1 := by simp
    have g2 := alloc_grown ((w.alloc (.cells #[.slice bo bn bc, .pointer (some ⟨rb, 0, none⟩)] 91)).alloc (.cells #[.int .i64 0, .slice none 0 0, .slice none 0 0] 37)) (.cells #[.int .i64 0, .slice none 0 0, .slice none 0 0] 37)
    have g1 := grown_trans (alloc_grown (w.alloc (.cells #[.slice bo bn bc, .pointer (some ⟨rb, 0, none⟩)] 91)) (.cells #[.int .i64 0, .slice none 0 0, .slice none 0 0] 37)) g2 (by simp)
    have k1 := heap_alloc_new (w.alloc (.cells #[.slice bo bn bc, .pointer (some ⟨rb, 0, none⟩)] 91)) (.cells #[.int .i64 0, .slice none 0 0, .slice none 0 0] 37)
    have k2 := heap_alloc_new ((w.alloc (.cells #[.slice bo bn bc, .pointer (some ⟨rb, 0, none⟩)] 91)).alloc (.cells #[.int .i64 0, .slice none 0 0, .slice none 0 0] 37)) (.cells #[.int .i64 0, .slice none 0 0, .slice none 0 0] 37)
    rw [s1] at k1
    rw [s2] at k2
    have l1 : w.heap.size + 1 < ((w.alloc (.cells #[.slice bo bn bc, .pointer (some ⟨rb, 0, none⟩)] 91)).alloc (.cells #[.int .i64 0, .slice none 0 0, .slice none 0 0] 37)).heap.size := by rw [s2]; omega
    have k1' := (g2.block _ l1 (by simp)).trans k1
    refine ⟨g1.cell (by simp) (by simp), g1.cell (by simp) (by simp), ?_, ?_, ?_, ?_, ?_, ?_, fun i => ?_, fun i => ?_, ?_⟩
    · exact cell_of k1' rfl
    · exact cell_of k1' rfl
    · exact cell_of k1' rfl
    · exact cell_of k2 rfl
    · exact cell_of k2 rfl
    · exact cell_of k2 rfl
    · exact frozen_of k1' i
    · exact frozen_of k2 i
    · have := g2.size
      simp
  have hgz : g < w.heap.size := by obtain ⟨o, n, cap, hr, _⟩ := h.rd; exact hr.gl
  have hbz : ∀ b, bo = some b → b.block < w.heap.size := fun b hb => by obtain ⟨b1, o1, e1, hl⟩ := h.bytes.addr hpos; rw [hb] at e1; obtain rfl := Option.some.inj e1; exact hl
  have h0 := h.grown hg0
  generalize (((w.alloc (.cells #[.slice bo bn bc, .pointer (some ⟨rb, 0, none⟩)] 91)).alloc (.cells #[.int .i64 0, .slice none 0 0, .slice none 0 0] 37)).alloc (.cells #[.int .i64 0, .slice none 0 0, .slice none 0 0] 37)) = w0 at *
  have hlow : ∀ {W W' : World}, w.grownBy W (some rb) → W.grownBy W' (some (w.heap.size + 1 + 1)) → w.grownBy W' (some rb) := fun h1 h2 => grown_trans h1 h2 (fun k hk => Or.inr (by cases hk; omega))
  have hG0 := grown_any hg0 (some rb)
  generalize hz : w.heap.size = z at *
  clear h hg0
  refine (number8_no _ bo bn bc rb g B i h0 (by omega)).mono ?_
  rintro e w1 ⟨rfl, hg1⟩
  have hG1 := grown_trans hG0 hg1 (fun k hk => Or.inl hk)
  go_wp2
  exact ⟨rfl, rfl, hG1⟩
set_option maxRecDepth 100000 in
set_option maxHeartbeats 4000000 in
theorem record_no2 (w : World) (bo : Option Addr) (bn bc rb g : Nat) (B : List UInt8) (i : Nat) (h : Ct w bo bn bc rb g B i) (hpos : 0 < bn) (h8 : i + 8 ≤ bn) (hk : bn < i + 12) :
    Calls Try.prog 47 #[.agg #[.slice bo bn bc, .pointer (some ⟨rb, 0, none⟩)]] w fun e w' => e = .panicked oops ∧ w.grownBy w' (some rb) := by
  have hrbl := h.rbl
  go_enter Try.func47, Try.ntmps47
  go_wp2_with fail
  have hg0 : w.grownBy (((w.alloc (.cells #[.slice bo bn bc, .pointer (some ⟨rb, 0, none⟩)] 91)).alloc (.cells #[.int .i64 0, .slice none 0 0, .slice none 0 0] 37)).alloc (.cells #[.int .i64 0, .slice none 0 0, .slice none 0 0] 37)) none := grown_trans (grown_trans (alloc_grown _ _) (alloc_grown _ _) (by simp)) (alloc_grown _ _) (by simp)
  have hL0 : Lc (((w.alloc (.cells #[.slice bo bn bc, .pointer (some ⟨rb, 0, none⟩)] 91)).alloc (.cells #[.int .i64 0, .slice none 0 0, .slice none 0 0] 37)).alloc (.cells #[.int .i64 0, .slice none 0 0, .slice none 0 0] 37)) w.heap.size bo bn bc rb (.int .i64 0) (.slice none 0 0) (.slice none 0 0) := by
    have s1 : (w.alloc (.cells #[.slice bo bn bc, .pointer (some ⟨rb, 0, none⟩)] 91)).heap.size = w.heap.size + 1 := by simp
    have s2 : ((w.alloc (.cells #[.slice bo bn bc, .pointer (some ⟨rb, 0, none⟩)] 91)).alloc (.cells #[.int .i64 0, .slice none 0 0, .slice none 0 0] 37)).heap.size = w.heap.size + 1 + 1 := by simp
    have g2 := alloc_grown ((w.alloc (.cells #[.slice bo bn bc, .pointer (some ⟨rb, 0, none⟩)] 91)).alloc (.cells #[.int .i64 0, .slice none 0 0, .slice none 0 0] 37)) (.cells #[.int .i64 0, .slice none 0 0, .slice none 0 0] 37)
    have g1 := grown_trans (alloc_grown (w.alloc (.cells #[.slice bo bn bc, .pointer (some ⟨rb, 0, none⟩)] 91)) (.cells #[.int .i64 0, .slice none 0 0, .slice none 0 0] 37)) g2 (by simp)
    have k1 := heap_alloc_new (w.alloc (.cells #[.slice bo bn bc, .pointer (some ⟨rb, 0, none⟩)] 91)) (.cells #[.int .i64 0, .slice none 0 0, .slice none 0 0] 37)
    have k2 := heap_alloc_new ((w.alloc (.cells #[.slice bo bn bc, .pointer (some ⟨rb, 0, none⟩)] 91)).alloc (.cells #[.int .i64 0, .slice none 0 0, .slice none 0 0] 37)) (.cells #[.int .i64 0, .slice none 0 0, .slice none 0 0] 37)
    rw [s1] at k1
    rw [s2] at k2
    have l1 : w.heap.size + 1 < ((w.alloc (.cells #[.slice bo bn bc, .pointer (some ⟨rb, 0, none⟩)] 91)).alloc (.cells #[.int .i64 0, .slice none 0 0, .slice none 0 0] 37)).heap.size := by rw [s2]; omega
    have k1' := (g2.block _ l1 (by simp)).trans k1
    refine ⟨g1.cell (by simp) (by simp), g1.cell (by simp) (by simp), ?_, ?_, ?_, ?_, ?_, ?_, fun i => ?_, fun i => ?_, ?_⟩
    · exact cell_of k1' rfl
    · exact cell_of k1' rfl
    · exact cell_of k1' rfl
    · exact cell_of k2 rfl
    · exact cell_of k2 rfl
    · exact cell_of k2 rfl
    · exact frozen_of k1' i
    · exact frozen_of k2 i
    · have := g2.size
      simp
  have hgz : g < w.heap.size := by obtain ⟨o, n, cap, hr, _⟩ := h.rd; exact hr.gl
  have hbz : ∀ b, bo = some b → b.block < w.heap.size := fun b hb => by obtain ⟨b1, o1, e1, hl⟩ := h.bytes.addr hpos; rw [hb] at e1; obtain rfl := Option.some.inj e1; exact hl
  have h0 := h.grown hg0
  generalize (((w.alloc (.cells #[.slice bo bn bc, .pointer (some ⟨rb, 0, none⟩)] 91)).alloc (.cells #[.int .i64 0, .slice none 0 0, .slice none 0 0] 37)).alloc (.cells #[.int .i64 0, .slice none 0 0, .slice none 0 0] 37)) = w0 at *
  have hlow : ∀ {W W' : World}, w.grownBy W (some rb) → W.grownBy W' (some (w.heap.size + 1 + 1)) → w.grownBy W' (some rb) := fun h1 h2 => grown_trans h1 h2 (fun k hk => Or.inr (by cases hk; omega))
  have hG0 := grown_any hg0 (some rb)
  generalize hz : w.heap.size = z at *
  clear h hg0
  refine (number8_yes _ bo bn bc rb g B i h0 (by omega)).mono ?_
  rintro e w1 ⟨rfl, hc1, hg1⟩
  have hL1 := hL0.kept hg1 hrbl
  have hG1 := grown_trans hG0 hg1 (fun k hk => Or.inl hk)
  clear hL0 hG0 hg1 h0
  obtain ⟨T, hT⟩ : ∃ T, Hid (T = tAt B i) := ⟨tAt B i, (rfl : _ = _)⟩
  rw [show wrap64 ((val ((B.drop i).take 8) : Nat) : Int) = T from hT.out.symm]
  have hfe := hL1.fe
  have e0 := hL1.e0
  go_wp2_with fail
  have hs2 := setCell_grown w1 (z + 1 + 1) 0 (.int .i64 T)
  have hL2 := (hL1.set (.int .i64 T)).1
  have hzr : some (z + 1 + 1) ≠ some rb := by simp; omega
  have hzg : some (z + 1 + 1) ≠ some g := by simp; omega
  have hzb : ∀ b, bo = some b → some b.block ≠ some (z + 1 + 1) := fun b hb => by have := hbz b hb; simp; omega
  have hc2 := hc1.kept hs2 hzr hzg hzb
  have hG2 := hlow hG1 hs2
  clear hL1 hc1 hs2 hG1 hfe e0
  generalize w1.setCell ⟨z + 1 + 1, 0, none⟩ (.int .i64 T) = w2 at *
  have hzn : some z ≠ some rb := by simp; omega
  refine wp_region_any (by kernel_rfl) ?_
  change wpAny _ _ _ _ _ _ _ (World.drew _)
  have hd0 := grown_drew w2 none
  have hd1 := grown_drew w2 (some rb)
  have p0 := hd0.cell hL2.c0 (by simp)
  have p1 := hd0.cell hL2.c1 (by simp)
  refine reg3_no (by kernel_rfl) p0 p1 hzn (hc2.grown hd0) hk rfl rfl ?_
  intro a' w' hdf hg
  refine ⟨hdf, rfl, ?_⟩
  exact grown_trans (grown_trans hG2 hd1 (fun k hk => Or.inl hk)) hg (fun k hk => Or.inl hk)
set_option maxRecDepth 100000 in
set_option maxHeartbeats 4000000 in
theorem record_no4 (w : World) (bo : Option Addr) (bn bc rb g : Nat) (B : List UInt8) (i : Nat) (h : Ct w bo bn bc rb g B i) (hpos : 0 < bn) (h8 : i + 12 ≤ bn) (hk : bn < i + 12 + kAt B i) :
    Calls Try.prog 47 #[.agg #[.slice bo bn bc, .pointer (some ⟨rb, 0, none⟩)]] w fun e w' => e = .panicked oops ∧ w.grownBy w' (some rb) := by
  have hrbl := h.rbl
  go_enter Try.func47, Try.ntmps47
  go_wp2_with fail
  have hg0 : w.grownBy (((w.alloc (.cells #[.slice bo bn bc, .pointer (some ⟨rb, 0, none⟩)] 91)).alloc (.cells #[.int .i64 0, .slice none 0 0, .slice none 0 0] 37)).alloc (.cells #[.int .i64 0, .slice none 0 0, .slice none 0 0] 37)) none := grown_trans (grown_trans (alloc_grown _ _) (alloc_grown _ _) (by simp)) (alloc_grown _ _) (by simp)
  have hL0 : Lc (((w.alloc (.cells #[.slice bo bn bc, .pointer (some ⟨rb, 0, none⟩)] 91)).alloc (.cells #[.int .i64 0, .slice none 0 0, .slice none 0 0] 37)).alloc (.cells #[.int .i64 0, .slice none 0 0, .slice none 0 0] 37)) w.heap.size bo bn bc rb (.int .i64 0) (.slice none 0 0) (.slice none 0 0) := by
    have s1 : (w.alloc (.cells #[.slice bo bn bc, .pointer (some ⟨rb, 0, none⟩)] 91)).heap.size = w.heap.size + 1 := by simp
    have s2 : ((w.alloc (.cells #[.slice bo bn bc, .pointer (some ⟨rb, 0, none⟩)] 91)).alloc (.cells #[.int .i64 0, .slice none 0 0, .slice none 0 0] 37)).heap.size = w.heap.size + 1 + 1 := by simp
    have g2 := alloc_grown ((w.alloc (.cells #[.slice bo bn bc, .pointer (some ⟨rb, 0, none⟩)] 91)).alloc (.cells #[.int .i64 0, .slice none 0 0, .slice none 0 0] 37)) (.cells #[.int .i64 0, .slice none 0 0, .slice none 0 0] 37)
    have g1 := grown_trans (alloc_grown (w.alloc (.cells #[.slice bo bn bc, .pointer (some ⟨rb, 0, none⟩)] 91)) (.cells #[.int .i64 0, .slice none 0 0, .slice none 0 0] 37)) g2 (by simp)
    have k1 := heap_alloc_new (w.alloc (.cells #[.slice bo bn bc, .pointer (some ⟨rb, 0, none⟩)] 91)) (.cells #[.int .i64 0, .slice none 0 0, .slice none 0 0] 37)
    have k2 := heap_alloc_new ((w.alloc (.cells #[.slice bo bn bc, .pointer (some ⟨rb, 0, none⟩)] 91)).alloc (.cells #[.int .i64 0, .slice none 0 0, .slice none 0 0] 37)) (.cells #[.int .i64 0, .slice none 0 0, .slice none 0 0] 37)
    rw [s1] at k1
    rw [s2] at k2
    have l1 : w.heap.size + 1 < ((w.alloc (.cells #[.slice bo bn bc, .pointer (some ⟨rb, 0, none⟩)] 91)).alloc (.cells #[.int .i64 0, .slice none 0 0, .slice none 0 0] 37)).heap.size := by rw [s2]; omega
    have k1' := (g2.block _ l1 (by simp)).trans k1
    refine ⟨g1.cell (by simp) (by simp), g1.cell (by simp) (by simp), ?_, ?_, ?_, ?_, ?_, ?_, fun i => ?_, fun i => ?_, ?_⟩
    · exact cell_of k1' rfl
    · exact cell_of k1' rfl
    · exact cell_of k1' rfl
    · exact cell_of k2 rfl
    · exact cell_of k2 rfl
    · exact cell_of k2 rfl
    · exact frozen_of k1' i
    · exact frozen_of k2 i
    · have := g2.size
      simp
  have hgz : g < w.heap.size := by obtain ⟨o, n, cap, hr, _⟩ := h.rd; exact hr.gl
  have hbz : ∀ b, bo = some b → b.block < w.heap.size := fun b hb => by obtain ⟨b1, o1, e1, hl⟩ := h.bytes.addr hpos; rw [hb] at e1; obtain rfl := Option.some.inj e1; exact hl
  have h0 := h.grown hg0
  generalize (((w.alloc (.cells #[.slice bo bn bc, .pointer (some ⟨rb, 0, none⟩)] 91)).alloc (.cells #[.int .i64 0, .slice none 0 0, .slice none 0 0] 37)).alloc (.cells #[.int .i64 0, .slice none 0 0, .slice none 0 0] 37)) = w0 at *
  have hlow : ∀ {W W' : World}, w.grownBy W (some rb) → W.grownBy W' (some (w.heap.size + 1 + 1)) → w.grownBy W' (some rb) := fun h1 h2 => grown_trans h1 h2 (fun k hk => Or.inr (by cases hk; omega))
  have hG0 := grown_any hg0 (some rb)
  generalize hz : w.heap.size = z at *
  clear h hg0
  refine (number8_yes _ bo bn bc rb g B i h0 (by omega)).mono ?_
  rintro e w1 ⟨rfl, hc1, hg1⟩
  have hL1 := hL0.kept hg1 hrbl
  have hG1 := grown_trans hG0 hg1 (fun k hk => Or.inl hk)
  clear hL0 hG0 hg1 h0
  obtain ⟨T, hT⟩ : ∃ T, Hid (T = tAt B i) := ⟨tAt B i, (rfl : _ = _)⟩
  rw [show wrap64 ((val ((B.drop i).take 8) : Nat) : Int) = T from hT.out.symm]
  have hfe := hL1.fe
  have e0 := hL1.e0
  go_wp2_with fail
  have hs2 := setCell_grown w1 (z + 1 + 1) 0 (.int .i64 T)
  have hL2 := (hL1.set (.int .i64 T)).1
  have hzr : some (z + 1 + 1) ≠ some rb := by simp; omega
  have hzg : some (z + 1 + 1) ≠ some g := by simp; omega
  have hzb : ∀ b, bo = some b → some b.block ≠ some (z + 1 + 1) := fun b hb => by have := hbz b hb; simp; omega
  have hc2 := hc1.kept hs2 hzr hzg hzb
  have hG2 := hlow hG1 hs2
  clear hL1 hc1 hs2 hG1 hfe e0
  generalize w1.setCell ⟨z + 1 + 1, 0, none⟩ (.int .i64 T) = w2 at *
  obtain ⟨KN, hKN⟩ : ∃ KN, Hid (KN = kAt B i) := ⟨kAt B i, (rfl : _ = _)⟩
  obtain ⟨VN, hVN⟩ : ∃ VN, Hid (VN = vAt B i) := ⟨vAt B i, (rfl : _ = _)⟩
  rw [← hKN.out] at hk
  have hkl : KN < 65536 := by
    rw [hKN.out]
    have h3 := val_lt ((B.drop (i + 8)).take 2)
    have h4 : 256 ^ ((B.drop (i + 8)).take 2).length ≤ 256 ^ 2 := Nat.pow_le_pow_right (by omega) (by simp; omega)
    exact Nat.lt_of_lt_of_le h3 h4
  have hvl : VN < 65536 := by
    rw [hVN.out]
    have h3 := val_lt ((B.drop (i + 10)).take 2)
    have h4 : 256 ^ ((B.drop (i + 10)).take 2).length ≤ 256 ^ 2 := Nat.pow_le_pow_right (by omega) (by simp; omega)
    exact Nat.lt_of_lt_of_le h3 h4
  have hn1 : ∀ W, Ct W bo bn bc rb g B (i + 8) → Calls Try.prog 56 #[.agg #[.slice bo bn bc, .pointer (some ⟨rb, 0, none⟩)]] W fun e w' => e = .returned (.int .u16 KN) ∧ Ct w' bo bn bc rb g B (i + 10) ∧ W.grownBy w' (some rb) := fun W hW => by
    rw [hKN.out]; exact number2_yes W bo bn bc rb g B (i + 8) hW (by omega)
  have hn2 : ∀ W, Ct W bo bn bc rb g B (i + 10) → Calls Try.prog 56 #[.agg #[.slice bo bn bc, .pointer (some ⟨rb, 0, none⟩)]] W fun e w' => e = .returned (.int .u16 VN) ∧ Ct w' bo bn bc rb g B (i + 12) ∧ W.grownBy w' (some rb) := fun W hW => by
    rw [hVN.out]; exact number2_yes W bo bn bc rb g B (i + 10) hW (by omega)
  have p0 := hL2.c0
  have p1 := hL2.c1
  have hwk : IntKind.i64.wrap (KN : Int) = (KN : Int) := IntWalk.i64_in _ (by omega)
  have hwv : IntKind.i64.wrap (VN : Int) = (VN : Int) := IntWalk.i64_in _ (by omega)
  go_region_held3 (fun w' => w'.cell? ⟨z, 0, none⟩ = some (.slice bo bn bc) ∧ w'.cell? ⟨z, 1, none⟩ = some (.pointer (some ⟨rb, 0, none⟩))) (first | exact ⟨r0, r1⟩ | exact ⟨q0, q1⟩ | exact ⟨p0, p1⟩) (first
    | (go_at_call 56; refine (hn2 _ hc3).mono ?_; rintro e w4 ⟨rfl, hc4, hg4⟩; have hL4 := hL3.kept hg4 hrbl; have r0 := hL4.c0; have r1 := hL4.c1)
    | (go_at_call 56; refine (hn1 _ (hc2.grown (grown_drewN w2 1 none))).mono ?_; rintro e w3 ⟨rfl, hc3, hg3⟩; have hL3 := (hL2.kept (grown_drewN w2 1 (some rb)) hrbl).kept hg3 hrbl; have q0 := hL3.c0; have q1 := hL3.c1))
  have hG4 := grown_trans (grown_trans (grown_trans hG2 (grown_drewN w2 1 (some rb)) (fun k hk => Or.inl hk)) hg3 (fun k hk => Or.inl hk)) hg4 (fun k hk => Or.inl hk)
  clear hL2 hL3 hc2 hc3 hg3 hg4 hG2 p0 p1 q0 q1 hn1 hn2 hwk hwv
  go_wp2_with fail
  refine (passC_no _ bo bn bc rb g B (i + 12) hc4 KN (by omega) (by omega)).mono ?_
  rintro e w5 ⟨rfl, hg5⟩
  have hG5 := grown_trans hG4 hg5 (fun k hk => Or.inl hk)
  go_wp2
  exact ⟨rfl, rfl, hG5⟩
set_option maxRecDepth 100000 in
set_option maxHeartbeats 4000000 in
theorem record_no5 (w : World) (bo : Option Addr) (bn bc rb g : Nat) (B : List UInt8) (i : Nat) (h : Ct w bo bn bc rb g B i) (hpos : 0 < bn) (h8 : i + 12 + kAt B i ≤ bn) (hk : bn < i + 12 + kAt B i + vAt B i) :
    Calls Try.prog 47 #[.agg #[.slice bo bn bc, .pointer (some ⟨rb, 0, none⟩)]] w fun e w' => e = .panicked oops ∧ w.grownBy w' (some rb) := by
  have hrbl := h.rbl
  go_enter Try.func47, Try.ntmps47
  go_wp2_with fail
  have hg0 : w.grownBy (((w.alloc (.cells #[.slice bo bn bc, .pointer (some ⟨rb, 0, none⟩)] 91)).alloc (.cells #[.int .i64 0, .slice none 0 0, .slice none 0 0] 37)).alloc (.cells #[.int .i64 0, .slice none 0 0, .slice none 0 0] 37)) none := grown_trans (grown_trans (alloc_grown _ _) (alloc_grown _ _) (by simp)) (alloc_grown _ _) (by simp)
  have hL0 : Lc (((w.alloc (.cells #[.slice bo bn bc, .pointer (some ⟨rb, 0, none⟩)] 91)).alloc (.cells #[.int .i64 0, .slice none 0 0, .slice none 0 0] 37)).alloc (.cells #[.int .i64 0, .slice none 0 0, .slice none 0 0] 37)) w.heap.size bo bn bc rb (.int .i64 0) (.slice none 0 0) (.slice none 0 0) := by
    have s1 : (w.alloc (.cells #[.slice bo bn bc, .pointer (some ⟨rb, 0, none⟩)] 91)).heap.size = w.heap.size + 1 := by simp
    have s2 : ((w.alloc (.cells #[.slice bo bn bc, .pointer (some ⟨rb, 0, none⟩)] 91)).alloc (.cells #[.int .i64 0, .slice none 0 0, .slice none 0 0] 37)).heap.size = w.heap.size + 1 + 1 := by simp
    have g2 := alloc_grown ((w.alloc (.cells #[.slice bo bn bc, .pointer (some ⟨rb, 0, none⟩)] 91)).alloc (.cells #[.int .i64 0, .slice none 0 0, .slice none 0 0] 37)) (.cells #[.int .i64 0, .slice none 0 0, .slice none 0 0] 37)
    have g1 := grown_trans (alloc_grown (w.alloc (.cells #[.slice bo bn bc, .pointer (some ⟨rb, 0, none⟩)] 91)) (.cells #[.int .i64 0, .slice none 0 0, .slice none 0 0] 37)) g2 (by simp)
    have k1 := heap_alloc_new (w.alloc (.cells #[.slice bo bn bc, .pointer (some ⟨rb, 0, none⟩)] 91)) (.cells #[.int .i64 0, .slice none 0 0, .slice none 0 0] 37)
    have k2 := heap_alloc_new ((w.alloc (.cells #[.slice bo bn bc, .pointer (some ⟨rb, 0, none⟩)] 91)).alloc (.cells #[.int .i64 0, .slice none 0 0, .slice none 0 0] 37)) (.cells #[.int .i64 0, .slice none 0 0, .slice none 0 0] 37)
    rw [s1] at k1
    rw [s2] at k2
    have l1 : w.heap.size + 1 < ((w.alloc (.cells #[.slice bo bn bc, .pointer (some ⟨rb, 0, none⟩)] 91)).alloc (.cells #[.int .i64 0, .slice none 0 0, .slice none 0 0] 37)).heap.size := by rw [s2]; omega
    have k1' := (g2.block _ l1 (by simp)).trans k1
    refine ⟨g1.cell (by simp) (by simp), g1.cell (by simp) (by simp), ?_, ?_, ?_, ?_, ?_, ?_, fun i => ?_, fun i => ?_, ?_⟩
    · exact cell_of k1' rfl
    · exact cell_of k1' rfl
    · exact cell_of k1' rfl
    · exact cell_of k2 rfl
    · exact cell_of k2 rfl
    · exact cell_of k2 rfl
    · exact frozen_of k1' i
    · exact frozen_of k2 i
    · have := g2.size
      simp
  have hgz : g < w.heap.size := by obtain ⟨o, n, cap, hr, _⟩ := h.rd; exact hr.gl
  have hbz : ∀ b, bo = some b → b.block < w.heap.size := fun b hb => by obtain ⟨b1, o1, e1, hl⟩ := h.bytes.addr hpos; rw [hb] at e1; obtain rfl := Option.some.inj e1; exact hl
  have h0 := h.grown hg0
  generalize (((w.alloc (.cells #[.slice bo bn bc, .pointer (some ⟨rb, 0, none⟩)] 91)).alloc (.cells #[.int .i64 0, .slice none 0 0, .slice none 0 0] 37)).alloc (.cells #[.int .i64 0, .slice none 0 0, .slice none 0 0] 37)) = w0 at *
  have hlow : ∀ {W W' : World}, w.grownBy W (some rb) → W.grownBy W' (some (w.heap.size + 1 + 1)) → w.grownBy W' (some rb) := fun h1 h2 => grown_trans h1 h2 (fun k hk => Or.inr (by cases hk; omega))
  have hG0 := grown_any hg0 (some rb)
  generalize hz : w.heap.size = z at *
  clear h hg0
  refine (number8_yes _ bo bn bc rb g B i h0 (by omega)).mono ?_
  rintro e w1 ⟨rfl, hc1, hg1⟩
  have hL1 := hL0.kept hg1 hrbl
  have hG1 := grown_trans hG0 hg1 (fun k hk => Or.inl hk)
  clear hL0 hG0 hg1 h0
  obtain ⟨T, hT⟩ : ∃ T, Hid (T = tAt B i) := ⟨tAt B i, (rfl : _ = _)⟩
  rw [show wrap64 ((val ((B.drop i).take 8) : Nat) : Int) = T from hT.out.symm]
  have hfe := hL1.fe
  have e0 := hL1.e0
  go_wp2_with fail
  have hs2 := setCell_grown w1 (z + 1 + 1) 0 (.int .i64 T)
  have hL2 := (hL1.set (.int .i64 T)).1
  have hzr : some (z + 1 + 1) ≠ some rb := by simp; omega
  have hzg : some (z + 1 + 1) ≠ some g := by simp; omega
  have hzb : ∀ b, bo = some b → some b.block ≠ some (z + 1 + 1) := fun b hb => by have := hbz b hb; simp; omega
  have hc2 := hc1.kept hs2 hzr hzg hzb
  have hG2 := hlow hG1 hs2
  clear hL1 hc1 hs2 hG1 hfe e0
  generalize w1.setCell ⟨z + 1 + 1, 0, none⟩ (.int .i64 T) = w2 at *
  obtain ⟨KN, hKN⟩ : ∃ KN, Hid (KN = kAt B i) := ⟨kAt B i, (rfl : _ = _)⟩
  obtain ⟨VN, hVN⟩ : ∃ VN, Hid (VN = vAt B i) := ⟨vAt B i, (rfl : _ = _)⟩
  rw [← hKN.out] at h8
  rw [← hKN.out, ← hVN.out] at hk
  have hkl : KN < 65536 := by
    rw [hKN.out]
    have h3 := val_lt ((B.drop (i + 8)).take 2)
    have h4 : 256 ^ ((B.drop (i + 8)).take 2).length ≤ 256 ^ 2 := Nat.pow_le_pow_right (by omega) (by simp; omega)
    exact Nat.lt_of_lt_of_le h3 h4
  have hvl : VN < 65536 := by
    rw [hVN.out]
    have h3 := val_lt ((B.drop (i + 10)).take 2)
    have h4 : 256 ^ ((B.drop (i + 10)).take 2).length ≤ 256 ^ 2 := Nat.pow_le_pow_right (by omega) (by simp; omega)
    exact Nat.lt_of_lt_of_le h3 h4
  have hn1 : ∀ W, Ct W bo bn bc rb g B (i + 8) → Calls Try.prog 56 #[.agg #[.slice bo bn bc, .pointer (some ⟨rb, 0, none⟩)]] W fun e w' => e = .returned (.int .u16 KN) ∧ Ct w' bo bn bc rb g B (i + 10) ∧ W.grownBy w' (some rb) := fun W hW => by
    rw [hKN.out]; exact number2_yes W bo bn bc rb g B (i + 8) hW (by omega)
  have hn2 : ∀ W, Ct W bo bn bc rb g B (i + 10) → Calls Try.prog 56 #[.agg #[.slice bo bn bc, .pointer (some ⟨rb, 0, none⟩)]] W fun e w' => e = .returned (.int .u16 VN) ∧ Ct w' bo bn bc rb g B (i + 12) ∧ W.grownBy w' (some rb) := fun W hW => by
    rw [hVN.out]; exact number2_yes W bo bn bc rb g B (i + 10) hW (by omega)
  have p0 := hL2.c0
  have p1 := hL2.c1
  have hwk : IntKind.i64.wrap (KN : Int) = (KN : Int) := IntWalk.i64_in _ (by omega)
  have hwv : IntKind.i64.wrap (VN : Int) = (VN : Int) := IntWalk.i64_in _ (by omega)
  go_region_held3 (fun w' => w'.cell? ⟨z, 0, none⟩ = some (.slice bo bn bc) ∧ w'.cell? ⟨z, 1, none⟩ = some (.pointer (some ⟨rb, 0, none⟩))) (first | exact ⟨r0, r1⟩ | exact ⟨q0, q1⟩ | exact ⟨p0, p1⟩) (first
    | (go_at_call 56; refine (hn2 _ hc3).mono ?_; rintro e w4 ⟨rfl, hc4, hg4⟩; have hL4 := hL3.kept hg4 hrbl; have r0 := hL4.c0; have r1 := hL4.c1)
    | (go_at_call 56; refine (hn1 _ (hc2.grown (grown_drewN w2 1 none))).mono ?_; rintro e w3 ⟨rfl, hc3, hg3⟩; have hL3 := (hL2.kept (grown_drewN w2 1 (some rb)) hrbl).kept hg3 hrbl; have q0 := hL3.c0; have q1 := hL3.c1))
  have hG4 := grown_trans (grown_trans (grown_trans hG2 (grown_drewN w2 1 (some rb)) (fun k hk => Or.inl hk)) hg3 (fun k hk => Or.inl hk)) hg4 (fun k hk => Or.inl hk)
  clear hL2 hL3 hc2 hc3 hg3 hg4 hG2 p0 p1 q0 q1 hn1 hn2 hwk hwv
  go_wp2_with fail
  refine (passC_yes _ bo bn bc rb g B (i + 12) KN hc4 (by omega) hpos).mono ?_
  rintro e w5 ⟨po, pc, rfl, hb5, hpo, hpc, hc5, hg5⟩
  have hL5 := hL4.kept hg5 hrbl
  have hG5 := grown_trans hG4 hg5 (fun k hk => Or.inl hk)
  have f5 := hL5.fe
  have g5 := hL5.e1
  have m0 := hL5.c0
  have m1 := hL5.c1
  clear hL4 hc4 hg5 hG4 r0 r1
  go_wp2_with fail
  have hs6 := setCell_grown w5 (z + 1 + 1) 1 (.slice po KN pc)
  have hL6 := (hL5.set (.slice po KN pc)).2.1
  have hc6 := hc5.kept hs6 hzr hzg hzb
  have hb6 := hb5.kept hs6 (fun a ha => by obtain ⟨b, hb, e⟩ := hpo a ha; rw [e]; exact hzb b hb)
  have hG6 := hlow hG5 hs6
  clear hL5 hc5 hs6 hb5 hG5 f5 g5 m0 m1
  generalize w5.setCell ⟨z + 1 + 1, 1, none⟩ (.slice po KN pc) = w6 at *
  refine (passC_no _ bo bn bc rb g B (i + 12 + KN) hc6 VN (by omega) (by omega)).mono ?_
  rintro e w7 ⟨rfl, hg7⟩
  have hG7 := grown_trans hG6 hg7 (fun k hk => Or.inl hk)
  go_wp2
  exact ⟨rfl, rfl, hG7⟩
theorem record_no (w : World) (bo : Option Addr) (bn bc rb g : Nat) (B : List UInt8) (i : Nat) (h : Ct w bo bn bc rb g B i) (hpos : 0 < bn) (hk : bn < i + 12 + kAt B i + vAt B i) :
    Calls Try.prog 47 #[.agg #[.slice bo bn bc, .pointer (some ⟨rb, 0, none⟩)]] w fun e w' => e = .panicked oops ∧ w.grownBy w' (some rb) := by
  by_cases h1 : bn < i + 8
  · exact record_no1 w bo bn bc rb g B i h hpos h1
  by_cases h2 : bn < i + 12
  · exact record_no2 w bo bn bc rb g B i h hpos (by omega) h2
  by_cases h4 : bn < i + 12 + kAt B i
  · exact record_no4 w bo bn bc rb g B i h hpos (by omega) h4
  exact record_no5 w bo bn bc rb g B i h hpos (by omega) hk
end Go.Proofs.Ytlfgikhjcimppab
