/-
  The document's queue, and what compares and spoils lists: the walks.
-/
import Derived.Test.YtabnpgmkccmneaaMem4
import Derived.Test.YtabnpgmkccmneaaN4
namespace Go.Proofs.Ytabnpgmkccmneaa
open Go.RowKit
set_option linter.unusedVariables false

/-- Of a slice that shows nothing it does not matter where it lies. -/
theorem Vs.chg0 {w w' : World} {ao : Option Addr} {n cap : Nat} {l : List Value} {S : Nat → Prop} (h : Vs w ao n cap l) (hc : Chg w w' S) (hn : 0 < n → ∀ a, ao = some a → ¬ S a.block) : Vs w' ao n cap l := by
  by_cases h0 : 0 < n
  · exact h.chg hc (hn h0)
  · have hl : l = [] := List.eq_nil_of_length_eq_zero (by have := h.len; omega)
    subst hl
    exact ⟨h.len, h.room, h.top, h.nil, h.one, fun a ha j u hu => by simp at hu⟩

set_option maxRecDepth 100000 in
set_option maxHeartbeats 400000 in
theorem same_yes (w : World) (a1 a2 : Option Addr) (n c1 c2 : Nat) (zs : List Int) (h1 : Vs w a1 n c1 (zs.map (.int .i64))) (h2 : Vs w a2 n c2 (zs.map (.int .i64))) (hn : n ≤ 100000) :
    Calls Try.prog 14 #[.slice a1 n c1, .slice a2 n c2] w fun e w' => e = .returned (.bool true) ∧ w.grownBy w' none := by
  have hl := h1.len
  rw [List.length_map] at hl
  go_enter Try.func14, Try.ntmps14
  go_wp2_with fail
  go_loopw [5] (fun i' wr => ∃ i : Nat, i' = .int .i64 i ∧ i ≤ n ∧ w.grownBy wr none) (fun i _ => n - (intOf i).toNat)
  case atStart => exact ⟨0, rfl, Nat.zero_le _, grown_refl _ none⟩
  case round =>
    obtain ⟨i, rfl, hi, hg⟩ := hrel
    by_cases hin : i < n
    · obtain ⟨b1, o1, e1, _⟩ := h1.addr (by omega)
      obtain ⟨b2, o2, e2, _⟩ := h2.addr (by omega)
      subst e1
      subst e2
      obtain ⟨z, hz⟩ : ∃ z, zs[i]? = some z := ⟨_, List.getElem?_eq_getElem (by omega)⟩
      have hm : (zs.map (Value.int .i64))[i]? = some (.int .i64 z) := by rw [List.getElem?_map, hz]; rfl
      have k1 := (h1.grown hg).at hm
      have k2 := (h2.grown hg).at hm
      clear hm hz
      go_wp2_with fail
      go_quiet (fail)
      have hg2 := grown_trans hg (grown_drewN wr nq none) (by simp)
      go_wp2
      go_roundw
      case rel => exact ⟨i + 1, by go_num, by omega, hg2⟩
      case measure => simp [intOf]; omega
    · obtain rfl : i = n := by omega
      go_wp2
      go_ret
      exact ⟨rfl, hg⟩

set_option maxRecDepth 100000 in
set_option maxHeartbeats 400000 in
theorem spoil_none (w : World) (ao : Option Addr) (c : Nat) : Calls Try.prog 32 #[.slice ao 0 c] w fun e w' => e = .returned (.bool true) ∧ w' = w := by
  go_enter Try.func32, Try.ntmps32
  go_wp2_with fail
  go_rounds 1
  go_ret
  exact ⟨rfl, rfl⟩

set_option maxRecDepth 100000 in
set_option maxHeartbeats 400000 in
theorem spoil_any (w : World) (g n c : Nat) (l : List Value) (h : Ro w g 3 l) (hn : n ≤ l.length) (hb : n ≤ 100000) : Calls Try.prog 32 #[.slice (some ⟨g, 0, none⟩) n c] w fun e w' => e = .returned (.bool true) ∧ Chg w w' (fun k => k = g) := by
  go_enter Try.func32, Try.ntmps32
  go_wp2_with fail
  go_loopw [3] (fun i' wr => ∃ (i : Nat) (l' : List Value), i' = .int .i64 i ∧ i ≤ n ∧ l'.length = l.length ∧ Ro wr g 3 l' ∧ Chg w wr (fun k => k = g)) (fun i _ => n - (intOf i).toNat)
  case atStart => exact ⟨0, l, rfl, Nat.zero_le _, rfl, h, Chg.refl _ _⟩
  case round =>
    obtain ⟨i, l', rfl, hi, hl, hr, hc⟩ := hrel
    by_cases hin : i < n
    · have k1 := hr.cell i
      rw [List.getElem?_eq_getElem (by omega)] at k1
      have k2 := hr.frozen i
      have hs := hr.set i (.int .i64 (-99))
      go_wp2
      go_roundw
      case rel => exact ⟨i + 1, _, by go_num, by omega, by simp [hl], hs.1, hc.trans hs.2⟩
      case measure => simp [intOf]; omega
    · obtain rfl : i = n := by omega
      go_wp2
      go_ret
      exact ⟨rfl, hc⟩

/-- The document's queue in block rb: its list, its bound. -/
structure Rw (w : World) (rb : Nat) (bnd : Nat) (lo : Option Addr) (n c : Nat) (L : List Int) : Prop where
  c0 : w.cell? ⟨rb, 0, none⟩ = some (.slice lo n c)
  c1 : w.cell? ⟨rb, 1, none⟩ = some (.int .i64 bnd)
  fz : ∀ i, w.frozen? ⟨rb, i, none⟩ = false
  vs : Vs w lo n c (L.map (.int .i64))
  pl : Plain lo
  le : n ≤ bnd
  top : bnd ≤ 256
  ap : ∀ a, lo = some a → a.block ≠ rb

theorem Rw.lt {w : World} {rb bnd : Nat} {lo : Option Addr} {n c : Nat} {L : List Int} (h : Rw w rb bnd lo n c L) : rb < w.heap.size := World.block_lt_of_cell? w _ h.c0
theorem Rw.len {w : World} {rb bnd : Nat} {lo : Option Addr} {n c : Nat} {L : List Int} (h : Rw w rb bnd lo n c L) : L.length = n := by have := h.vs.len; rwa [List.length_map] at this
theorem Rw.chg {w w' : World} {rb bnd : Nat} {lo : Option Addr} {n c : Nat} {L : List Int} {S : Nat → Prop} (h : Rw w rb bnd lo n c L) (hc : Chg w w' S) (hb : ¬ S rb) (hl : ∀ a, lo = some a → ¬ S a.block) : Rw w' rb bnd lo n c L :=
  ⟨hc.cell h.c0 hb, hc.cell h.c1 hb, fun i => by rw [World.frozen?_of_block (w := w) (hc.block rb h.lt hb)]; exact h.fz i, h.vs.chg hc hl, h.pl, h.le, h.top, h.ap⟩
theorem Rw.grown {w w' : World} {rb bnd : Nat} {lo : Option Addr} {n c : Nat} {L : List Int} (h : Rw w rb bnd lo n c L) (hg : w.grownBy w' none) : Rw w' rb bnd lo n c L := h.chg (Chg.of_grown hg (fun _ => False)) (fun e => e) (fun _ _ e => e)
theorem Rw.set {w : World} {rb bnd : Nat} {lo : Option Addr} {n c : Nat} {L : List Int} (h : Rw w rb bnd lo n c L) {lo' : Option Addr} {n' c' : Nat} {L' : List Int} (hv : Vs w lo' n' c' (L'.map (.int .i64))) (hp : Plain lo') (hle : n' ≤ bnd) (ha : ∀ a, lo' = some a → a.block ≠ rb) :
    Rw (w.setCell ⟨rb, 0, none⟩ (.slice lo' n' c')) rb bnd lo' n' c' L' ∧ Chg w (w.setCell ⟨rb, 0, none⟩ (.slice lo' n' c')) (fun k => k = rb) := by
  have hc := setCell_chg w rb 0 (.slice lo' n' c')
  refine ⟨⟨?_, ?_, ?_, hv.chg hc ha, hp, hle, h.top, ha⟩, hc⟩
  · rw [World.cell?_setCell_same _ _ _ h.c0]
  · rw [World.cell?_setCell_other _ _ _ _ (by simp)]; exact h.c1
  · intro i; simp [h.fz i]

set_option maxRecDepth 100000 in
set_option maxHeartbeats 400000 in
theorem refPut_full (w : World) (rb bnd : Nat) (lo : Option Addr) (n c : Nat) (L : List Int) (h : Rw w rb bnd lo n c L) (xo : Option Addr) (m cx : Nat) (hm : bnd - n < m) :
    Calls Try.prog 31 #[.pointer (some ⟨rb, 0, none⟩), .slice xo m cx] w fun e w' => e = .returned (.int .i64 6) ∧ w.grownBy w' none := by
  have h0 := h.c0
  have h1 := h.c1
  have h2 := h.le
  have h3 := h.top
  have hd : decide ((m : Int) > (bnd : Int) - (n : Int)) = true := by simp; omega
  go_enter Try.func31, Try.ntmps31
  go_wp2_with fail
  go_quiet (fail)
  go_wp2
  go_ret
  exact ⟨rfl, grown_drewN _ _ none⟩

set_option maxRecDepth 100000 in
set_option maxHeartbeats 400000 in
theorem refPut_any (w : World) (rb bnd : Nat) (lo : Option Addr) (n c : Nat) (L : List Int) (h : Rw w rb bnd lo n c L) (xo : Option Addr) (m cx : Nat) (K : List Int) (hv : Vs w xo m cx (K.map (.int .i64))) (hm : n + m ≤ bnd) :
    Calls Try.prog 31 #[.pointer (some ⟨rb, 0, none⟩), .slice xo m cx] w fun e w' => e = .returned (.int .i64 0) ∧ (∃ lo' c', Rw w' rb bnd lo' (n + m) c' (L ++ K) ∧ ∀ a, lo' = some a → w.heap.size ≤ a.block ∧ a.block < w'.heap.size) ∧ Chg w w' (fun k => k = rb) := by
  have h0 := h.c0
  have h1 := h.c1
  have h2 := h.le
  have h3 := h.top
  have hd : decide ((m : Int) > (bnd : Int) - (n : Int)) = false := by simp; omega
  go_enter Try.func31, Try.ntmps31
  go_wp2_with fail
  go_quiet (fail)
  have hgq := grown_drewN w nq none
  have hA := h.grown hgq
  have hvA := hv.grown hgq
  have hrl := h.lt
  have hsq := hgq.size
  clear h hv h0 h1
  generalize w.drewN nq = w1 at *
  have hga := World.grownBy_alloc w1 (.cells #[] 3) none
  have h0 := (hA.grown hga).c0
  have hvo := Vo.empty w1 w1.heap.size 3 (Nat.le_refl _)
  go_wp2_with (at_builtin; refine wpList_append_vs _ rfl (.tmp 19) (.tmp 23) 30 rfl w1.heap.size 3 (.int .i64 0) 8 Try.underlying30 Ri.info rfl (by decide) rfl hvo rfl (hA.vs.grown hga) (by omega) (by simp) ?_)
  intro ao1 cp1 w2 hvo1 hg2
  try simp only [Nat.zero_add, List.nil_append] at hvo1
  try simp only [Nat.zero_add]
  have hg12 : w1.grownBy w2 none := grown_trans hga hg2 (fun q hq => by cases hq; exact Or.inr (Nat.le_refl _))
  clear hvo hga hg2 h0
  go_wp2_with (at_builtin; refine wpList_append_vs _ rfl (.tmp 24) (.tmp 25) 30 rfl w1.heap.size 3 (.int .i64 0) 8 Try.underlying30 Ri.info rfl (by decide) rfl hvo1 rfl (hvA.grown hg12) (by omega) hg12.size ?_)
  intro ao2 cp2 w3 hvo2 hg3
  have hg13 : w1.grownBy w3 none := grown_trans hg12 hg3 (fun q hq => Or.inr (hvo1.from_base q hq).1)
  have hB := hA.grown hg13
  have hap : ∀ a, ao2 = some a → w1.heap.size ≤ a.block ∧ a.block < w3.heap.size := fun a ha => hvo2.from_base a.block (by rw [ha]; rfl)
  rw [← List.map_append] at hvo2
  have hS := hB.set hvo2.shows hvo2.plain hm (fun a ha => by have := hap a ha; omega)
  have k0 := hB.c0
  have kf := hB.fz
  clear hvo1 hg12 hg3 hA hvA
  go_wp2
  go_ret
  exact ⟨rfl, ⟨_, _, hS.1, fun a ha => ⟨Nat.le_trans hsq (hap a ha).1, by simpa using (hap a ha).2⟩⟩, ((Chg.of_grown hgq _).trans (Chg.of_grown hg13 _)).trans hS.2⟩

set_option maxRecDepth 100000 in
set_option maxHeartbeats 400000 in
theorem refDrop_low (w : World) (rb : Nat) (k : Int) (hk : k < 0) :
    Calls Try.prog 34 #[.pointer (some ⟨rb, 0, none⟩), .int .i64 k] w fun e w' => e = .returned (.tuple #[.slice none 0 0, .int .i64 2]) ∧ w' = w := by
  go_enter Try.func34, Try.ntmps34
  go_wp2
  go_ret2
  exact ⟨rfl, rfl⟩

set_option maxRecDepth 100000 in
set_option maxHeartbeats 400000 in
theorem refDrop_far (w : World) (rb bnd : Nat) (lo : Option Addr) (n c : Nat) (L : List Int) (h : Rw w rb bnd lo n c L) (k : Int) (hk : (n : Int) < k) :
    Calls Try.prog 34 #[.pointer (some ⟨rb, 0, none⟩), .int .i64 k] w fun e w' => e = .returned (.tuple #[.slice none 0 0, .int .i64 4]) ∧ w' = w := by
  have h0 := h.c0
  have hd : decide (k < 0) = false := by simp; omega
  have hd2 : decide (k > (n : Int)) = true := by simp; omega
  go_enter Try.func34, Try.ntmps34
  go_wp2
  go_ret2
  exact ⟨rfl, rfl⟩

set_option maxRecDepth 100000 in
set_option maxHeartbeats 400000 in
theorem refDrop_any (w : World) (rb bnd : Nat) (lo : Option Addr) (n c : Nat) (L : List Int) (h : Rw w rb bnd lo n c L) (k : Nat) (hk : k ≤ n) :
    Calls Try.prog 34 #[.pointer (some ⟨rb, 0, none⟩), .int .i64 k] w fun e w' => e = .returned (.tuple #[.slice lo k c, .int .i64 0]) ∧ (∃ lo' c', Rw w' rb bnd lo' (n - k) c' (L.drop k) ∧ ∀ a, lo' = some a → w.heap.size ≤ a.block ∧ a.block < w'.heap.size) ∧ Chg w w' (fun k => k = rb) := by
  have h0 := h.c0
  have h2 := h.le
  have h3 := h.top
  have hroom := h.vs.room
  have hd : decide ((k : Int) < 0) = false := by simp
  have hd2 : decide ((k : Int) > (n : Int)) = false := by simp; omega
  have hi1 : (0 : Int) ≤ (k : Int) := by omega
  have hi2 : (k : Int) ≤ (c : Int) := by omega
  have hi3 : (k : Int) ≤ (n : Int) := by omega
  have hga := World.grownBy_alloc w (.cells #[] 3) none
  have k0 := (h.grown hga).c0
  have hvo := Vo.empty w w.heap.size 3 (Nat.le_refl _)
  have hrl := h.lt
  go_enter Try.func34, Try.ntmps34
  go_wp2_with (first | (refine wpList_slice_hi _ rfl (.tmp 19) (.tmp 20) 30 rfl 3 Try.underlying30 Ri.size1 rfl h.pl k rfl rfl (by omega) ?_) | refine wpList_slice_lo _ rfl (.tmp 27) (.tmp 28) 30 rfl 3 Try.underlying30 Ri.size1 rfl (h.vs.grown hga) h.pl k rfl rfl hk ?_)
  intro xo' c' hv' hpl' hb'
  go_wp2_with (at_builtin; refine wpList_append_vs _ rfl (.tmp 23) (.tmp 29) 30 rfl w.heap.size 3 (.int .i64 0) 8 Try.underlying30 Ri.info rfl (by decide) rfl hvo rfl hv' (by omega) (by simp) ?_)
  intro ao1 cp1 w2 hvo1 hg2
  try simp only [Nat.zero_add, List.nil_append] at hvo1
  try simp only [Nat.zero_add]
  have hg12 : w.grownBy w2 none := grown_trans hga hg2 (fun q hq => by cases hq; exact Or.inr (Nat.le_refl _))
  have hB := h.grown hg12
  have hap : ∀ a, ao1 = some a → w.heap.size ≤ a.block ∧ a.block < w2.heap.size := fun a ha => hvo1.from_base a.block (by rw [ha]; rfl)
  rw [← List.map_drop] at hvo1
  have hS := hB.set hvo1.shows hvo1.plain (by omega) (fun a ha => by have := hap a ha; omega)
  have q0 := hB.c0
  have qf := hB.fz
  clear hvo hga hg2 h0 k0 hv' hb' h
  go_wp2
  go_ret2
  exact ⟨rfl, ⟨_, _, hS.1, fun a ha => ⟨(hap a ha).1, by simpa using (hap a ha).2⟩⟩, (Chg.of_grown hg12 _).trans hS.2⟩

end Go.Proofs.Ytabnpgmkccmneaa
