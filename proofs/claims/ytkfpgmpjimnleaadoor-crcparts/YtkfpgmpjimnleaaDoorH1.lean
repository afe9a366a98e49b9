/-
  A sum that goes on: the walks of the code.
-/
import Derived.Test.YtkfpgmpjimnleaaDoorC8
namespace Go.Proofs.YtkfpgmpjimnleaaDoor
open Go.RowKit
set_option linter.unusedVariables false

/-- A Hash lies at g: its sum, its count. -/
def Hs (w : World) (g s c : Nat) : Prop := w.heap[g]? = some (.cells #[.int .u32 s, .int .i64 c] 55 (0, 0))

theorem Hs.lt {w : World} {g s c : Nat} (h : Hs w g s c) : g < w.heap.size := (Array.getElem?_eq_some_iff.1 h).1
theorem Hs.c0 {w : World} {g s c : Nat} (h : Hs w g s c) : w.cell? ⟨g, 0, none⟩ = some (.int .u32 s) := by rw [cell_of_row w g 0 _ 55 (0, 0) h]; rfl
theorem Hs.c1 {w : World} {g s c : Nat} (h : Hs w g s c) : w.cell? ⟨g, 1, none⟩ = some (.int .i64 c) := by rw [cell_of_row w g 1 _ 55 (0, 0) h]; rfl
theorem Hs.there {w : World} {g s c : Nat} (h : Hs w g s c) (i : Nat) : w.frozen? ⟨g, i, none⟩ = false := by
  unfold Hs at h
  simp [World.frozen?, h]
theorem Hs.kept {w w' : World} {g s c : Nat} {row : Option Nat} (h : Hs w g s c) (hg : w.grownBy w' row) (hne : some g ≠ row) : Hs w' g s c := by
  have hl := h.lt
  unfold Hs at *
  rw [hg.block g hl hne]
  exact h
theorem Hs.grown {w w' : World} {g s c : Nat} (h : Hs w g s c) (hg : w.grownBy w' none) : Hs w' g s c := h.kept hg (by simp)
theorem Hs.new (w : World) (s c : Nat) : Hs (w.alloc (.cells #[.int .u32 s, .int .i64 c] 55)) w.heap.size s c := heap_alloc_new w _
theorem Hs.set0 {w : World} {g s c : Nat} (h : Hs w g s c) (s' : Nat) {x : Int} (hx : x = (s' : Int)) : Hs (w.setCell ⟨g, 0, none⟩ (.int .u32 x)) g s' c := by
  subst hx
  unfold Hs
  rw [setCell_eq_setRow w g 0 _ 55 (0, 0) _ h]
  exact setRow_heap w g _ _ 55 _ h
theorem Hs.set1 {w : World} {g s c : Nat} (h : Hs w g s c) (c' : Nat) {x : Int} (hx : x = (c' : Int)) : Hs (w.setCell ⟨g, 1, none⟩ (.int .i64 x)) g s c' := by
  subst hx
  unfold Hs
  rw [setCell_eq_setRow w g 1 _ 55 (0, 0) _ h]
  exact setRow_heap w g _ _ 55 _ h
/-- Bytes of the call's own lie elsewhere. -/
theorem Hs.apart {w : World} {g s c base : Nat} {ao : Option Addr} {n cap : Nat} {l : List UInt8} (h : Hs w g s c) (ho : Ow w base 5 ao n cap l) : some g ≠ blk ao := by
  rcases ho.row.2 with ⟨hv, _⟩ | ⟨g', c', cur, hv, hb, hg, _⟩
  · simp only [Value.slice.injEq] at hv
    rw [hv.1]
    simp [blk]
  · simp only [Value.slice.injEq] at hv
    rw [hv.1]
    intro e
    simp only [blk, Option.map_some, Option.some.injEq] at e
    subst e
    unfold Hs at h
    rw [h] at hg
    simp at hg

set_option maxHeartbeats 400000 in
theorem hnew_any (w : World) : Calls Tryd.prog 29 #[] w fun e w' => e = .returned (.pointer (some ⟨w.heap.size, 0, none⟩)) ∧ Hs w' w.heap.size 0 0 ∧ w.grownBy w' none := by
  have h1 := Hs.new w 0 0
  have h2 := alloc_grown w (.cells #[.int .u32 (0 : Nat), .int .i64 (0 : Nat)] 55)
  go_enter Tryd.func29, Tryd.ntmps29
  go_wp2
  go_ret
  exact ⟨rfl, h1, h2⟩

set_option maxHeartbeats 400000 in
theorem hsum_any (w : World) (g s c : Nat) (h : Hs w g s c) : Calls Tryd.prog 33 #[.pointer (some ⟨g, 0, none⟩)] w fun e w' => e = .returned (.int .u32 s) ∧ w' = w := by
  have h0 := h.c0
  go_enter Tryd.func33, Tryd.ntmps33
  go_wp2
  go_ret
  exact ⟨rfl, rfl⟩
set_option maxHeartbeats 400000 in
theorem hsum_nil (w : World) : Calls Tryd.prog 33 #[.pointer none] w fun e w' => e = .returned (.int .u32 0) ∧ w' = w := by
  go_enter Tryd.func33, Tryd.ntmps33
  go_wp2
  go_ret
  exact ⟨rfl, rfl⟩
set_option maxHeartbeats 400000 in
theorem hlen_any (w : World) (g s c : Nat) (h : Hs w g s c) : Calls Tryd.prog 34 #[.pointer (some ⟨g, 0, none⟩)] w fun e w' => e = .returned (.int .i64 c) ∧ w' = w := by
  have h0 := h.c1
  go_enter Tryd.func34, Tryd.ntmps34
  go_wp2
  go_ret
  exact ⟨rfl, rfl⟩
set_option maxHeartbeats 400000 in
theorem hlen_nil (w : World) : Calls Tryd.prog 34 #[.pointer none] w fun e w' => e = .returned (.int .i64 0) ∧ w' = w := by
  go_enter Tryd.func34, Tryd.ntmps34
  go_wp2
  go_ret
  exact ⟨rfl, rfl⟩
set_option maxHeartbeats 400000 in
theorem hreset_nil (w : World) : Calls Tryd.prog 31 #[.pointer none] w fun e w' => e = .returned (.int .i64 1) ∧ w' = w := by
  go_enter Tryd.func31, Tryd.ntmps31
  go_wp2
  go_ret
  exact ⟨rfl, rfl⟩
set_option maxHeartbeats 400000 in
theorem hcopy_nil (w : World) : Calls Tryd.prog 32 #[.pointer none] w fun e w' => e = .returned (.pointer none) ∧ w' = w := by
  go_enter Tryd.func32, Tryd.ntmps32
  go_wp2
  go_ret
  exact ⟨rfl, rfl⟩
set_option maxHeartbeats 400000 in
theorem hwrite_nil (w : World) (v : Value) : Calls Tryd.prog 30 #[.pointer none, v] w fun e w' => e = .returned (.int .i64 1) ∧ w' = w := by
  go_enter Tryd.func30, Tryd.ntmps30
  go_wp2
  go_ret
  exact ⟨rfl, rfl⟩

set_option maxHeartbeats 400000 in
theorem hreset_any (w : World) (g s c : Nat) (h : Hs w g s c) : Calls Tryd.prog 31 #[.pointer (some ⟨g, 0, none⟩)] w fun e w' => e = .returned (.int .i64 0) ∧ Hs w' g 0 0 ∧ w.grownBy w' (some g) := by
  have f := h.there
  have h0 := h.c0
  have h1 := h.c1
  have k1 := h.set0 0 (x := 0) rfl
  have k2 := k1.set1 0 (x := 0) rfl
  have g1 := setCell_grown w g 0 (.int .u32 0)
  have g2 := setCell_grown (w.setCell ⟨g, 0, none⟩ (.int .u32 0)) g 1 (.int .i64 0)
  have g3 := grown_trans g1 g2 (fun k hk => Or.inl hk)
  go_enter Tryd.func31, Tryd.ntmps31
  go_wp2
  go_ret
  exact ⟨rfl, k2, g3⟩

set_option maxHeartbeats 400000 in
theorem hcopy_any (w : World) (g s c : Nat) (h : Hs w g s c) : Calls Tryd.prog 32 #[.pointer (some ⟨g, 0, none⟩)] w fun e w' => e = .returned (.pointer (some ⟨w.heap.size, 0, none⟩)) ∧ Hs w' w.heap.size s c ∧ w.grownBy w' none := by
  have h0 := h.c0
  have h1 := h.c1
  go_enter Tryd.func32, Tryd.ntmps32
  go_wp2
  go_ret
  exact ⟨rfl, Hs.new w s c, alloc_grown _ _⟩

/-- The headers of a slice of slices. -/
theorem Pc.head {w : World} {b o m c : Nat} {L : List (List UInt8)} (h : Pc w (some ⟨b, o, none⟩) m c L) : ∀ j (hj : j < L.length), ∃ ao cap, w.cell? ⟨b, o + j, none⟩ = some (.slice ao L[j].length cap) := by
  intro j hj
  obtain ⟨ao, n, cap, h1, h2⟩ := h.at hj
  exact ⟨ao, cap, by rw [h2.len]; exact h1⟩

theorem take_len {L : List (List UInt8)} {k : Nat} (hk : k < L.length) : (L.take (k + 1)).flatten.length = (L.take k).flatten.length + L[k].length := by
  rw [flat_snoc hk, List.length_append]

theorem take_le (L : List (List UInt8)) (k : Nat) : (L.take k).flatten.length ≤ L.flatten.length := by
  have h := congrArg List.length (congrArg List.flatten (List.take_append_drop k L))
  rw [List.flatten_append, List.length_append] at h
  omega

set_option maxRecDepth 100000 in
set_option maxHeartbeats 1000000 in
theorem hwrite_any (w : World) (g s c : Nat) (h : Hs w g s c) (hs : s < 4294967296) (b o m cp : Nat) (L : List (List UInt8)) (hb : Pc w (some ⟨b, o, none⟩) m cp L) (hne : b ≠ g) (hc : c + L.flatten.length < 9223372036854775808) :
    Calls Tryd.prog 30 #[.pointer (some ⟨g, 0, none⟩), .slice (some ⟨b, o, none⟩) m cp] w fun e w' => e = .returned (.int .i64 0) ∧ Hs w' g (mor s L.flatten) (c + L.flatten.length) ∧ w.grownBy w' (some g) := by
  have hlen := hb.len
  have hroom := hb.room
  have htop := hb.top
  unfold maxLen at htop
  have c0 := h.c0
  go_enter Tryd.func30, Tryd.ntmps30
  go_wp2_with fail
  refine (goOn_any _ s hs _ m cp L hb).mono ?_
  rintro e w1 ⟨rfl, hg1⟩
  have h1 := h.grown hg1
  have hd1 := (hb.grown hg1).head
  have f1 := h1.there
  have d0 := h1.c0
  have h2 := h1.set0 (mor s L.flatten) rfl
  have hg2 : w.grownBy (w1.setCell ⟨g, 0, none⟩ (.int .u32 (mor s L.flatten : Nat))) (some g) := grown_trans (grown_any hg1 (some g)) (setCell_grown _ _ _ _) (fun k hk => Or.inl hk)
  have hd2 : ∀ j (hj : j < L.length), ∃ ao cap, (w1.setCell ⟨g, 0, none⟩ (.int .u32 (mor s L.flatten : Nat))).cell? ⟨b, o + j, none⟩ = some (.slice ao L[j].length cap) := fun j hj => by
    obtain ⟨ao, cap, h3⟩ := hd1 j hj
    exact ⟨ao, cap, (setCell_grown w1 g 0 _).cell h3 (by simp; omega)⟩
  clear hd1 h1 c0
  go_wp2_with fail
  go_loopw [6, 20] (fun _ i wr => ∃ (k : Nat), k ≤ m ∧ i = .int .i64 k ∧ Hs wr g (mor s L.flatten) (c + (L.take k).flatten.length) ∧ (∀ j (hj : j < L.length), ∃ ao cap, wr.cell? ⟨b, o + j, none⟩ = some (.slice ao L[j].length cap)) ∧ w.grownBy wr (some g))
    (fun _ i _ => m - (intOf i).toNat)
  case atStart => exact ⟨0, Nat.zero_le _, rfl, by simpa using h2, hd2, hg2⟩
  case round =>
    obtain ⟨k, hk, rfl, hh, hd, hg⟩ := hrel
    by_cases hlt : k < m
    · have hkl : k < L.length := by omega
      obtain ⟨ao, cap, hcell⟩ := hd k hkl
      have f := hh.there
      have e1 := hh.c1
      have hst := take_len hkl
      have hle := take_le L (k + 1)
      have hset := hh.set1 (c + (L.take (k + 1)).flatten.length) (x := ((c + (L.take k).flatten.length : Nat) : Int) + (L[k].length : Int)) (by omega)
      have hgs : w.grownBy (wr.setCell ⟨g, 1, none⟩ (.int .i64 (((c + (L.take k).flatten.length : Nat) : Int) + (L[k].length : Int)))) (some g) := grown_trans hg (setCell_grown _ _ _ _) (fun k hk => Or.inl hk)
      have hds : ∀ j (hj : j < L.length), ∃ ao cap, (wr.setCell ⟨g, 1, none⟩ (.int .i64 (((c + (L.take k).flatten.length : Nat) : Int) + (L[k].length : Int)))).cell? ⟨b, o + j, none⟩ = some (.slice ao L[j].length cap) := fun j hj => by
        obtain ⟨ao, cap, h3⟩ := hd j hj
        exact ⟨ao, cap, (setCell_grown wr g 1 _).cell h3 (by simp; omega)⟩
      have hbd : ((c + (L.take k).flatten.length : Nat) : Int) + (L[k].length : Int) < 9223372036854775808 := by omega
      generalize L[k].length = z at *
      generalize c + (L.take k).flatten.length = y at *
      clear hst hle
      go_wp2
      go_roundw
      case rel => exact ⟨k + 1, by omega, by go_num, hset, hds, hgs⟩
      case measure => simp [intOf]; omega
    · obtain rfl : k = m := by omega
      rw [List.take_of_length_le (by omega)] at hh
      go_wp2
      go_ret
      exact ⟨rfl, hh, hg⟩

end Go.Proofs.YtkfpgmpjimnleaaDoor
