/-
  RealOrders: the document's Key: the walk (its Place is a premise: U2's rplace_any).
-/
import Derived.Test.YtmjcjcpifahpaaaDoorV4
import Derived.Test.YtmjcjcpifahpaaaDoorG3
namespace Go.Proofs.YtmjcjcpifahpaaaDoor
open Go.RowKit
set_option linter.unusedVariables false

theorem kyl_nth' (p k : Nat) (hk : k < 8) : nth (kyl p) k = p / 256 ^ (7 - k) % 256 := by
  unfold nth kyl
  rw [List.getD_eq_getElem?_getD, List.getElem?_reverse (by rw [low_length]; exact hk), low_length, low_at _ _ _ (by omega)]
  simp only [Option.getD_some, UInt8.toNat_ofNat']
/-- A block that is an array of eight numbers, of which those from the k-th on are F's. -/
def Tq (w : World) (g k : Nat) (F : Nat → Nat) : Prop :=
  ∃ c, w.heap[g]? = some (.cells c 23 (0, 0)) ∧ c.size = 8 ∧ ∀ j, k ≤ j → j < 8 → c[j]? = some (.int .u8 (F j))
theorem Tq.any {w : World} {g k : Nat} {F : Nat → Nat} (h : Tq w g k F) (j : Nat) (hj : j < 8) : ∃ v, w.cell? ⟨g, j, none⟩ = some v := by
  obtain ⟨c, hc, hn, hf⟩ := h
  rw [cell_of_row w g j c 23 (0, 0) hc]
  exact ⟨c[j], by simp [hn, hj]⟩
theorem Tq.there {w : World} {g k : Nat} {F : Nat → Nat} (h : Tq w g k F) (j : Nat) : w.frozen? ⟨g, j, none⟩ = false := by
  obtain ⟨c, hc, _⟩ := h
  simp [World.frozen?, hc]
theorem Tq.set {w : World} {g k : Nat} {F : Nat → Nat} (h : Tq w g (k + 1) F) (hk : k < 8) {x : Int} (hx : x = (F k : Int)) : Tq (w.setCell ⟨g, k, none⟩ (.int .u8 x)) g k F := by
  obtain ⟨c, hc, hn, hf⟩ := h
  refine ⟨c.setIfInBounds k (.int .u8 x), ?_, by simp [hn], fun j hj hj8 => ?_⟩
  · rw [setCell_eq_setRow w g k c 23 (0, 0) _ hc]
    exact setRow_heap w g _ _ 23 _ hc
  · by_cases e : j = k
    · subst e
      simp [hn, hk, hx]
    · rw [Array.getElem?_setIfInBounds_ne (fun h => e h.symm)]
      exact hf j (by omega) hj8
theorem Tq.tb {w : World} {g : Nat} {F : Nat → Nat} (h : Tq w g 0 F) : Tb w g 23 8 8 F := by
  obtain ⟨c, hc, hn, hf⟩ := h
  exact ⟨c, hc, hn, fun j hj => hf j (Nat.zero_le _) hj⟩
theorem set_grown (w : World) (g j : Nat) (v : Value) {w0 : World} (h : w0.grownBy w none) (hg : w0.heap.size ≤ g) : w0.grownBy (w.setCell ⟨g, j, none⟩ v) none :=
  ⟨h.os, h.tape, h.output, by rw [World.size_setCell]; exact h.size, fun k hk hne => (Below.heap_setCell _ _ _ _ (by show k ≠ g; omega)).trans (h.block k hk hne)⟩

theorem val_int' {k : IntKind} {a b : Int} (h : a = b) : Value.int k a = .int k b := by rw [h]
set_option maxHeartbeats 4000000 in
theorem rkey_any (hP : ∀ W x, x < 18446744073709551616 → Calls Tryd.prog 42 #[.float .f64 x] W fun e w' => e = .returned (.int .u64 (plc x)) ∧ w' = W) (w : World) (x : Nat) (hx : x < 18446744073709551616) :
    Calls Tryd.prog 17 #[.float .f64 x] w fun e w' => e = .returned (.agg (tab (nth (kyl (plc x))) 8)) ∧ w.grownBy w' none := by
  have hT0 := Tb.new w #[Value.int .u8 0, Value.int .u8 0, Value.int .u8 0, Value.int .u8 0, Value.int .u8 0, Value.int .u8 0, Value.int .u8 0, Value.int .u8 0] 23 8 (nth (kyl (plc x))) rfl
  have hK1 := heap_alloc_new (w.alloc (.cells #[.int .u8 0, .int .u8 0, .int .u8 0, .int .u8 0, .int .u8 0, .int .u8 0, .int .u8 0, .int .u8 0] 23)) (.cells #[.int .u8 0, .int .u8 0, .int .u8 0, .int .u8 0, .int .u8 0, .int .u8 0, .int .u8 0, .int .u8 0] 23)
  have hs1 : (w.alloc (.cells #[.int .u8 0, .int .u8 0, .int .u8 0, .int .u8 0, .int .u8 0, .int .u8 0, .int .u8 0, .int .u8 0] 23)).heap.size = w.heap.size + 1 := by simp
  rw [hs1] at hK1
  have hg1 := alloc_grown w (.cells #[.int .u8 0, .int .u8 0, .int .u8 0, .int .u8 0, .int .u8 0, .int .u8 0, .int .u8 0, .int .u8 0] 23)
  have hg2 := alloc_grown (w.alloc (.cells #[.int .u8 0, .int .u8 0, .int .u8 0, .int .u8 0, .int .u8 0, .int .u8 0, .int .u8 0, .int .u8 0] 23)) (.cells #[.int .u8 0, .int .u8 0, .int .u8 0, .int .u8 0, .int .u8 0, .int .u8 0, .int .u8 0, .int .u8 0] 23)
  have hT1 := hT0.grown hg2
  have hG2 := grown_trans hg1 hg2 (by simp)
  have hpl := plc_lt hx
  have hpa := fun W => hP W x hx
  clear hT0 hg1 hg2 hs1
  obtain ⟨p, hp⟩ : ∃ p, plc x = p := ⟨_, rfl⟩
  rw [hp] at hpl hT1 ⊢
  simp only [hp] at hpa
  go_enter Tryd.func17, Tryd.ntmps17
  go_wp2_with fail
  obtain ⟨w2, hw2⟩ : ∃ w2, (w.alloc (.cells #[.int .u8 0, .int .u8 0, .int .u8 0, .int .u8 0, .int .u8 0, .int .u8 0, .int .u8 0, .int .u8 0] 23)).alloc (.cells #[.int .u8 0, .int .u8 0, .int .u8 0, .int .u8 0, .int .u8 0, .int .u8 0, .int .u8 0, .int .u8 0] 23) = w2 := ⟨_, rfl⟩
  rw [hw2] at hK1 hT1 hG2
  obtain ⟨z, hz⟩ : ∃ z, w.heap.size = z := ⟨_, rfl⟩
  simp only [hw2, hz]
  rw [hz] at hK1 hT1
  have HZ : Hid (w.heap.size = z) := hz
  clear hw2 hz
  refine (hpa w2).mono ?_
  rintro r w3 ⟨rfl, rfl⟩
  have hTq : Tq w3 (z + 1) 8 (nth (kyl p)) := ⟨_, hK1, rfl, fun j h1 h2 => by omega⟩
  clear hpa hK1
  go_wp2_with fail
  go_loopw [4, 5] (fun v4 v5 wr => ∃ (k y : Nat) (i : Int), v4 = .int .u64 (y : Int) ∧ v5 = .int .i64 i ∧ i + 1 = (k : Int) ∧ k ≤ 8 ∧ y < 18446744073709551616 ∧ Tq wr (z + 1) k (nth (kyl p)) ∧ Tb wr z 23 8 0 (nth (kyl p)) ∧ w.grownBy wr none ∧ Hid (y = p / 256 ^ (8 - k))) (fun _ v5 _ => (intOf v5 + 1).toNat)
  case atStart => exact ⟨8, p, 7, rfl, by first | rfl | go_num, by omega, Nat.le_refl _, hpl, hTq, hT1, hG2, (show _ = _ by simp)⟩
  case round =>
    obtain ⟨k, y, i, rfl, rfl, hik, hk, hy, hq, ht, hg, hY⟩ := hrel
    by_cases hlt : 0 < k
    · obtain ⟨m, rfl⟩ : ∃ m, k = m + 1 := ⟨k - 1, by omega⟩
      obtain rfl : i = (m : Int) := by omega
      have d1 : decide ((0 : Int) ≤ (m : Int)) = true := by simp
      have hm8 : m < 8 := by omega
      have b1 : (0 : Int) ≤ (m : Int) := by omega
      have b2 : (m : Int) < 8 := by omega
      obtain ⟨v0, hv0⟩ := hq.any m hm8
      have hfz := hq.there m
      have hval : ((y : Int) % 256) = ((nth (kyl p) m : Nat) : Int) := by
        rw [kyl_nth' p m hm8, hY.out]
        have e1 : 8 - (m + 1) = 7 - m := by omega
        rw [e1]
        omega
      have hq2 := hq.set hm8 hval
      have ht2 : Tb (wr.setCell ⟨z + 1, m, none⟩ (.int .u8 ((y : Int) % 256))) z 23 8 0 (nth (kyl p)) := by
        obtain ⟨c, h1, h2, h3⟩ := ht
        exact ⟨c, (Below.heap_setCell _ _ _ _ (by show z ≠ z + 1; omega)).trans h1, h2, h3⟩
      have hg2 := set_grown wr (z + 1) m (.int .u8 ((y : Int) % 256)) hg (by rw [HZ.out]; omega)
      have hY2 : Hid (y / 256 = p / 256 ^ (8 - m)) := by
        show _ = _
        rw [hY.out, Nat.div_div_eq_div_mul, ← Nat.pow_succ]
        congr 2
        omega
      have HR : Hid (Tq (wr.setCell ⟨z + 1, m, none⟩ (.int .u8 ((y : Int) % 256))) (z + 1) m (nth (kyl p)) ∧ Tb (wr.setCell ⟨z + 1, m, none⟩ (.int .u8 ((y : Int) % 256))) z 23 8 0 (nth (kyl p)) ∧ w.grownBy (wr.setCell ⟨z + 1, m, none⟩ (.int .u8 ((y : Int) % 256))) none) := ⟨hq2, ht2, hg2⟩
      clear hq ht hg hq2 ht2 hg2 hval
      go_wp2_with fail
      go_roundw
      case rel => exact ⟨m, y / 256, (m : Int) - 1, val_int' (by omega), by first | rfl | go_num, by omega, by omega, by omega, HR.out.1, HR.out.2.1, HR.out.2.2, hY2⟩
      case measure => simp [intOf]
    · obtain rfl : k = 0 := by omega
      obtain rfl : i = -1 := by omega
      have hB := hq.tb
      have HG : Hid _ := hg
      clear hg
      go_wp2_with (first
        | refine wpList_load_tab rfl 23 (.tmp 3) rfl (z + 1) (nth (kyl p)) 8 rfl 23 hB _ Tryd.underlying23 rfl info23 ?_
        | (refine wpList_store_tab rfl 23 (.tmp 2) (.tmp 19) rfl z (nth (kyl p)) 8 rfl rfl 23 ht info23 ?_; intro w5 hT5 hG5))
      exact bodyPost_ret (v := .agg (tab (nth (kyl p)) 8)) (results_tab rfl _ z 23 (nth (kyl p)) 8 _ rfl hT5 Tryd.underlying23 rfl info23) rfl ⟨rfl, below_of_new HG.out hG5 (by have := HZ.out; omega)⟩
end Go.Proofs.YtmjcjcpifahpaaaDoor
