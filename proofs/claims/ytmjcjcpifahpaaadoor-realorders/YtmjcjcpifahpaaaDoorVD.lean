/-
  RealOrders: the document's Read: the walk.
-/
import Derived.Test.YtmjcjcpifahpaaaDoorVC
import Derived.Test.YtmjcjcpifahpaaaDoorV7
import Derived.Test.YtmjcjcpifahpaaaDoorV8
import Derived.Test.YtmjcjcpifahpaaaDoorVA
namespace Go.Proofs.YtmjcjcpifahpaaaDoor
open Go.RowKit
set_option linter.unusedVariables false

def sb (l : List UInt8) : ByteArray := ⟨l.toArray⟩
theorem sb_size (l : List UInt8) : (sb l).size = l.length := by simp [sb, ByteArray.size]
theorem sb_toList (l : List UInt8) : (sb l).toList = l := ByteArray.toList_mk l
theorem sb_data (l : List UInt8) : (sb l).data.toList = l := by simp [sb]
theorem sb_from (l : List UInt8) (k : Nat) : (sb l).extract k (sb l).size = sb (l.drop k) := by
  apply ByteArray.ext
  rw [ByteArray.data_extract, sb_size]
  simp [sb, List.take_of_length_le]
theorem sb_to (l : List UInt8) (k : Nat) : (sb l).extract 0 k = sb (l.take k) := by
  apply ByteArray.ext
  rw [ByteArray.data_extract]
  simp [sb]
theorem sb_at (l : List UInt8) {k : Nat} {c : UInt8} (h : l[k]? = some c) (h2 : k < (sb l).size) : (sb l)[k] = c := by
  have := (List.getElem?_eq_some_iff.1 h).2
  rw [← this]
  rfl
theorem dg_none (w : World) (l : List UInt8) (hl : l.length ≤ 4611686018427387904) (h : dgx l = none) : Calls Tryd.prog 37 #[.string (sb l)] w fun e w' => ∃ v : Nat, e = .returned (.tuple #[.int .i64 v, .bool false]) ∧ v < 1000000000000000000 ∧ w' = w :=
  (digits_any w (sb l) (by rw [sb_size]; exact hl)).mono fun e w' ⟨v, ok, h1, h2, h3, h4, h5⟩ => by
    rw [sb_data] at h3
    obtain rfl := h3 h
    exact ⟨v, h1, h4, h5⟩
theorem dg_some (w : World) (l : List UInt8) (m : Nat) (hl : l.length ≤ 4611686018427387904) (h : dgx l = some m) : Calls Tryd.prog 37 #[.string (sb l)] w fun e w' => e = .returned (.tuple #[.int .i64 m, .bool true]) ∧ m < 1000000000000000000 ∧ w' = w :=
  (digits_any w (sb l) (by rw [sb_size]; exact hl)).mono fun e w' ⟨v, ok, h1, h2, h3, h4, h5⟩ => by
    rw [sb_data] at h2
    obtain ⟨rfl, rfl⟩ := h2 m h
    exact ⟨h1, h4, h5⟩
theorem sgd_x (neg : Bool) {r : Nat} (h : r < 9223372036854775808) : sgd neg r = sgx neg r := by
  unfold sgd sgx
  cases neg
  · rfl
  · simp only [if_true]; omega
theorem rda_bad {L T : List UInt8} {neg : Bool} (hc : cut 45 L = (T, neg)) (hn : L ≠ [110, 97, 110]) (h0 : T ≠ [48]) (h1 : T ≠ [105, 110, 102]) (h2 : rxm T = none) : RdA L 0 130 := by
  have e1 : (cut 45 L).1 = T := by rw [hc]
  exact rda_none hn (by rw [e1]; exact h0) (by rw [e1]; exact h1) (by rw [e1]; exact h2)
theorem rdret {L : List UInt8} {d : Nat} {h : Int} (hr : RdA L d h) {W w : World} (hg : W.grownBy w none) : ∃ d' h', Ending.returned (.tuple #[.float .f64 d, .int .i64 h]) = .returned (.tuple #[.float .f64 d', .int .i64 h']) ∧ RdA L d' h' ∧ W.grownBy w none := ⟨d, h, rfl, hr, hg⟩


set_option maxRecDepth 100000 in
set_option maxHeartbeats 8000000 in
theorem rread_nil (w : World) :
    Calls Tryd.prog 11 #[.string (sb [])] w fun e w' => ∃ d h, e = .returned (.tuple #[.float .f64 d, .int .i64 h]) ∧ RdA [] d h ∧ w.grownBy w' none := by
  have hs := sb_toList []
  have hz : (sb []).size = 0 := rfl
  have hR : Hid (RdA [] 0 130) := rda_none (by decide) (by decide) (by decide) (rxm_no (fun j h => absurd h (by simp [cut])))
  go_enter Tryd.func11, Tryd.ntmps11
  go_wp2_with fail
  go_loopw [7] (fun v7 wr => v7 = .int .i64 0 ∧ wr = w) (fun _ _ => 0)
  case atStart => exact ⟨rfl, rfl⟩
  case round =>
    obtain ⟨rfl, rfl⟩ := hrel
    go_wp2
    go_ret2
    exact rdret hR.out (grown_refl _ _)
end Go.Proofs.YtmjcjcpifahpaaaDoor
