/-
  Open, and the known sums: the walks of the code.
-/
import Derived.Test.YtkfpgmpjimnleaaDoorC6
import Derived.Lib.SlBytesConst
namespace Go.Proofs.YtkfpgmpjimnleaaDoor
open Go.RowKit
set_option linter.unusedVariables false

set_option maxHeartbeats 400000 in
theorem open_short (w : World) (ao : Option Addr) (n cap : Nat) (hn : n < 4) :
    Calls Tryd.prog 23 #[.slice ao n cap] w fun e w' => e = .returned (.tuple #[.slice none 0 0, .int .i64 120]) ∧ w' = w := by
  have hd : decide ((n : Int) - 4 < 0) = true := by simp; omega
  go_enter Tryd.func23, Tryd.ntmps23
  go_wp2
  go_ret2
  exact ⟨rfl, rfl⟩

theorem open_parts {w : World} {b o m cap : Nat} {l : List UInt8} (hb : Bs w (some ⟨b, o, none⟩) (m + 4) cap l) : Bs w (some ⟨b, o, none⟩) m cap (l.take m) ∧ Bs w (some ⟨b, o + m, none⟩) 4 (cap - m) (l.drop m) := by
  refine ⟨hb.take m (by omega), ?_⟩
  have h := hb.drop m (by omega) (o + m) (Or.inr rfl)
  rwa [show m + 4 - m = 4 from by omega] at h

set_option maxRecDepth 100000 in
set_option maxHeartbeats 2000000 in
theorem open_not (w : World) (b o m cap : Nat) (l : List UInt8) (hb : Bs w (some ⟨b, o, none⟩) (m + 4) cap l) (hsz : m ≤ 140737488355328) (hne : sm (l.take m) ≠ val (l.drop m)) :
    Calls Tryd.prog 23 #[.slice (some ⟨b, o, none⟩) (m + 4 : Nat) cap] w fun e w' => e = .returned (.tuple #[.slice none 0 0, .int .i64 121]) ∧ w.grownBy w' none := by
  obtain ⟨h1, h2⟩ := open_parts hb
  have hroom := hb.room
  have hca : ¬ cap = m := by omega
  have hi1 : (0 : Int) ≤ (m : Int) := by omega
  have hi2 : (m : Int) ≤ (cap : Int) := by omega
  have hi3 : (m : Int) ≤ (m : Int) + 4 := by omega
  have hi4 : ((m : Int) + 4) ≤ (cap : Int) := by omega
  have hd : decide ((m : Int) < 0) = false := by simp
  have hq : (((sm (l.take m) : Nat) : Int) != ((val (l.drop m) : Nat) : Int)) = true := by simp; omega
  have hq2 : (((sm (l.take m) : Nat) : Int) == ((val (l.drop m) : Nat) : Int)) = false := by simp; omega
  go_enter Tryd.func23, Tryd.ntmps23
  go_wp2_with fail
  go_region_with ((first
    | (go_at_call 12; refine (sum_any _ _ _ _ [l.take m] (Pc.one _ _ _ _ _ (h1.grown (grown_drew _ none)) 26)).mono ?_; rw [show [l.take m].flatten = l.take m from by simp]; rintro e w1 ⟨rfl, hg1⟩)
    | (go_at_call 42; refine (sealOf_any _ b (o + m) 4 (cap - m) (l.drop m) (((h2.grown (grown_drew _ none)).grown (alloc_grown _ _)).grown hg1) (by omega)).mono ?_; rintro e w' ⟨rfl, rfl⟩)))
  all_goals go_wp2
  all_goals go_ret2
  all_goals exact ⟨rfl, grown_trans (grown_trans (grown_drew _ none) (alloc_grown _ _) (by simp)) hg1 (by simp)⟩

set_option maxRecDepth 100000 in
set_option maxHeartbeats 2000000 in
theorem open_ok (w : World) (b o m cap : Nat) (l : List UInt8) (hb : Bs w (some ⟨b, o, none⟩) (m + 4) cap l) (hsz : m ≤ 140737488355328) (hne : sm (l.take m) = val (l.drop m)) :
    Calls Tryd.prog 23 #[.slice (some ⟨b, o, none⟩) (m + 4 : Nat) cap] w fun e w' => ∃ g, e = .returned (.tuple #[.slice (some ⟨g, 0, none⟩) m m, .int .i64 0]) ∧ Ow w' w.heap.size 5 (some ⟨g, 0, none⟩) m m (l.take m) ∧ w.grownBy w' none := by
  obtain ⟨h1, h2⟩ := open_parts hb
  have hroom := hb.room
  have hlen := hb.len
  have hca : ¬ cap = m := by omega
  have hi1 : (0 : Int) ≤ (m : Int) := by omega
  have hi2 : (m : Int) ≤ (cap : Int) := by omega
  have hi3 : (m : Int) ≤ (m : Int) + 4 := by omega
  have hi4 : ((m : Int) + 4) ≤ (cap : Int) := by omega
  have hd : decide ((m : Int) < 0) = false := by simp
  have hq : (((sm (l.take m) : Nat) : Int) != ((val (l.drop m) : Nat) : Int)) = false := by simp [hne]
  have hq2 : (((sm (l.take m) : Nat) : Int) == ((val (l.drop m) : Nat) : Int)) = true := by simp [hne]
  have HNE : Hid (sm (l.take m) = val (l.drop m)) := hne
  clear hne
  go_enter Tryd.func23, Tryd.ntmps23
  go_wp2_with fail
  go_region_with ((first
    | (go_at_call 12; refine (sum_any _ _ _ _ [l.take m] (Pc.one _ _ _ _ _ (h1.grown (grown_drew _ none)) 26)).mono ?_; rw [show [l.take m].flatten = l.take m from by simp]; rintro e w1 ⟨rfl, hg1⟩)
    | (go_at_call 42; refine (sealOf_any _ b (o + m) 4 (cap - m) (l.drop m) (((h2.grown (grown_drew _ none)).grown (alloc_grown _ _)).grown hg1) (by omega)).mono ?_; rintro e w1 ⟨rfl, rfl⟩)))
  have hG1 : w.grownBy w1 none := grown_trans (grown_trans (grown_drew _ none) (alloc_grown _ _) (by simp)) hg1 (by simp)
  have hb1 := hb.grown hG1
  have hs1 := hG1.size
  clear hg1 h1 h2 hb
  go_wp2_with (at_make; refine wpList_make_bs _ rfl _ _ 26 rfl w.heap.size 5 Tryd.underlying26 info5 m m rfl rfl (by omega) (by omega) (by omega) (by omega) hs1 ?_)
  intro g w2 ho2 hg2
  have hb2 := hb1.grown hg2
  have hG2 := grown_trans hG1 hg2 (by simp)
  go_wp2_with (refine wpList_copy_part _ rfl (.tmp 23) (.tmp 24) 26 rfl w.heap.size 5 Tryd.underlying26 info5 rfl ho2 rfl hb2 ?_)
  intro w3 ho3 hg3
  have hG3 : w.grownBy w3 none := grown_trans hG2 hg3 (fun k hk => Or.inr (ho2.from_base k hk).1)
  have ho4 : Ow w3 w.heap.size 5 (some ⟨g, 0, none⟩) m m (l.take m) := by first | exact ho3 | simpa using ho3
  clear ho3 ho2 hg3 hb2 hG2
  go_wp2
  go_ret2
  exact ⟨g, rfl, ho4, hG3⟩

theorem num_any (w : World) (z : Int) : Calls Tryd.prog 28 #[.int .i64 z] w fun e w' => e = .returned (.int .i64 z) ∧ w' = w := by
  go_enter Tryd.func28, Tryd.ntmps28
  go_wp2
  go_ret
  exact ⟨rfl, rfl⟩

end Go.Proofs.YtkfpgmpjimnleaaDoor
