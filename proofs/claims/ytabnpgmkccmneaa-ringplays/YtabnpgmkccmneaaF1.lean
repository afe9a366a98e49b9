/-
  What All answers, gone over: the iterator's contract.
-/
import Derived.Test.YtabnpgmkccmneaaN4
import Derived.RangeFuncNested
import Derived.RangeFuncBound
import Derived.RangeFuncCalls
import Derived.RangeFuncLeaves
import Derived.Shelf.Abstract
import Derived.OwnWalkIn
import Derived.TacticsInMore
import Derived.LoopNIn
import Derived.LoopIn
namespace Go.Proofs.Ytabnpgmkccmneaa
open Go.RowKit Go.Shelf
set_option linter.unusedVariables false
attribute [local go_sem] Oper.semAt_some
namespace Ri

/-- What a round is handed: the place, and what stands there. -/
def eat (zs : List Int) (x : Fin zs.length) : Array Value := #[.int .i64 (x.val : Int), .int .i64 zs[x]]

theorem finRange_take_succ {n k : Nat} (h : k < n) : (List.finRange n).take (k + 1) = (List.finRange n).take k ++ [⟨k, h⟩] := by
  rw [List.take_add_one]
  congr 1
  have : (List.finRange n)[k]? = some ⟨k, h⟩ := by rw [List.getElem?_eq_getElem (by simpa using h)]; simp
  rw [this]; rfl

set_option maxRecDepth 100000 in
set_option maxHeartbeats 1000000 in
theorem all1_in (l c o n₀ : Nat) (zs : List Int) (hlen : zs.length ≤ 256) (J Jx : List (Fin zs.length) → World → Prop) (n : Nat) (hn : 1 ≤ n)
    (hY : ∀ pre x W, J pre W → pre.length < zs.length → YieldAt Fence.wide (n - 1) Try.prog l (eat zs x) W fun e W' =>
      (e = .returned (.bool true) ∧ J (pre ++ [x]) W' ∧ Below n₀ W W') ∨ (e = .returned (.bool false) ∧ Jx (pre ++ [x]) W'))
    (W : World) (hs : Sq W c o (zs.map (.int .i64))) (ho : o < n₀) (h0 : J [] W) :
    CallsIn Fence.wide n Try.prog 44 #[.func (.yield l) #[] #[], .pointer (some ⟨c, 0, none⟩)] W fun e W' => (∃ v, e = .returned v) ∧
      ((∃ ys, ys = List.finRange zs.length ∧ J ys W') ∨ (∃ pre, pre <+: List.finRange zs.length ∧ Jx pre W')) := by
  have hb := hs.box
  rw [List.length_map] at hb
  refine callsIn_of_wp Try.func44 rfl trivial ?_
  simp only [Try.ntmps44, List.size_toArray, List.length_cons, List.length_nil, Nat.reduceAdd, Nat.reduceSub, Array.replicate_succ, Array.replicate_zero, List.push_toArray, List.append_toArray, List.nil_append, List.cons_append]
  gi_wp2
  gi_loopw [3, 4, 7] (fun _ _ i wr => ∃ k : Nat, i = .int .i64 k ∧ k ≤ zs.length ∧ Ro wr o 3 (zs.map (.int .i64)) ∧ J ((List.finRange zs.length).take k) wr) (fun _ _ i _ => zs.length - (intOf i).toNat)
  case atStart =>
    exact ⟨0, rfl, Nat.zero_le _, hs.row, by simpa using h0⟩
  case round =>
    obtain ⟨k, rfl, hk, hro, hJ⟩ := hrel
    by_cases hlt : k < zs.length
    · have hcell : wr.cell? ⟨o, k, none⟩ = some (.int .i64 zs[k]) := by rw [hro.cell]; simp [hlt]
      obtain ⟨fn, tmps, assign, body, hy, hR⟩ := hY _ ⟨k, hlt⟩ wr hJ (by simp; omega)
      simp only [eat, Fin.getElem_fin] at hy
      gi_wp2
      refine hR.mono ?_
      rintro e W3 (⟨rfl, hJ3, hk3⟩ | ⟨rfl, hJx3⟩)
      · have hro3 : Ro W3 o 3 (zs.map (.int .i64)) := (hk3.block o ho).trans hro
        rw [← finRange_take_succ hlt] at hJ3
        gi_wp2
        go_roundw
        case rel => exact ⟨k + 1, by go_num, by omega, hro3, hJ3⟩
        case measure => simp [intOf]; omega
      · gi_wp2
        refine bodyPost_ret (results_none rfl _ _ _) rfl ?_
        exact ⟨⟨_, rfl⟩, .inr ⟨_, by rw [← finRange_take_succ hlt]; exact List.take_prefix _ _, hJx3⟩⟩
    · obtain rfl : k = zs.length := by omega
      gi_wp2
      go_end0
      exact ⟨⟨_, rfl⟩, .inl ⟨_, List.take_of_length_le (by simp), hJ⟩⟩

/-- What All answered, as the kit's word for an iterator. -/
theorem all_stops (n : Nat) (h1 : 1 ≤ n) (c o n₀ : Nat) (zs : List Int) (hlen : zs.length ≤ 256) (w : World) (hs : Sq w c o (zs.map (.int .i64))) (hc : c < n₀) (ho : o < n₀) (hn : n₀ ≤ w.heap.size) :
    SeqStopsK Fence.wide n Try.prog 44 #[.pointer (some ⟨c, 0, none⟩)] (eat zs) (Below n₀) (fun ys => ys = List.finRange zs.length) (fun pre => pre <+: List.finRange zs.length) zs.length w :=
  fun l J Jx W hW _ _ hY h0 => all1_in l c o n₀ zs hlen J Jx n h1 hY W ⟨(hW.cell (p := ⟨c, 0, none⟩) (by show c < _; omega)).trans hs.box, (hW.block o (by omega)).trans hs.row⟩ ho h0

end Ri
end Go.Proofs.Ytabnpgmkccmneaa
