/-
  works.
-/
import Derived.Test.YtmnfdiffneobpaaD1
import Derived.Test.YtmnfdiffneobpaaC2
namespace Go.Proofs.Ytmnfdiffneobpaa
open Go.RowKit Go.Shelf
set_option linter.unusedVariables false


set_option maxRecDepth 100000 in
theorem num_any (w : World) (i : Int) : Calls Try.prog 9 #[.int .i64 i] w fun e w' => e = .returned (.int .i64 i) ∧ w' = w := by
  go_enter Try.func9, Try.ntmps9
  go_wp2
  go_ret
  exact ⟨rfl, rfl⟩

/-- The rises of works. -/
def fiveL : List Sd := [⟨10, 5⟩, ⟨12, 9⟩]
theorem five_put : putR 10 [] [5, 3, 9] = (0, 13, fiveL) := by
  unfold putR
  rw [if_neg (by decide)]
  rfl
theorem five_srt : Srt fiveL := by
  intro a b ha hb hab
  have h2 : fiveL.length = 2 := rfl
  obtain rfl : a = 0 := by omega
  obtain rfl : b = 1 := by omega
  exact ⟨(by decide : (10 : Int) < 12), (by decide : (5 : Int) < 9)⟩
def recs3 : List Rc := [⟨5, none, 0, 0, none, 0, 0⟩, ⟨3, none, 0, 0, none, 0, 0⟩, ⟨9, none, 0, 0, none, 0, 0⟩]
theorem recs3_rs (w : World) (g : Nat) (h : w.heap[g]? = some (.cells #[.int .i64 5, .slice none 0 0, .slice none 0 0, .int .i64 3, .slice none 0 0, .slice none 0 0, .int .i64 9, .slice none 0 0, .slice none 0 0] 57)) : Rs w (some ⟨g, 0, none⟩) 3 recs3 := by
  refine ⟨rfl, fun _ => ⟨g, 0, rfl, fun j r hr => ?_⟩⟩
  match j, hr with
  | 0, hr => cases hr; exact ⟨cell_of h rfl, cell_of h rfl, cell_of h rfl⟩
  | 1, hr => cases hr; exact ⟨cell_of h rfl, cell_of h rfl, cell_of h rfl⟩
  | 2, hr => cases hr; exact ⟨cell_of h rfl, cell_of h rfl, cell_of h rfl⟩

set_option maxRecDepth 100000 in
set_option maxHeartbeats 2000000 in
theorem works_any (w : World) : Calls Try.prog 7 #[] w fun e w' => e = .returned (.bool true) ∧ w.grownBy w' none := by
  have q66 : ∀ (w : World) (f : Fn) (a b : Array Value), (binOp .eql 66 (.func f a b) .nilFunc).run Try.prog w = .ok (.bool false) w := fun w f a b => rfl
  have hnw := new_ok w 10 (by decide) (by decide)
  go_enter Try.func7, Try.ntmps7
  go_wp2_with fail
  refine hnw.mono ?_
  rintro e w1 ⟨rfl, hX1, hg1⟩
  clear hnw
  have hn1 := num_any w1 0
  go_wp2_with fail
  refine hn1.mono ?_
  rintro e w1' ⟨rfl, rfl⟩
  clear hn1
  have hal := all_any hX1
  go_wp2_with fail
  refine hal.mono ?_
  rintro e w2 ⟨rfl, _, hg2⟩
  clear hal
  have hX2 := hX1.grown hg2
  have hG2 := grown_trans hg1 hg2 (by simp)
  have ga := alloc_grown w2 (.cells #[.int .i64 5, .slice none 0 0, .slice none 0 0, .int .i64 3, .slice none 0 0, .slice none 0 0, .int .i64 9, .slice none 0 0, .slice none 0 0] 57)
  have hrs := recs3_rs _ _ (World.alloc_heap_new w2 (.cells #[.int .i64 5, .slice none 0 0, .slice none 0 0, .int .i64 3, .slice none 0 0, .slice none 0 0, .int .i64 9, .slice none 0 0, .slice none 0 0] 57))
  have hX3 := hX2.grown ga
  have hG3 := grown_trans hG2 ga (by simp)
  have hpu := put_any hX3 (by decide) (by decide) (some ⟨w2.heap.size, 0, none⟩) 3 3 recs3 hrs (fun k _ e => by cases e) (by decide) (by decide)
  rw [show recs3.map Rc.t = [5, 3, 9] from rfl, five_put] at hpu
  go_wp2_with fail
  generalize w2.alloc (.cells #[.int .i64 5, .slice none 0 0, .slice none 0 0, .int .i64 3, .slice none 0 0, .slice none 0 0, .int .i64 9, .slice none 0 0, .slice none 0 0] 57) = w3 at *
  refine hpu.mono ?_
  rintro e w4 ⟨ro4, rc4, rfl, hX4, hn4, hC4⟩
  have hG4 : w.grownBy w4 none := ((Chg.of_grown hG3 _).trans hC4).grown (fun k hk e => by
    rcases e with e | e
    · omega
    · cases e)
  clear hpu
  have hfi := find_any hX4 five_srt 6
  rw [show findR fiveL 6 = (12, true) by decide] at hfi
  go_wp2_with fail
  refine hfi.mono ?_
  rintro e w5 ⟨rfl, hg5⟩
  clear hfi
  have hX5 := hX4.grown hg5
  have hG5 := grown_trans hG4 hg5 (by simp)
  have hun := until_any hX5 five_srt 11
  rw [show untilR fiveL 11 = (5, true) by decide] at hun
  go_wp2_with fail
  refine hun.mono ?_
  rintro e w6 ⟨rfl, hg6⟩
  clear hun
  have hX6 := hX5.grown hg6
  have hG6 := grown_trans hG5 hg6 (by simp)
  have hn6 := num_any w6 0
  go_wp2_with fail
  refine hn6.mono ?_
  rintro e w6' ⟨rfl, rfl⟩
  clear hn6
  have hen := end_any hX6
  go_wp2_with fail
  refine hen.mono ?_
  rintro e w6'' ⟨rfl, rfl⟩
  clear hen
  have hri := rises_any hX6
  rw [show fiveL.length = 2 from rfl] at hri
  go_wp2_with fail
  refine hri.mono ?_
  rintro e w7 ⟨ro7, rc7, rfl, _, hg7⟩
  have hG7 := grown_trans hG6 hg7 (by simp)
  clear hri
  go_wp2
  go_ret
  exact ⟨rfl, hG7⟩
end Go.Proofs.Ytmnfdiffneobpaa
