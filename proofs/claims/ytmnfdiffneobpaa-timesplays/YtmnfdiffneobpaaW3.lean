/-
  A region that draws its order, inside a round of a range over a function, by the plain law for regions whose cells are held. Nothing here speaks of the program.
-/
import Derived.Test.YtmnfdiffneobpaaW1
import Derived.OrdersIn
import Derived.Deep.RegionHeld3
namespace Go.Proofs.Ytmnfdiffneobpaa
open Go.RowKit
set_option linter.unusedVariables false

section
variable {P : Program} {ops : Array Oper} {Q : Exit → Act → World → Prop} {md : Region.Mode}
theorem callsIn_round {r n : Nat} {f : FuncId} {args : Array Value} {w : World} {R : Ending → World → Prop} (h : Calls P f args w R) : CallsIn (Fence.wide.inRound r) n P f args w R :=
  callsIn_wide.2 h
/-- One that puts nothing off, and enters no row. -/
def still (o : Oper) : Bool := match o.op with
  | .defer _ => false
  | _ => true
theorem wpOpIn_of_op {r n i : Nat} {K : Act → World → Prop} {a : Act} {w : World} (hd : ∀ o, ops[i]? = some o → still o = true) (hno : ¬ LetsOut Q) (h : wpOp P ops Q i K a w) : wpOpIn (Fence.wide.inRound r) n P ops Q i K a w := by
  unfold wpOpIn
  unfold wpOp at h
  cases ho : ops[i]? with
  | none => simpa [ho] using h
  | some o =>
    have hs : ∀ c, o.op ≠ .defer c := fun c e => by
      have := hd o ho
      unfold still at this
      rw [e] at this
      cases this
    simp only [ho] at h ⊢
    split
    · rename_i hw
      simp only [hw, if_true] at h
      rcases h with h | ⟨_, h⟩
      · refine ⟨fun _ _ => trivial, ?_⟩
        rw [Oper.semAt_eq _ _ _ hs]
        unfold Oper.wp at h
        generalize (execOp a.eval o).run P w = rr at *
        cases rr with
        | ok x w' =>
          cases x <;> simp only [Oper.upon, Oper.uponIn] at h ⊢ <;> first
            | exact h
            | exact ⟨fun e => (Bool.false_ne_true e).elim, callsIn_round (Calls.mono h (fun e w'' he => by cases e <;> exact he))⟩
            | exact ⟨fun e => (Bool.false_ne_true e).elim, fun c cs _ => let ⟨v, w9, hr, hst⟩ := h c cs; ⟨v, w9, hr, stepsIn_wide.2 hst⟩⟩
            | exact h.elim
        | halt x w' =>
          cases x <;> simp only [Oper.upon, Oper.uponIn] at h ⊢ <;> first
            | exact h
            | exact h.elim
      · exact absurd h hno
    · rename_i hw
      simp only [hw] at h
      exact ⟨fun _ _ => trivial, h⟩
theorem wpAnyIn_of_any {r n : Nat} (hd : ∀ o ∈ ops.toList, still o = true) (hno : ¬ LetsOut Q) : ∀ (fuel : Nat) (l : Array Bool) (a : Act) (w : World), wpAny P md ops Q fuel l a w → wpAnyIn (Fence.wide.inRound r) n P md ops Q fuel l a w
  | 0, _, _, _, h => h
  | fuel + 1, _, _, _, h => ⟨h.1, fun i hi => wpOpIn_of_op (fun o ho => hd o (by simpa using Array.mem_of_getElem? ho)) hno (wpOp_mono (fun a' w' h' => wpAnyIn_of_any hd hno fuel _ a' w' h') (h.2 i hi))⟩
/-- The beginning of a walk. -/
theorem wpIn_region_round {r n id : Nat} {a : Act} {w : World} {S : World → Prop} (hm : P.follows .mixedOrders = true) (hd : (ops.toList.all still) = true) (hno : ¬ LetsOut Q) (hS : S w.drew)
    (h : S w.drew → wpAnyH P .any ops Q S ops.size (Array.replicate ops.size false) a w.drew) : (Code.region id ops true).wpIn (Fence.wide.inRound r) n P Q a w :=
  wpIn_region_any hm (wpAnyIn_of_any (fun o ho => List.all_eq_true.1 hd o ho) hno _ _ _ _ (wpAny_of_held _ _ _ _ (h hS)))
end
end Go.Proofs.Ytmnfdiffneobpaa
