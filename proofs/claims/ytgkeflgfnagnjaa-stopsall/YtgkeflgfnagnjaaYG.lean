/-
  StopsBegins: the walk.
-/
import Derived.Test.YtgkeflgfnagnjaaYD
import Derived.Test.YtgkeflgfnagnjaaYF
import Derived.Test.YtgkeflgfnagnjaaUF
namespace Go.Proofs.Ytgkeflgfnagnjaa
open Go.RowKit Go.Shelf
set_option linter.unusedVariables false
set_option maxRecDepth 100000
attribute [local go_sem] Oper.semAt_some

theorem run_equalIn_fnB (w : World) (d : Nat) (t : TypeId) (ps rs : Array TypeId) (vd : Bool) (ht : Try.prog.underlying t = some (.func ps rs vd)) (fn : Fn) (fi ca : Array Value) : (Op.equalIn (d + 1) t (.func fn fi ca) .nilFunc).run Try.prog w = .ok false w := by
  simp [Op.equalIn, run_underlying ht]
theorem run_equal_fnB (w : World) (t : TypeId) (ps rs : Array TypeId) (vd : Bool) (ht : Try.prog.underlying t = some (.func ps rs vd)) (fn : Fn) (fi ca : Array Value) : (Op.equal t (.func fn fi ca) .nilFunc).run Try.prog w = .ok false w := run_equalIn_fnB w 9999 t ps rs vd ht fn fi ca
theorem run_eql_fnB (w : World) (t : TypeId) (ps rs : Array TypeId) (vd : Bool) (ht : Try.prog.underlying t = some (.func ps rs vd)) (fn : Fn) (fi ca : Array Value) : (binOp .eql t (.func fn fi ca) .nilFunc).run Try.prog w = .ok (.bool false) w := by
  simp only [binOp]
  simp [run_equal_fnB w t ps rs vd ht fn fi ca]
theorem results_boolB {fn : Func} {p : Tmp} (h : fn.results = #[.cell p 4]) (tmps : Array Value) (w : World) (g : Nat) (b : Bool) (hp : tmps.getD p undef = .pointer (some ⟨g, 0, none⟩)) (hc : w.cell? ⟨g, 0, none⟩ = some (.bool b)) : (results fn tmps).run Try.prog w = .ok (.bool b) w := by
  simp only [results, h]
  have hp' : tmps[p]?.getD undef = .pointer (some ⟨g, 0, none⟩) := by simpa using hp
  simp [Sem.run_bind, Result.andThen, hp', asAddr, loadVar, go_sem, hc]
theorem kpL_th : ∀ (L : List Rf) (ys : List Int), ∀ f ∈ kpL L ys, f.th = true
  | [], _, f, hf => by simp [kpL] at hf
  | g :: L, ys, f, hf => by
    have hF : ∀ y, ∀ f ∈ kpF g y, f.th = true := fun y f hf => by
      unfold kpF at hf
      split at hf
      · split at hf
        · cases hf
        · simp only [List.mem_singleton] at hf; rw [hf]
      · simp only [List.mem_singleton] at hf; rw [hf]
    simp only [kpL] at hf
    split at hf
    · rcases List.mem_append.1 hf with h | h
      · exact hF _ f h
      · exact kpL_th L _ f h
    · rcases List.mem_append.1 hf with h | h
      · exact hF _ f h
      · exact kpL_th L _ f h
end Go.Proofs.Ytgkeflgfnagnjaa
