/-
  stops: All's closure over nothing.
-/
import Derived.Test.YtgkeflgfnagnjaaOB
import Derived.Test.YtgkeflgfnagnjaaG2
namespace Go.Proofs.Ytgkeflgfnagnjaa
open Go.RowKit Go.Shelf
set_option linter.unusedVariables false
attribute [local go_sem] Oper.semAt_some run_store_fn

set_option maxRecDepth 100000 in
set_option maxHeartbeats 1000000 in
theorem sall1_none (n : Nat) (w : World) (zl zt : Nat) (hz : Nb w zl zt) :
    SeqTold (α := Empty) Fence.wide n Try.prog 49 #[.pointer (some ⟨zl, 0, none⟩), .pointer (some ⟨zt, 0, none⟩)] Empty.elim (fun _ _ _ _ => True) (fun _ _ => True) (fun _ => True) (fun _ => False) w := by
  intro l J Jx W hB hJa _ _ h0
  have hmf : ∀ (fn : Fn) (first cap : Array Value) (w : World), (Instr.makeFunc fn first cap).run Try.prog w = .ok (.func fn first cap) w := fun _ _ _ _ => rfl
  have ht := (hB.cell (p := ⟨zt, 0, none⟩) hz.t.lt).trans hz.t.cell
  have hztl : zt < W.heap.size := Nat.lt_of_lt_of_le hz.t.lt hB.size
  show CallsIn Fence.wide n Try.prog 49 #[.func (.yield l) #[] #[], .pointer (some ⟨zl, 0, none⟩), .pointer (some ⟨zt, 0, none⟩)] W _
  have fin : ∀ W2, W.grownBy W2 none → J [] W2 := fun W2 hg => hJa _ _ _ none h0 hg (fun q e => by cases e)
  have hg3 : W.grownBy (((W.alloc (.cells #[.func (.yield l) #[] #[]] 92)).alloc (.cells #[.slice none 0 0] 23)).alloc (.cells #[.func (.func 50) #[] #[.pointer (some ⟨zl, 0, none⟩), .pointer (some ⟨W.heap.size, 0, none⟩), .pointer (some ⟨W.heap.size + 1, 0, none⟩), .pointer (some ⟨W.heap.size + 1 + 1, 0, none⟩)]] 93)) none := grown_trans (grown_trans (aGrown _ _) (aGrown _ _) (by simp)) (aGrown _ _) (by simp)
  have ht3 := hg3.cell ht (by simp)
  have hfin := fin _ hg3
  clear fin hg3
  refine callsIn_of_wp Try.func49 rfl trivial ?_
  simp only [Try.ntmps49, List.size_toArray, List.length_cons, List.length_nil, Nat.reduceAdd, Nat.reduceSub, Array.replicate_succ, Array.replicate_zero, List.push_toArray, List.append_toArray, List.nil_append, List.cons_append]
  gi_wp2
  go_end0
  exact ⟨⟨_, rfl⟩, ⟨[], hfin⟩⟩
end Go.Proofs.Ytgkeflgfnagnjaa
