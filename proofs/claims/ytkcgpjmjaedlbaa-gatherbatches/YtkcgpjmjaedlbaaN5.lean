/-
  Batches' closure as an iterator.
-/
import Derived.Test.YtkcgpjmjaedlbaaN3
import Derived.Test.YtkcgpjmjaedlbaaN4
namespace Go.Proofs.Ytkcgpjmjaedlbaa
open Go.RowKit Go.Shelf
set_option linter.unusedVariables false

/-- As an iterator. -/
theorem batches_told (m : Nat) (hm : 1 ≤ m) (w : World) (lo hi bb bp gb : Nat) (po : Option Addr) (pl pc : Nat) (ps : List Nat) (bs : List (Int × Rl)) (hn : ∀ x ∈ bs, x.2.n ≤ 100000) (hpl : pl ≤ 100000) (hB : Bt w lo hi bb bp gb po pl pc ps bs) :
    SeqTold Fence.wide m Try.prog 48 #[.pointer (some ⟨bb, 0, none⟩), .pointer (some ⟨bp, 0, none⟩)] benc (fun B => Btold B ps bs) (Below hi) (fun xs => xs.length = pl) (fun _ => True) w := by
  intro l J Jx W hBW hJ hJx hY h0
  have ht := hB.top
  refine (b48_in l w lo hi bb bp gb po pl pc ps bs hn hpl J Jx m hm W.heap.size (fun s A B h hg => hJ s A B none h hg (fun q e => by cases e)) (fun s A B h hg => hJx s A B none h hg (fun q e => by cases e)) hY W
    (hB.eqv (Eqv.of_below hBW ht ht)) (Nat.le_refl _) h0).mono ?_
  rintro e W' ⟨h1, h2 | ⟨pre, h2⟩⟩
  · exact ⟨h1, .inl h2⟩
  · exact ⟨h1, .inr ⟨pre, trivial, h2⟩⟩
end Go.Proofs.Ytkcgpjmjaedlbaa
