/-
  Batches in other memory; lists that may be spoiled.
-/
import Derived.Test.YtkcgpjmjaedlbaaP1
namespace Go.Proofs.Ytkcgpjmjaedlbaa
open Go.RowKit Go.Shelf
set_option linter.unusedVariables false

theorem ds_lens {l k : List Rc} (h : ds l = ds k) : l.length = k.length := by
  have := congrArg List.length h
  simpa [ds] using this
theorem Bsay.al {base : Int} {L M : List Rl} {ps : List Nat} {bs : List (Int × Rl)} (h : Bsay base M ps bs) (hD : M.map Rl.d = L.map Rl.d) : Bsay base L ps bs := by
  intro j x p hx hp
  obtain ⟨h1, h2, h3⟩ := h j x p hx hp
  have e1 : ds (flat (M.take (ps.take j).sum)) = ds (flat (L.take (ps.take j).sum)) := ds_flat (by rw [List.map_take, List.map_take, hD])
  have e2 : ds (flat ((M.drop (ps.take j).sum).take p)) = ds (flat ((L.drop (ps.take j).sum).take p)) := ds_flat (by rw [List.map_take, List.map_take, List.map_drop, List.map_drop, hD])
  exact ⟨by rw [h1, ds_lens e1], by rw [h2, ds_lens e2], h3.trans e2⟩
/-- The lists that were lent may be spoiled. -/
def May (W : World) (lo H : Nat) (M : List Rl) : Prop := ∀ m ∈ M, m.n ≤ 4096 ∧ (∀ r ∈ m.l, r.kn ≤ 140737488355328 ∧ r.vn ≤ 140737488355328) ∧ ∃ l h g, m.o = some ⟨g, 0, none⟩ ∧ lo ≤ l ∧ h ≤ H ∧ Sq W l g h m.n m.l
theorem May.ty {A B : World} {lo H : Nat} {M : List Rl} (h : May A lo H M) (k : Ty A B) : May B lo H M := fun m hm => by
  obtain ⟨h1, h2, l, h', g, h3, h4, h5, h6⟩ := h m hm
  exact ⟨h1, h2, l, h', g, h3, h4, h5, h6.ty k⟩
theorem Lend.may {W : World} {base n mc H : Nat} {mo : Option Addr} {M : List Rl} (h : Lend W base mo n mc M) (hH : W.heap.size = H) (hs : ∀ x ∈ M, x.n ≤ 4096) : May W base H M := fun m hm => by
  obtain ⟨lo, hi, g, h1, h2, h3, h4⟩ := h.each m hm
  exact ⟨hs m hm, fun r hr => ⟨(h2.rk r hr).kb, (h2.rk r hr).vb⟩, lo, hi, g, h1, h3, by rw [← hH]; exact h2.top, h2.sq⟩
theorem Sq.grown {A B : World} {lo g H n : Nat} {rs : List Rc} (h : Sq A lo g H n rs) (hg : A.grownBy B none) (hH : H ≤ A.heap.size) : Sq B lo g H n rs := by
  have c : ∀ a v, A.cell? a = some v → B.cell? a = some v := fun a v e => hg.cell e (by simp)
  have f : ∀ b i, b < A.heap.size → B.frozen? ⟨b, i, none⟩ = A.frozen? ⟨b, i, none⟩ := fun b i hb => World.frozen?_of_block (a := ⟨b, i, none⟩) (hg.block b hb (by simp))
  have wq : ∀ ao m, Wq A lo H ao m → Wq B lo H ao m := fun ao m h i hi => by
    obtain ⟨b, o, z, h1, h2, h3, h4⟩ := h i hi
    exact ⟨b, o, z, h1, h2, c _ _ h3, (f _ _ (by omega)).trans h4⟩
  exact ⟨h.len, h.top, fun j hj => by obtain ⟨z, hz⟩ := h.t j hj; exact ⟨z, c _ _ hz⟩, fun j r hr => c _ _ (h.k j r hr), fun j r hr => c _ _ (h.v j r hr), fun i => (f _ _ (by have := h.top; omega)).trans (h.fz i), fun r hr => wq _ _ (h.kb r hr), fun r hr => wq _ _ (h.vb r hr)⟩
theorem May.grown {A B : World} {lo H : Nat} {M : List Rl} (h : May A lo H M) (hg : A.grownBy B none) (hH : H ≤ A.heap.size) : May B lo H M := fun m hm => by
  obtain ⟨h1, h2, l, h', g, h3, h4, h5, h6⟩ := h m hm
  exact ⟨h1, h2, l, h', g, h3, h4, h5, h6.grown hg (by omega)⟩
theorem May.spoil {W : World} {lo H : Nat} {M : List Rl} (h : May W lo H M) {m : Rl} (hm : m ∈ M) :
    Calls Try.prog 21 #[.slice m.o m.n m.c] W fun e w' => e = .returned (.bool true) ∧ Chg W w' (fun k => lo ≤ k ∧ k < H) ∧ Ty W w' := by
  obtain ⟨h1, h2, l, h', g, h3, h4, h5, h6⟩ := h m hm
  rw [h3]
  refine (spoil_ty W l g h' m.n m.c m.l h6 (by omega) h2).mono ?_
  rintro e w' ⟨rfl, hb, hk⟩
  exact ⟨rfl, hb.mono fun k _ hk => by omega, hk⟩
theorem len_le_sum (ps : List Nat) (h : ∀ p ∈ ps, 1 ≤ p) : ps.length ≤ ps.sum := by
  induction ps with
  | nil => exact Nat.le_refl _
  | cons p ps ih =>
    have h1 := h p (by simp)
    have h2 := ih (fun q hq => h q (by simp [hq]))
    rw [List.length_cons, List.sum_cons]
    omega
theorem run_equalIn_nil (w : World) (d : Nat) (t : TypeId) (ps rs : Array TypeId) (vd : Bool) (ht : Try.prog.underlying t = some (.func ps rs vd)) : (Op.equalIn (d + 1) t .nilFunc .nilFunc).run Try.prog w = .ok true w := by
  simp [Op.equalIn, run_underlying ht]
theorem run_equal_nil (w : World) (t : TypeId) (ps rs : Array TypeId) (vd : Bool) (ht : Try.prog.underlying t = some (.func ps rs vd)) : (Op.equal t .nilFunc .nilFunc).run Try.prog w = .ok true w := run_equalIn_nil w 9999 t ps rs vd ht
/-- 'f == nil' of no function. -/
theorem run_eql_nil (w : World) (t : TypeId) (ps rs : Array TypeId) (vd : Bool) (ht : Try.prog.underlying t = some (.func ps rs vd)) : (binOp .eql t .nilFunc .nilFunc).run Try.prog w = .ok (.bool true) w := by
  simp only [binOp]
  simp [run_equal_nil w t ps rs vd ht]
end Go.Proofs.Ytkcgpjmjaedlbaa
