/-
  Seal, Open: the walks of the code.
-/
import Derived.Test.YtkfpgmpjimnleaaDoorC3
namespace Go.Proofs.YtkfpgmpjimnleaaDoor
open Go.RowKit
set_option linter.unusedVariables false

theorem info5 : (Tryd.prog.info? 5).map (fun i => (i.zero, i.size, i.bytes)) = some (some (.int .u8 0), 1, 1) := by kernel_rfl

section
variable {P : Program} (w : World)
/-- 'copy(d, s)', d the call's own, whatever the lengths. -/
theorem wpList_copy_part {ops : Array Oper} {rest : List Oper} {o : Oper} {a : Act} {Q : Exit → Act → World → Prop} (hgd : o.guard = none) (d s : Operand) (t : TypeId)
    (ho : o.op = .call { callee := .builtin .copy, args := #[d, s], argTypes := #[t, t] })
    (base : Nat) (e : TypeId) (ht : P.underlying t = some (.slice e)) (hinfo : (P.info? e).map (fun i => (i.zero, i.size, i.bytes)) = some (some (.int .u8 0), 1, 1))
    {ao : Option Addr} {n cap : Nat} {l : List UInt8} (hd : a.eval d = .slice ao n cap) (hown : Ow w base e ao n cap l)
    {xo : Option Addr} {m c : Nat} {k : List UInt8} (hs : a.eval s = .slice xo m c) (hb : Bs w xo m c k)
    (h : ∀ w', Ow w' base e ao n cap (k.take n ++ l.drop m) → w.grownBy w' (blk ao) → wpList P ops Q rest (a.put o.dst (.int .i64 (Nat.min m n))) w') : wpList P ops Q (o :: rest) a w := by
  have hsz : (P.info? e).map (·.size) = some 1 := by
    obtain ⟨i, hi, hz, hz1, hz2⟩ := info_parts hinfo
    simp [hi, hz1]
  have hkl := hb.len
  have hll := hown.len
  by_cases h0 : Nat.min m n = 0
  · refine wpList_copy_nothing hgd d s t t ho e ht hsz ao xo n cap m c hd hs h0 ?_
    have e1 : k.take n ++ l.drop m = l := by
      rcases (show m = 0 ∨ n = 0 by have h9 : min m n = 0 := h0; omega) with hm | hn
      · obtain rfl : k = [] := List.eq_nil_of_length_eq_zero (by omega)
        subst hm; simp
      · obtain rfl : l = [] := List.eq_nil_of_length_eq_zero (by omega)
        subst hn; simp
    have h2 := h w (by rw [e1]; exact hown) (grown_refl _ _)
    rw [h0] at h2
    exact h2
  · rcases hown.row.2 with ⟨_, hv⟩ | ⟨g, c', cur, hv, hbg, hgg, hnc, hm, hsize, htake⟩
    · subst hv; simp at h0
    simp only [Value.slice.injEq] at hv
    obtain ⟨rfl, _, rfl⟩ := hv
    cases xo with
    | none =>
      have := hb.nil rfl
      have := hb.room
      have : m = 0 := by omega
      subst this
      simp at h0
    | some ad =>
      have hcl : ((k.take n).map bv).length = Nat.min m n := by simp [hkl, Nat.min_comm, Nat.min_def]
      refine wpList_copy_own hgd d s t t ho e ht hsz g 0 n cap ad m c hd hs cur e hgg ((k.take n).map bv) hcl (fun j v hv => hb.cells ad rfl j v (by
        rw [List.map_take, List.getElem?_take] at hv
        split at hv
        · exact hv
        · cases hv)) (by rw [hcl]; simp only [Nat.min_def]; split <;> omega) (bv_one _) ?_
      have hput : (goInt ((k.take n).map bv).length : Value) = .int .i64 (Nat.min m n) := by rw [hcl]; rfl
      rw [hput]
      have hnm : (k.take n ++ l.drop m).length = n := by simp [hkl, hll]; omega
      refine h _ ⟨hnm, by simp; omega, Or.inr ⟨g, cap, _, rfl, hbg, setRow_heap w g cur _ e _ hgg, hnc, hm, ?_, ?_⟩⟩ ⟨rfl, rfl, rfl, by simp [World.setRow], fun j hj hne => setRow_other w g j _ (fun e' => hne (by simp [blk, e']))⟩
      · simp [hkl]; omega
      · have h5 : l.map bv = cur.toList.take n := by rw [← htake, Nat.mul_one]
        have h6 : (l.drop m).map bv = (cur.toList.take n).drop m := by rw [← h5, List.map_drop]
        rw [List.map_append, h6]
        simp only [List.take_zero, List.nil_append, Nat.zero_add, Nat.mul_one]
        rw [hcl, List.take_append, hcl]
        by_cases hmn : m ≤ n
        · have e3 : Nat.min m n = m := Nat.min_eq_left hmn
          rw [e3, List.drop_take, List.take_of_length_le (by rw [hcl, e3]; exact hmn)]
        · have e3 : Nat.min m n = n := Nat.min_eq_right (by omega)
          rw [e3, Nat.sub_self, List.take_zero, List.append_nil, List.take_of_length_le (by rw [hcl, e3]; exact Nat.le_refl _), List.drop_of_length_le (by simp; omega), List.append_nil]
end

end Go.Proofs.YtkfpgmpjimnleaaDoor
