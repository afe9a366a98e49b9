/-
  RealOrders: any eight bytes are a key's bytes of some place; what both sides make of them. Nothing here speaks of the program.
-/
import Derived.Test.YtmjcjcpifahpaaaDoorVA
import Derived.Test.YtmjcjcpifahpaaaDoorO1
namespace Go.Proofs.YtmjcjcpifahpaaaDoor
open Go.RowKit
set_option linter.unusedVariables false

section
variable {P : Program}
/-- 'append(s, x...)' as one step of a region that draws its order. -/
theorem step_append_bs2 {ops : Array Oper} {o : Oper} {a : Act} {w : World} {K : Act → World → Prop} {Q : Exit → Act → World → Prop} {E : Prop} (hgd : o.guard = none) (s x : Operand) (t : TypeId)
    (ho : o.op = .call { callee := .builtin .append, args := #[s, x], argTypes := #[t, t] })
    (base : Nat) (e : TypeId) (ht : P.underlying t = some (.slice e)) (hinfo : (P.info? e).map (fun i => (i.zero, i.size, i.bytes)) = some (some (.int .u8 0), 1, 1))
    {ao : Option Addr} {n cap : Nat} {l : List UInt8} (hs : a.eval s = .slice ao n cap) (hown : Ow w base e ao n cap l)
    {xo : Option Addr} {m c : Nat} {k : List UInt8} (hx : a.eval x = .slice xo m c) (hb : Bs w xo m c k)
    (hsum : n + m ≤ 140737488355328) (hbase : base ≤ w.heap.size) (N : Nat) (lk : List UInt8) (hN : n + m = N) (hlk : l ++ k = lk)
    (h : ∀ ao' cap' w', Ow w' base e ao' N cap' lk → w.grownBy w' (blk ao) → K (a.put o.dst (.slice ao' N cap')) w') :
    if Region.wanted o (yielded ops a.tmps) = true then Oper.wp P o a w K Q else E := by
  have hw : Region.wanted o (yielded ops a.tmps) = true := by simp [Region.wanted, hgd]
  rw [if_pos hw]
  subst hN hlk
  obtain ⟨i, hi, hz, hz1, hz2⟩ := info_parts hinfo
  cases xo with
  | none =>
    obtain rfl := hb.nil rfl
    obtain rfl : m = 0 := Nat.le_zero.1 hb.room
    obtain rfl : k = [] := List.eq_nil_of_length_eq_zero hb.len
    have hrun := run_append_owned_none (P := P) (w := w) base t o.type e i 1 ht hi _ n _ hown.row
    unfold Oper.wp
    simp [execOp, ho, resolve, invoke, builtin, hs, hx, hrun, Result.andThen]
    have h2 : K (a.put o.dst (.slice ao n cap)) w := by
      have := h ao cap w (by simpa using hown) (grown_refl _ _)
      simpa using this
    exact h2
  | some ad =>
    refine wp_append_own w s x t ho base e i (.int .u8 0) 1 1 ht hi hz hz1 hz2 rfl (by decide) _ n _ hs hown.row ad m c (k.map bv) hx (by simp [hb.len]) (hb.cells ad rfl) (bv_one k) (by unfold maxLen; omega) (by omega) hbase ?_
    intro v' w' hown' hgrow _
    rw [← List.map_append] at hown'
    obtain ⟨ao', cap', rfl, h1⟩ := Ow.of (l := l ++ k) (by simp [hown.len, hb.len]) hown'
    exact h ao' cap' w' h1 (by rw [blk_own] at hgrow; exact hgrow)
end

/-- The number that eight bytes say, the first one the greatest. -/
def says8 (F : Nat → Nat) : Nat := F 7 + 256 * (F 6 + 256 * (F 5 + 256 * (F 4 + 256 * (F 3 + 256 * (F 2 + 256 * (F 1 + 256 * F 0))))))
theorem says8_lt {F : Nat → Nat} (h : ∀ i, i < 8 → F i < 256) : says8 F < 18446744073709551616 := by
  have h0 := h 0 (by omega)
  have h1 := h 1 (by omega)
  have h2 := h 2 (by omega)
  have h3 := h 3 (by omega)
  have h4 := h 4 (by omega)
  have h5 := h 5 (by omega)
  have h6 := h 6 (by omega)
  have h7 := h 7 (by omega)
  unfold says8
  omega
theorem says8_at {F : Nat → Nat} (h : ∀ i, i < 8 → F i < 256) : ∀ i, i < 8 → nth (kyl (says8 F)) i = F i := by
  intro i hi
  rw [kyl_nth _ i hi]
  have h0 := h 0 (by omega)
  have h1 := h 1 (by omega)
  have h2 := h 2 (by omega)
  have h3 := h 3 (by omega)
  have h4 := h 4 (by omega)
  have h5 := h 5 (by omega)
  have h6 := h 6 (by omega)
  have h7 := h 7 (by omega)
  unfold says8
  match i, hi with
  | 0, _ => omega
  | 1, _ => omega
  | 2, _ => omega
  | 3, _ => omega
  | 4, _ => omega
  | 5, _ => omega
  | 6, _ => omega
  | 7, _ => omega
theorem tab_says {F : Nat → Nat} (h : ∀ i, i < 8 → F i < 256) : tab F 8 = tab (nth (kyl (says8 F))) 8 := by
  unfold tab
  congr 1
  apply List.map_congr_left
  intro i hi
  rw [says8_at h i (List.mem_range.1 hi)]
theorem rof_unp (p : Nat) : rofB p = unp p := by
  unfold rofB unp
  split <;> rfl
/-- Where the key is a float's, the document says that float too. -/
theorem of_both {p : Nat} (hp : p < 18446744073709551616) : rofV p < 18446744073709551616 ∧ (plc (unp p) = p → rofE p = 0 ∧ plc (rofV p) = plc (unp p)) ∧ (¬ plc (unp p) = p → rofE p = 130 ∧ rofV p = 0) := by
  have hb := unp_lt hp
  unfold rofE rofV
  rw [rof_unp]
  by_cases h1 : p = 18446744073709551615
  · rw [if_pos h1, if_pos h1]
    have hn : isN 9221120237041090561 = true := by decide
    have hu : plc (unp p) = p := by
      have e : unp p = 9223372036854775807 := by unfold unp; rw [if_pos (by omega)]; omega
      rw [e, plc_nan ((isN_eq _).2 (by omega)), h1]
    refine ⟨by omega, fun _ => ⟨rfl, ?_⟩, fun h => absurd hu h⟩
    rw [plc_nan hn, hu, h1]
  · rw [if_neg h1, if_neg h1]
    cases hn : isN (unp p) with
    | true =>
      refine ⟨by simp, fun h => ?_, fun _ => ⟨rfl, rfl⟩⟩
      rw [plc_nan hn] at h
      exact absurd h.symm h1
    | false =>
      have hu : plc (unp p) = p := by
        unfold plc
        rw [if_neg (by simp [hn])]
        unfold unp at hb ⊢
        split
        · split <;> omega
        · split <;> omega
      refine ⟨by simpa using hb, fun _ => ⟨rfl, rfl⟩, fun h => absurd hu h⟩
end Go.Proofs.YtmjcjcpifahpaaaDoor
