/-
  slices.Clone of spots; All; Copy.
-/
import Derived.Test.YtbnoemfhcpjdjaaDoorC3
namespace Go.Proofs.YtbnoemfhcpjdjaaDoor
open Go.RowKit Go.Shelf
set_option linter.unusedVariables false

theorem Sw.src {w : World} {base : Nat} {ad : Addr} {n cap : Nat} {l : List Sd} (h : Sw w base (some ad) n cap l) : ∀ j u, (tcells l)[j]? = some u → w.cell? (ad.add j) = some u := by
  intro j u hu
  rcases h.row.2 with ⟨hv, _⟩ | ⟨g, c, cur, hv, _⟩
  · cases hv
  · cases hv
    exact h.row.cells (g := g) rfl j u hu
theorem Sw.new (w : World) : Sw (w.alloc (.cells #[] 33)) w.heap.size (some ⟨w.heap.size, 0, none⟩) 0 0 [] :=
  ⟨rfl, World.ownsRow_made w #[] 0 (Nat.le_refl _) (by decide) rfl⟩
theorem Sw.rebase {w : World} {base base' : Nat} {ao : Option Addr} {n cap : Nat} {l : List Sd} (h : Sw w base ao n cap l) (hb : base' ≤ base) : Sw w base' ao n cap l := by
  refine ⟨h.len, h.row.1, ?_⟩
  rcases h.row.2 with h2 | ⟨g, c, cur, hv, hg, r⟩
  · exact Or.inl h2
  · exact Or.inr ⟨g, c, cur, hv, Nat.le_trans hb hg, r⟩

theorem tcells_append (l k : List Sd) : tcells (l ++ k) = tcells l ++ tcells k := by simp [tcells]
theorem wpList_append_sds {w : World} {ops : Array Oper} {rest : List Oper} {o : Oper} {a : Act} {Q : Exit → Act → World → Prop} (hgd : o.guard = none) (s x : Operand)
    (ho : o.op = .call { callee := .builtin .append, args := #[s, x], argTypes := #[29, 29] })
    (base : Nat) {ao : Option Addr} {n cap : Nat} {l : List Sd} (hs : a.eval s = .slice ao n cap) (hown : Sw w base ao n cap l)
    {ad : Addr} {m c : Nat} {k : List Sd} {b2 : Nat} (hx : a.eval x = .slice (some ad) m c) (hb : Sw w b2 (some ad) m c k)
    (hsum : n + m ≤ 100000) (hbase : base ≤ w.heap.size)
    (h : ∀ ao' cap' w', Sw w' base ao' (n + m) cap' (l ++ k) → w.grownBy w' (blk ao) → wpList Tryd.prog ops Q rest (a.put o.dst (.slice ao' (n + m) cap')) w') : wpList Tryd.prog ops Q (o :: rest) a w := by
  obtain ⟨i, hi, hz, hzs, hz2⟩ := info_parts info33
  have hlen := hb.len
  refine wpList_append_own w hgd s x 29 ho base 33 i _ 2 16 Tryd.underlying29 hi hz hzs hz2 rfl (by decide) _ n _ hs hown.row ad m c (tcells k) hx (by rw [tcells_len, hlen]) hb.src (tcells_one k) (by unfold maxLen; omega) (by omega) hbase ?_
  intro v' w' hown' hgrow hnil
  rw [← tcells_append] at hown'
  have hll : (l ++ k).length = n + m := by simp [hown.len, hlen]
  rcases hown'.2 with ⟨hv, h0⟩ | ⟨g, c', cur, hv, _⟩
  · subst hv
    have := h none 0 w' ⟨hll, by rw [h0] at hown' ⊢; exact hown'⟩ (by rw [blk_own] at hgrow; exact hgrow)
    rw [h0] at this
    exact this
  · subst hv
    exact h _ _ w' ⟨hll, hown'⟩ (by rw [blk_own] at hgrow; exact hgrow)

section
variable {w w' : World} {base b : Nat} {st : Int} {l : List Sd}
set_option maxRecDepth 100000 in
theorem clone_any (ro : Option Addr) (n rc : Nat) (hs : Sw w base ro n rc l) (hn : n ≤ 100000) : Calls Tryd.prog 34 #[.slice ro n rc] w fun e w' => ∃ ro' rc', e = .returned (.slice ro' n rc') ∧ Sw w' w.heap.size ro' n rc' l ∧ w.grownBy w' none := by
  have q29 : ∀ (w : World) (a : Option Addr) (n c n' c' : Nat), (binOp .eql 29 (.slice a n c) (.slice none n' c')).run Tryd.prog w = .ok (.bool a.isNone) w := fun w a n c n' c' => Lib.run_eql_slice_nil w _ _ a n c n' c' Tryd.underlying29
  cases ro with
  | none =>
    have hl := hs.len
    obtain ⟨rfl, rfl⟩ : n = 0 ∧ rc = 0 := by
      rcases hs.row.2 with ⟨hv, h0⟩ | ⟨g, c, cur, hv, _⟩
      · cases hv; exact ⟨rfl, rfl⟩
      · cases hv
    obtain rfl : l = [] := List.eq_nil_of_length_eq_zero hl
    go_enter Tryd.func34, Tryd.ntmps34
    go_wp2
    go_ret
    exact ⟨none, 0, rfl, Sw.nil _ _, grown_refl _ _⟩
  | some a =>
    have hg0 := alloc_grown w (.cells #[] 33)
    have ho0 := Sw.new w
    have hb0 := hs.chg (Chg.of_grown hg0 (fun _ => False)) (fun _ _ e => e)
    go_enter Tryd.func34, Tryd.ntmps34
    go_wp2_with (at_builtin; (refine wpList_append_sds rfl _ _ rfl w.heap.size rfl ho0 rfl hb0 (by omega) (by simp) ?_))
    intro ao' cap' w2 ho2 hg2
    clear ho0 hb0
    have hG := grown_trans hg0 hg2 (fun k hk => Or.inr (by simp [blk] at hk; omega))
    clear hg0 hg2
    go_wp2
    go_ret
    exact ⟨ao', cap', by simp, by simpa using ho2, hG⟩

set_option maxRecDepth 100000 in
set_option maxHeartbeats 1000000 in
theorem all_any (h : Xd w base b st l) (h1 : 1 ≤ st) : Calls Tryd.prog 25 #[.pointer (some ⟨b, 0, none⟩)] w fun e w' => ∃ ro' rc', e = .returned (.func (.func 43) #[] #[.pointer (some ⟨w.heap.size, 0, none⟩)]) ∧ Boxed w' w.heap.size 29 (.slice ro' l.length rc') ∧ Sw w' w.heap.size ro' l.length rc' l ∧ w.grownBy w' none := by
  have hmf := hmf
  have hbx := Boxed.new w 29 (.slice none 0 0)
  have hg := alloc_grown w (.cells #[.slice none 0 0] 29)
  obtain ⟨⟨ro, rc, hi, hr⟩, _, hf⟩ := h.grown hg
  have c1 := hi.c1
  have hma := made_yes hi.c0 h1
  have hcl := clone_any ro l.length rc hr hf
  go_enter Tryd.func25, Tryd.ntmps25
  go_wp2_with fail
  have hs1 : (w.alloc (.cells #[.slice none 0 0] 29)).heap.size = w.heap.size + 1 := by simp
  generalize w.alloc (.cells #[.slice none 0 0] 29) = w1 at *
  refine hma.mono ?_
  rintro e w1 ⟨rfl, rfl⟩
  go_wp2_with fail
  refine hcl.mono ?_
  rintro e w2 ⟨ro', rc', rfl, hs2, hg2⟩
  have hb2 := box_own hbx hg2 (fun r e => by cases e)
  have k0 := hb2.cell
  have f0 := hb2.frozen
  have hG2 := grown_trans hg hg2 (by simp)
  have hb3 := hb2.set (.slice ro' l.length rc')
  have hc3 := setCell_chg w2 w.heap.size 0 (.slice ro' l.length rc')
  have hs3 : Sw (w2.setCell ⟨w.heap.size, 0, none⟩ (.slice ro' l.length rc')) w.heap.size ro' l.length rc' l := (hs2.rebase (by omega)).chg hc3 (fun k hk e => by have := (hs2.from_base k hk).1; omega)
  have hg3 : w.grownBy _ none := ((Chg.of_grown hG2 _).trans hc3).grown (fun k hk e => by omega)
  clear hma hcl hi hr hs2 hb2 hbx
  go_wp2
  go_ret
  exact ⟨ro', rc', rfl, hb3, hs3, hg3⟩
end
end Go.Proofs.YtbnoemfhcpjdjaaDoor
