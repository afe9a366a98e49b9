/-
  The readers that were put aside: their row, and the row of where they stood.
-/
import Derived.Test.YtocicepnlepfeaaR7
import Derived.Maps.AppendAt
namespace Go.Proofs.Ytocicepnlepfeaa
open Go.RowKit
set_option linter.unusedVariables false

theorem Try.info51 : (Try.prog.info? 51).map (fun i => (i.zero, i.size, i.bytes)) = some (some (.pointer none), 1, 8) := by kernel_rfl
theorem Try.info3 : (Try.prog.info? 3).map (fun i => (i.zero, i.size, i.bytes)) = some (some (.int .i64 0), 1, 8) := by kernel_rfl

/-- The call's own row of values of one cell. -/
structure Vr (w : World) (base : Nat) (e : TypeId) (ao : Option Addr) (n cap : Nat) (vs : List Value) : Prop where
  len : vs.length = n
  row : w.ownsRow base e 1 (.slice ao n cap) n vs

theorem Vr.nil (w : World) (base : Nat) (e : TypeId) : Vr w base e none 0 0 [] := ⟨rfl, World.ownsRow_nil w base e 1⟩
theorem Vr.kept {w w' : World} {base : Nat} {e : TypeId} {ao : Option Addr} {n cap : Nat} {vs : List Value} {row : Option Nat} (h : Vr w base e ao n cap vs) (hg : w.grownBy w' row) (hne : blk ao = none ∨ blk ao ≠ row) : Vr w' base e ao n cap vs :=
  ⟨h.len, h.row.kept hg (by rw [blk_own]; exact hne)⟩
theorem Vr.grown {w w' : World} {base : Nat} {e : TypeId} {ao : Option Addr} {n cap : Nat} {vs : List Value} (h : Vr w base e ao n cap vs) (hg : w.grownBy w' none) : Vr w' base e ao n cap vs :=
  h.kept hg (by cases ao <;> simp [blk])
theorem Vr.from_base {w : World} {base : Nat} {e : TypeId} {ao : Option Addr} {n cap : Nat} {vs : List Value} (h : Vr w base e ao n cap vs) : ∀ k, blk ao = some k → base ≤ k ∧ k < w.heap.size := by
  intro k hk
  exact h.row.lt k (by rw [blk_own]; exact hk)
theorem Vr.of {w : World} {base : Nat} {e : TypeId} {v : Value} {n : Nat} {vs : List Value} (hl : vs.length = n) (h : w.ownsRow base e 1 v n vs) : ∃ ao cap, v = .slice ao n cap ∧ Vr w base e ao n cap vs := by
  rcases h.2 with ⟨rfl, rfl⟩ | ⟨g, c, cur, rfl, _⟩
  · exact ⟨none, 0, rfl, hl, h⟩
  · exact ⟨_, _, rfl, hl, h⟩
theorem Vr.addr {w : World} {base : Nat} {e : TypeId} {ao : Option Addr} {n cap : Nat} {us : List Value} (h : Vr w base e ao n cap us) (hn : 0 < n) : ∃ g, ao = some ⟨g, 0, none⟩ ∧ base ≤ g ∧ g < w.heap.size := by
  rcases h.row.2 with ⟨_, h0⟩ | ⟨g, c, cur, hv, hg, hh, _⟩
  · omega
  · simp only [Value.slice.injEq] at hv
    exact ⟨g, hv.1, hg, (Array.getElem?_eq_some_iff.1 hh).1⟩
theorem Vr.cell {w : World} {base : Nat} {e : TypeId} {g n cap : Nat} {us : List Value} {u : Value} (h : Vr w base e (some ⟨g, 0, none⟩) n cap us) {j : Nat} (hj : us[j]? = some u) : w.cell? ⟨g, j, none⟩ = some u := by
  have := h.row.cells (g := g) rfl j u hj
  rw [Addr.add_lit, Nat.zero_add] at this
  exact this

section
variable {P : Program} (w : World)
/-- 'append(s, v)', where v lies in a block of its own. -/
theorem wpList_append_vr {ops : Array Oper} {rest : List Oper} {o : Oper} {a : Act} {Q : Exit → Act → World → Prop} (hgd : o.guard = none) (s x : Operand) (t : TypeId)
    (ho : o.op = .call { callee := .builtin .append, args := #[s, x], argTypes := #[t, t] })
    (base : Nat) (e : TypeId) (z : Value) (ht : P.underlying t = some (.slice e)) (hinfo : (P.info? e).map (fun i => (i.zero, i.size, i.bytes)) = some (some z, 1, 8)) (hzs : z.cells.size = 1)
    {ao : Option Addr} {n cap : Nat} {vs : List Value} (hs : a.eval s = .slice ao n cap) (hown : Vr w base e ao n cap vs)
    {g : Nat} (v : Value) (hx : a.eval x = .slice (some ⟨g, 0, none⟩) 1 1) (hc : w.cell? ⟨g, 0, none⟩ = some v) (hv1 : v.oneCell' = true)
    (hsum : n ≤ 4294967296) (hbase : base ≤ w.heap.size)
    (h : ∀ ao' cap' w', Vr w' base e ao' (n + 1) cap' (vs ++ [v]) → w.grownBy w' (blk ao) → (blk ao' = blk ao ∨ blk ao' = some w.heap.size) → wpList P ops Q rest (a.put o.dst (.slice ao' (n + 1) cap')) w') : wpList P ops Q (o :: rest) a w := by
  obtain ⟨i, hi, hz, hz1, hz2⟩ := info_parts hinfo
  refine wpList_append_own_at w hgd s x t ho base e i z 1 8 ht hi hz hz1 hz2 hzs (by decide) _ n _ hs hown.row ⟨g, 0, none⟩ 1 1 [v] hx rfl ?_ ?_ (by unfold maxLen; omega) (by omega) hbase ?_
  · intro j u hu
    match j, hu with
    | 0, hu => simp at hu; subst hu; rw [Addr.add_lit]; exact hc
  · intro u hu
    simp at hu; subst hu; exact hv1
  · intro v' w' hown' hgrow _ hat
    obtain ⟨ao', cap', rfl, h1⟩ := Vr.of (vs := vs ++ [v]) (by simp [hown.len]) hown'
    exact h ao' cap' w' h1 (by rw [blk_own] at hgrow; exact hgrow) (by rw [blk_own, blk_own] at hat; exact hat)
end

/-- A reader that was put aside. -/
structure OldR where
  b : Nat
  g : Nat
  o : Nat
  cp : Nat
  at' : Nat

/-- All that the main loop holds. -/
structure Main (w wr : World) (b g o cp rb : Nat) (ao : Option Addr) (n cap : Nat) (L : List UInt8) (at' : Nat) (oo : Option Addr) (oc : Nat) (wo : Option Addr) (wc m : Nat) (os : List OldR) : Prop where
  both : Both wr b g o cp rb ao n cap L at'
  old : Vr wr w.heap.size 51 oo m oc (os.map fun t => .pointer (some ⟨t.b, 0, none⟩))
  was : Vr wr w.heap.size 3 wo m wc (os.map fun t => .int .i64 t.at')
  each : ∀ t ∈ os, Rd wr t.b t.g t.o (n - t.at') t.cp (L.drop t.at') t.at' ∧ t.at' ≤ n ∧ t.b ≠ b ∧ t.g ≠ b ∧ t.b ≠ rb ∧ t.g ≠ rb
  apo : ∀ x, blk oo = some x → x ≠ b ∧ x ≠ g ∧ x ≠ rb ∧ (∀ t ∈ os, x ≠ t.b ∧ x ≠ t.g) ∧ blk wo ≠ some x
  apw : ∀ x, blk wo = some x → x ≠ b ∧ x ≠ g ∧ x ≠ rb ∧ ∀ t ∈ os, x ≠ t.b ∧ x ≠ t.g
  bge : w.heap.size ≤ b
  rge : w.heap.size ≤ rb
  abl : ∀ a, ao = some a → a.block < w.heap.size
  gr : w.grownBy wr none

section
variable {w wr : World} {b g o cp rb : Nat} {ao : Option Addr} {n cap : Nat} {L : List UInt8} {at' : Nat} {oo : Option Addr} {oc : Nat} {wo : Option Addr} {wc m : Nat} {os : List OldR}

theorem Main.grown {w' : World} (h : Main w wr b g o cp rb ao n cap L at' oo oc wo wc m os) (hg : wr.grownBy w' none) : Main w w' b g o cp rb ao n cap L at' oo oc wo wc m os :=
  ⟨h.both.grown hg, h.old.grown hg, h.was.grown hg, fun t ht => ⟨(h.each t ht).1.grown hg, (h.each t ht).2⟩, h.apo, h.apw, h.bge, h.rge, h.abl, grown_trans h.gr hg (by simp)⟩

theorem Gs.grownBy2 {w w' : World} {b rb : Nat} (h : Gs (Two b rb) w w') : ∃ wm : World, w.grownBy wm (some b) ∧ wm.grownBy w' (some rb) := by
  refine ⟨{ w' with heap := w'.heap.setIfInBounds rb (w.heap[rb]?.getD (w'.heap[rb]?.getD default)) }, ?_, ?_⟩
  · refine ⟨h.os, h.tape, h.output, by simpa using h.size, fun k hk hne => ?_⟩
    by_cases e : k = rb
    · subst e
      have : k < w'.heap.size := Nat.lt_of_lt_of_le hk h.size
      simp [hk, this]
    · simp only [Array.getElem?_setIfInBounds, if_neg (show ¬ rb = k from fun e1 => e e1.symm)]
      exact h.block k hk (fun hs => by rcases hs with hs | hs; exact hne (by rw [hs]); exact e hs)
  · refine ⟨rfl, rfl, rfl, by simp, fun k hk hne => ?_⟩
    simp only [Array.getElem?_setIfInBounds, if_neg (show ¬ rb = k from fun e1 => hne (by rw [e1]))]

/-- Both readers went on. -/
theorem Main.asked {w' : World} {o' cp' at2 : Nat} (h : Main w wr b g o cp rb ao n cap L at' oo oc wo wc m os) (hb : Both w' b g o' cp' rb ao n cap L at2) (hg : Gs (Two b rb) wr w') : Main w w' b g o' cp' rb ao n cap L at2 oo oc wo wc m os := by
  obtain ⟨wm, h1, h2⟩ := hg.grownBy2
  refine ⟨hb, (h.old.kept h1 ?_).kept h2 ?_, (h.was.kept h1 ?_).kept h2 ?_, fun t ht => ?_, h.apo, h.apw, h.bge, h.rge, h.abl, grown_trans (grown_trans h.gr h1 ?_) h2 ?_⟩
  · exact Or.inr (fun e => (h.apo b e).1 rfl)
  · exact Or.inr (fun e => (h.apo rb e).2.2.1 rfl)
  · exact Or.inr (fun e => (h.apw b e).1 rfl)
  · exact Or.inr (fun e => (h.apw rb e).2.2.1 rfl)
  · obtain ⟨hr, hle, e1, e2, e3, e4⟩ := h.each t ht
    exact ⟨(hr.kept h1 (by simpa using e1) (by simpa using e2)).kept h2 (by simpa using e3) (by simpa using e4), hle, e1, e2, e3, e4⟩
  · exact fun k hk => Or.inr (by cases hk; exact h.bge)
  · exact fun k hk => Or.inr (by cases hk; exact h.rge)

/-- The one is put aside, and goes on as its copy. -/
theorem Main.push {w1 w2 w3 w4 w5 : World} {oo' : Option Addr} {oc' : Nat} {wo' : Option Addr} {wc' b2 g2 : Nat} (h : Main w wr b g o cp rb ao n cap L at' oo oc wo wc m os)
    (hg1 : wr.grownBy w1 none) (ho2 : Vr w2 w.heap.size 51 oo' (m + 1) oc' ((os.map fun t => .pointer (some ⟨t.b, 0, none⟩)) ++ [.pointer (some ⟨b, 0, none⟩)])) (hg2 : w1.grownBy w2 (blk oo)) (hb2 : blk oo' = blk oo ∨ blk oo' = some w1.heap.size)
    (hg3 : w2.grownBy w3 none) (ho4 : Vr w4 w.heap.size 3 wo' (m + 1) wc' ((os.map fun t => .int .i64 t.at') ++ [.int .i64 at'])) (hg4 : w3.grownBy w4 (blk wo)) (hb4 : blk wo' = blk wo ∨ blk wo' = some w3.heap.size)
    (hr5 : Rd w5 b2 g2 0 (n - at') (n - at') (L.drop at') at') (hb5 : w4.heap.size ≤ b2) (hg5' : w4.heap.size ≤ g2) (hg5 : w4.grownBy w5 none) :
    Main w w5 b2 g2 0 (n - at') rb ao n cap L at' oo' oc' wo' wc' (m + 1) (os ++ [⟨b, g, o, cp, at'⟩]) := by
  have hs1 := hg1.size
  have hs2 := hg2.size
  have hs3 := hg3.size
  have hs4 := hg4.size
  have hs0 := h.gr.size
  have hbl := h.both.rd.lt
  have hgl := h.both.rd.gl
  have hrl := h.both.rf.lt
  have hob : ∀ x, blk oo = some x → w.heap.size ≤ x ∧ x < wr.heap.size := h.old.from_base
  have hwb : ∀ x, blk wo = some x → w.heap.size ≤ x ∧ x < wr.heap.size := h.was.from_base
  have ho2b : ∀ x, blk oo' = some x → w.heap.size ≤ x ∧ x < w2.heap.size := ho2.from_base
  have ho4b : ∀ x, blk wo' = some x → w.heap.size ≤ x ∧ x < w4.heap.size := ho4.from_base
  have hbne : ∀ x, blk oo = some x → x ≠ b := fun x e => (h.apo x e).1
  have keepR : ∀ (bb gg oo2 nn cc : Nat) (ll : List UInt8) (aa : Nat), Rd wr bb gg oo2 nn cc ll aa → (∀ x, blk oo = some x → x ≠ bb ∧ x ≠ gg) → (∀ x, blk wo = some x → x ≠ bb ∧ x ≠ gg) → Rd w5 bb gg oo2 nn cc ll aa := by
    intro bb gg oo2 nn cc ll aa hr e1 e2
    exact ((((hr.grown hg1).kept hg2 (fun e => (e1 bb e.symm).1 rfl) (fun e => (e1 gg e.symm).2 rfl)).grown hg3).kept hg4 (fun e => (e2 bb e.symm).1 rfl) (fun e => (e2 gg e.symm).2 rfl)).grown hg5
  have hold : Rd w5 b g o (n - at') cp (L.drop at') at' := keepR _ _ _ _ _ _ _ h.both.rd (fun x e => ⟨(h.apo x e).1, (h.apo x e).2.1⟩) (fun x e => ⟨(h.apw x e).1, (h.apw x e).2.1⟩)
  have hrf : Rf w5 rb ao n cap L at' :=
    ((((h.both.rf.grown hg1).kept hg2 (fun e => (h.apo rb e.symm).2.2.1 rfl) (fun a ha e => by have := h.abl a ha; have := hob _ e.symm; omega)).grown hg3).kept hg4 (fun e => (h.apw rb e.symm).2.2.1 rfl) (fun a ha e => by have := h.abl a ha; have := hwb _ e.symm; omega)).grown hg5
  have holdlt : ∀ t ∈ os, t.b < wr.heap.size ∧ t.g < wr.heap.size := fun t ht => ⟨(h.each t ht).1.lt, (h.each t ht).1.gl⟩
  refine ⟨⟨hr5, hrf, by omega, fun a ha => by have := h.abl a ha; omega, by omega⟩, ?_, ?_, ?_, ?_, ?_, by omega, h.rge, h.abl, ?_⟩
  · have : Vr w5 w.heap.size 51 oo' (m + 1) oc' _ := ((ho2.grown hg3).kept hg4 (by
      by_cases e : blk oo' = none
      · exact Or.inl e
      · refine Or.inr (fun e2 => ?_)
        rcases hb2 with e3 | e3
        · cases hx : blk oo with
          | none => rw [e3, hx] at e; exact e rfl
          | some x => exact (h.apo x hx).2.2.2.2 (by rw [← e2, e3, hx])
        · rw [e3] at e2; have := hwb _ e2.symm; omega)).grown hg5
    simpa using this
  · have : Vr w5 w.heap.size 3 wo' (m + 1) wc' _ := ho4.grown hg5
    simpa using this
  · intro t ht
    rcases List.mem_append.1 ht with ht | ht
    · obtain ⟨hr, hle, e1, e2, e3, e4⟩ := h.each t ht
      have hl := holdlt t ht
      exact ⟨keepR _ _ _ _ _ _ _ hr (fun x e => (h.apo x e).2.2.2.1 t ht) (fun x e => (h.apw x e).2.2.2 t ht), hle, by omega, by omega, e3, e4⟩
    · obtain rfl := List.mem_singleton.1 ht
      exact ⟨hold, h.both.rf.le, by simp only; omega, by simp only; omega, h.both.ne, h.both.gr⟩
  · intro x hx
    have hxb := ho2b x hx
    have hnew : x ≠ b2 ∧ x ≠ g2 := ⟨by omega, by omega⟩
    have hwo : blk wo' ≠ some x := by
      intro e
      rcases hb4 with e4 | e4
      · rw [e4] at e
        have h6 := hwb x e
        rcases hb2 with e3 | e3
        · exact (h.apo x (by rw [← e3]; exact hx)).2.2.2.2 e
        · rw [e3] at hx; cases hx; omega
      · rw [e4] at e; cases e; omega
    rcases hb2 with e3 | e3
    · rw [e3] at hx
      obtain ⟨a1, a2, a3, a4, a5⟩ := h.apo x hx
      refine ⟨hnew.1, hnew.2, a3, fun t ht => ?_, hwo⟩
      rcases List.mem_append.1 ht with ht | ht
      · exact a4 t ht
      · obtain rfl := List.mem_singleton.1 ht; exact ⟨a1, a2⟩
    · rw [e3] at hx
      cases hx
      refine ⟨hnew.1, hnew.2, by omega, fun t ht => ?_, hwo⟩
      rcases List.mem_append.1 ht with ht | ht
      · have := holdlt t ht; omega
      · obtain rfl := List.mem_singleton.1 ht; simp only; omega
  · intro x hx
    have hxb := ho4b x hx
    rcases hb4 with e3 | e3
    · rw [e3] at hx
      obtain ⟨a1, a2, a3, a4⟩ := h.apw x hx
      refine ⟨by omega, by omega, a3, fun t ht => ?_⟩
      rcases List.mem_append.1 ht with ht | ht
      · exact a4 t ht
      · obtain rfl := List.mem_singleton.1 ht; exact ⟨a1, a2⟩
    · rw [e3] at hx
      cases hx
      refine ⟨by omega, by omega, by omega, fun t ht => ?_⟩
      rcases List.mem_append.1 ht with ht | ht
      · have := holdlt t ht; omega
      · obtain rfl := List.mem_singleton.1 ht; simp only; omega
  · exact grown_trans (grown_trans (grown_trans (grown_trans (grown_trans h.gr hg1 (by simp)) hg2 (fun k hk => Or.inr (hob k hk).1)) hg3 (by simp)) hg4 (fun k hk => Or.inr (hwb k hk).1)) hg5 (by simp)
end

end Go.Proofs.Ytocicepnlepfeaa
