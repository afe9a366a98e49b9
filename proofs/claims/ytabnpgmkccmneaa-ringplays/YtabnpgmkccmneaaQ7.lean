/-
  ask: Put; its region 4 (what is handed over, with one more behind it), whatever the order.
-/
import Derived.Test.YtabnpgmkccmneaaQ6
namespace Go.Proofs.Ytabnpgmkccmneaa
open Go.RowKit Go.Shelf
set_option linter.unusedVariables false

theorem run_slice_hi {xo : Option Addr} (hx : Plain xo) (n p cap : Nat) (hp : p ≤ cap) (w : World) : (Instr.sliceAt 30 (.slice xo n cap) none (some (.int .i64 (p : Int))) none).run Try.prog w = .ok (.slice xo p cap) w := by
  have he : Try.prog.elem 30 = 3 := by simp [Program.elem, Try.underlying30]
  have hr := run_slice_h (P := Try.prog) w 30 xo n cap (by rw [he]; exact Try.underlying30) .i64 (p : Int) (by omega) (by omega)
  rw [he, sizeOf_one w Ri.size1, Result.andThen_ok, Int.toNat_natCast, sliced_zero hx] at hr
  rw [run_sliceAt_slice (P := Try.prog) w 30 (.slice xo n cap) none (some (.int .i64 (p : Int))) none (by rw [he]; exact Try.underlying30)]
  exact hr

/-- 'append(s, x...)' as one operation. -/
theorem wp_append_vs (w : World) {o : Oper} {a : Act} {K : Act → World → Prop} {Q : Exit → Act → World → Prop} (s x : Operand)
    (ho : o.op = .call { callee := .builtin .append, args := #[s, x], argTypes := #[30, 30] })
    (base : Nat) {ao : Option Addr} {n cap : Nat} {l : List Value} (hs : a.eval s = .slice ao n cap) (hown : Vo w base 3 ao n cap l)
    {xo : Option Addr} {m c : Nat} {k : List Value} (hx : a.eval x = .slice xo m c) (hb : Vs w xo m c k)
    (hsum : n + m ≤ 100000) (hbase : base ≤ w.heap.size)
    (h : ∀ ao' cap' w', Vo w' base 3 ao' (n + m) cap' (l ++ k) → w.grownBy w' (blk ao) → K (a.put o.dst (.slice ao' (n + m) cap')) w') : o.wp Try.prog a w K Q := by
  obtain ⟨i, hi, hz, hzs, hz2⟩ := info_parts Ri.info
  have hone : ∀ u ∈ l ++ k, u.oneCell' = true := fun u hu => by
    rcases List.mem_append.1 hu with h9 | h9
    · exact hown.one u h9
    · exact hb.one u h9
  cases xo with
  | none =>
    obtain rfl := hb.nil rfl
    obtain rfl : m = 0 := Nat.le_zero.1 hb.room
    obtain rfl : k = [] := List.eq_nil_of_length_eq_zero hb.len
    have hrun := run_append_owned_none (P := Try.prog) (w := w) base 30 o.type 3 i 1 Try.underlying30 hi (.slice ao n cap) n l hown.row
    have := h ao cap w (by simpa using hown) (grown_refl _ _)
    unfold Oper.wp
    simp [execOp, ho, resolve, invoke, builtin, hs, hx, hrun, Result.andThen]
    show K (a.put o.dst (.slice ao n cap)) w
    simpa using this
  | some ad =>
    refine wp_append_own w s x 30 ho base 3 i (.int .i64 0) 1 8 Try.underlying30 hi hz hzs hz2 rfl (by decide) _ n _ hs hown.row ad m c k hx (by simp [hb.len]) (hb.cells ad rfl) hb.one (by unfold maxLen; omega) (by omega) hbase ?_
    intro v' w' hown' hgrow _
    obtain ⟨ao', cap', rfl, h1⟩ := Vo.of (l := l ++ k) (by simp [hown.len, hb.len]) hone hown'
    exact h ao' cap' w' h1 (by rw [blk_own] at hgrow; exact hgrow)

def slA (i : Nat) : Option Nat := if i < 10 then some (30 + i) else if i = 10 then some 7 else none
theorem slA_lt {i s : Nat} (h : slA i = some s) : i < 11 ∧ ((i < 10 ∧ s = 30 + i) ∨ (i = 10 ∧ s = 7)) := by
  unfold slA at h
  split at h
  · cases h; omega
  · split at h
    · cases h; omega
    · cases h
theorem slA_inj (i j s : Nat) (hi : slA i = some s) (hj : slA j = some s) : i = j := by
  have h1 := slA_lt hi
  have h2 := slA_lt hj
  omega
def valsA (ab : Nat) (xo : Option Addr) (m cx : Nat) : Nat → Option Value
  | 1 | 6 => some (.pointer (some ⟨ab, 3, none⟩)) | 2 | 7 => some (.slice xo m cx) | 8 => some (.int .i64 m) | _ => none

structure JP (A : Array Value) (w0 : World) (ab : Nat) (xo : Option Addr) (m cx : Nat) (zs : List Value) (l : Array Bool) (a : Act) (w : World) : Prop where
  fr : Fr A [7, 30, 31, 32, 33, 34, 35, 36, 37, 38, 39] 11 l a
  tv : Tv slA (valsA ab xo m cx) l a
  gr : w0.grownBy w none
  p0 : l.getD 0 false = true → l.getD 3 false = false → ∃ g, a.tmps[30]? = some (.slice (some ⟨g, 0, none⟩) 0 0) ∧ Vo w w0.heap.size 3 (some ⟨g, 0, none⟩) 0 0 []
  p3 : l.getD 3 false = true → l.getD 5 false = false → ∃ ao cap, a.tmps[33]? = some (.slice ao m cap) ∧ Vo w w0.heap.size 3 ao m cap zs
  p4 : l.getD 4 false = true → l.getD 5 false = false → ∃ o, a.tmps[34]? = some (.slice (some ⟨o, 0, none⟩) 1 1) ∧ Ro w o 3 [.int .i64 77] ∧ w0.heap.size ≤ o
  p5 : l.getD 5 false = true → ∃ ao cap, a.tmps[35]? = some (.slice ao (m + 1) cap) ∧ Vo w w0.heap.size 3 ao (m + 1) cap (zs ++ [.int .i64 77])
  p9 : l.getD 9 false = true → ∃ ao cap, a.tmps[35]? = some (.slice ao (m + 1) cap) ∧ a.tmps[39]? = some (.slice ao m cap)
  p10 : l.getD 10 false = true → ∃ ao cap, a.tmps[35]? = some (.slice ao (m + 1) cap) ∧ a.tmps[7]? = some (.slice ao m cap)
  st : Sto [(3, 0), (5, 3), (9, 5), (10, 5)] l

section
variable {A : Array Value} {w0 : World} {ab : Nat} {xo : Option Addr} {m cx : Nat} {zs : List Value} {l : Array Bool} {a : Act} {w w' : World}
theorem JP.step (hA : A.size = 238) (h : JP A w0 ab xo m cx zs l a w) (i s : Nat) (hi : i < 11) (h3i : i ≠ 3 ∧ i ≠ 5) (hs : slA i = some s) (hg : w.grownBy w' none) (u : Value) (hu : ∀ v, valsA ab xo m cx i = some v → u = v)
    (g0 : Hid (i = 0 → ∃ g, u = .slice (some ⟨g, 0, none⟩) 0 0 ∧ Vo w' w0.heap.size 3 (some ⟨g, 0, none⟩) 0 0 []))
    (g4 : Hid (i = 4 → ∃ o, u = .slice (some ⟨o, 0, none⟩) 1 1 ∧ Ro w' o 3 [.int .i64 77] ∧ w.heap.size ≤ o))
    (g9 : Hid (i = 9 → l.getD 5 false = true ∧ ∀ ao cap, a.tmps[35]? = some (.slice ao (m + 1) cap) → u = .slice ao m cap))
    (g10 : Hid (i = 10 → l.getD 5 false = true ∧ ∀ ao cap, a.tmps[35]? = some (.slice ao (m + 1) cap) → u = .slice ao m cap)) : JP A w0 ab xo m cx zs (l.setIfInBounds i true) (a.put (some s) u) w' := by
  have hsz := h.fr.size
  have hsl := slA_lt hs
  have hrm : s < a.tmps.size := by rw [h.fr.room, hA]; omega
  have hmem : s ∈ [7, 30, 31, 32, 33, 34, 35, 36, 37, 38, 39] := by simp; omega
  have o3 : (l.setIfInBounds i true).getD 3 false = l.getD 3 false := getD_other hsz hi (by omega)
  have o5 : (l.setIfInBounds i true).getD 5 false = l.getD 5 false := getD_other hsz hi (by omega)
  have oth : ∀ t, t ≠ s → (a.put (some s) u).tmps[t]? = a.tmps[t]? := fun t ht => put_other (fun e => ht e.symm)
  refine ⟨h.fr.put i s u hmem, Tv.put h.fr h.tv slA_inj (fun i s hs => by have := slA_lt hs; omega) i s hi hs u hu, grown_trans h.gr hg (by simp), ?_, ?_, ?_, ?_, ?_, ?_, h.st.next hsz hi (fun p hp e => ?_)⟩
  · intro h0 h3
    rw [o3] at h3
    by_cases e : i = 0
    · subst e
      cases hs
      obtain ⟨g, rfl, hv⟩ := g0.out rfl
      exact ⟨g, put_self hrm, hv⟩
    · rw [getD_other hsz hi (fun e9 => e e9.symm)] at h0
      obtain ⟨g, k1, k2⟩ := h.p0 h0 h3
      exact ⟨g, by rw [oth 30 (by omega)]; exact k1, k2.grown hg⟩
  · intro h3 h5
    rw [o3] at h3
    rw [o5] at h5
    obtain ⟨ao, cap, k1, k2⟩ := h.p3 h3 h5
    exact ⟨ao, cap, by rw [oth 33 (by omega)]; exact k1, k2.grown hg⟩
  · intro h4 h5
    rw [o5] at h5
    by_cases e : i = 4
    · subst e
      cases hs
      obtain ⟨o, rfl, hv, ho⟩ := g4.out rfl
      exact ⟨o, put_self hrm, hv, Nat.le_trans h.gr.size ho⟩
    · rw [getD_other hsz hi (fun e9 => e e9.symm)] at h4
      obtain ⟨o, k1, k2, k3⟩ := h.p4 h4 h5
      exact ⟨o, by rw [oth 34 (by omega)]; exact k1, k2.grown hg, k3⟩
  · intro h5
    rw [o5] at h5
    obtain ⟨ao, cap, k1, k2⟩ := h.p5 h5
    exact ⟨ao, cap, by rw [oth 35 (by omega)]; exact k1, k2.grown hg⟩
  · intro h9
    by_cases e : i = 9
    · subst e
      cases hs
      obtain ⟨k0, k3⟩ := g9.out rfl
      obtain ⟨ao, cap, k1, k2⟩ := h.p5 k0
      exact ⟨ao, cap, by rw [oth 35 (by omega)]; exact k1, by rw [put_self hrm, k3 ao cap k1]⟩
    · rw [getD_other hsz hi (fun e9 => e e9.symm)] at h9
      obtain ⟨ao, cap, k1, k2⟩ := h.p9 h9
      exact ⟨ao, cap, by rw [oth 35 (by omega)]; exact k1, by rw [oth 39 (by omega)]; exact k2⟩
  · intro h9
    by_cases e : i = 10
    · subst e
      cases hs
      obtain ⟨k0, k3⟩ := g10.out rfl
      obtain ⟨ao, cap, k1, k2⟩ := h.p5 k0
      exact ⟨ao, cap, by rw [oth 35 (by omega)]; exact k1, by rw [put_self hrm, k3 ao cap k1]⟩
    · rw [getD_other hsz hi (fun e9 => e e9.symm)] at h9
      obtain ⟨ao, cap, k1, k2⟩ := h.p10 h9
      exact ⟨ao, cap, by rw [oth 35 (by omega)]; exact k1, by rw [oth 7 (by omega)]; exact k2⟩
  · simp at hp
    rcases hp with rfl | rfl | rfl | rfl
    · exact absurd e.symm h3i.1
    · exact absurd e.symm h3i.2
    · exact (g9.out e.symm).1
    · exact (g10.out e.symm).1

theorem JP.no5 (h : JP A w0 ab xo m cx zs l a w) (h5 : l.getD 5 true = false) : l.getD 5 false = false ∧ ¬ l.getD 9 false = true ∧ ¬ l.getD 10 false = true := by
  have e5 : l.getD 5 false = false := by
    cases hq : l.getD 5 false with
    | false => rfl
    | true => exact absurd h5 (getD_both hq)
  exact ⟨e5, (fun h9 => by rw [h.st (9, 5) (by simp) h9] at e5; cases e5), (fun h9 => by rw [h.st (10, 5) (by simp) h9] at e5; cases e5)⟩

/-- The first append. -/
theorem JP.app3 (hA : A.size = 238) (h : JP A w0 ab xo m cx zs l a w) (h3 : l.getD 3 true = false) (h0 : l.getD 0 false = true) (g : Nat) (hg30 : a.tmps[30]? = some (.slice (some ⟨g, 0, none⟩) 0 0)) (hv0 : Vo w w0.heap.size 3 (some ⟨g, 0, none⟩) 0 0 []) (ao : Option Addr) (cap : Nat) (hv : Vo w' w0.heap.size 3 ao m cap zs) (hg : w.grownBy w' (some g)) : JP A w0 ab xo m cx zs (l.setIfInBounds 3 true) (a.put (some 33) (.slice ao m cap)) w' := by
  have hsz := h.fr.size
  have e3 : l.getD 3 false = false := by
    cases hq : l.getD 3 false with
    | false => rfl
    | true => exact absurd h3 (getD_both hq)
  have n5 : ¬ l.getD 5 false = true := fun h9 => by rw [h.st (5, 3) (by simp) h9] at e3; cases e3
  have hgb := (hv0.from_base g rfl).1
  have o5 : (l.setIfInBounds 3 true).getD 5 false = l.getD 5 false := getD_other hsz (by omega) (by omega)
  have o3 : (l.setIfInBounds 3 true).getD 3 false = true := by rw [getD_set (by omega), if_pos rfl]
  have hne : ∀ o, Ro w o 3 [.int .i64 77] → o ≠ g := fun o ho e => by
    subst e
    rcases hv0.row.2 with ⟨hq, _⟩ | ⟨g2, c2, cur, hq, _, hh, _, _, hs2, _⟩
    · cases hq
    · cases hq
      have r1 : w.heap[o]? = _ := ho
      rw [r1] at hh
      cases hh
      simp at hs2
  refine ⟨h.fr.put 3 33 _ (by decide), Tv.put h.fr h.tv slA_inj (fun i s hs => by have := slA_lt hs; omega) 3 33 (by omega) rfl _ (fun v hv => by cases hv), grown_trans h.gr hg (fun k e => by cases e; exact Or.inr hgb), ?_, ?_, ?_, ?_, ?_, ?_, h.st.next hsz (by omega) (fun p hp e => ?_)⟩
  · intro _ h9
    rw [o3] at h9; cases h9
  · intro _ _
    exact ⟨ao, cap, put_self (by rw [h.fr.room, hA]; omega), hv⟩
  · intro h4 h5
    rw [o5] at h5
    rw [getD_other hsz (by omega) (by omega)] at h4
    obtain ⟨o, k1, k2, k3⟩ := h.p4 h4 h5
    exact ⟨o, by rw [put_other (by decide)]; exact k1, (hg.block o k2.lt (fun e => hne o k2 (by cases e; rfl))).trans k2, k3⟩
  · intro h5
    rw [o5] at h5
    exact absurd h5 n5
  · intro h9
    rw [getD_other hsz (by omega) (by omega)] at h9
    exact absurd (h.st (9, 5) (by simp) h9) n5
  · intro h9
    rw [getD_other hsz (by omega) (by omega)] at h9
    exact absurd (h.st (10, 5) (by simp) h9) n5
  · simp at hp
    rcases hp with rfl | rfl | rfl | rfl
    · exact h0
    · simp at e
    · simp at e
    · simp at e

/-- The second append. -/
theorem JP.app5 (hA : A.size = 238) (h : JP A w0 ab xo m cx zs l a w) (h5 : l.getD 5 true = false) (h3 : l.getD 3 false = true) {row : Option Nat} (hrow : ∀ k, row = some k → w0.heap.size ≤ k) (ao : Option Addr) (cap : Nat) (hv : Vo w' w0.heap.size 3 ao (m + 1) cap (zs ++ [.int .i64 77])) (hg : w.grownBy w' row) : JP A w0 ab xo m cx zs (l.setIfInBounds 5 true) (a.put (some 35) (.slice ao (m + 1) cap)) w' := by
  have hsz := h.fr.size
  obtain ⟨e5, n9, n10⟩ := h.no5 h5
  have o5 : (l.setIfInBounds 5 true).getD 5 false = true := by rw [getD_set (by omega), if_pos rfl]
  have o3 : (l.setIfInBounds 5 true).getD 3 false = l.getD 3 false := getD_other hsz (by omega) (by omega)
  refine ⟨h.fr.put 5 35 _ (by decide), Tv.put h.fr h.tv slA_inj (fun i s hs => by have := slA_lt hs; omega) 5 35 (by omega) rfl _ (fun v hv => by cases hv), grown_trans h.gr hg (fun k e => Or.inr (hrow k e)), ?_, ?_, ?_, ?_, ?_, ?_, h.st.next hsz (by omega) (fun p hp e => ?_)⟩
  · intro _ h9
    rw [o3, h3] at h9; cases h9
  · intro _ h9
    rw [o5] at h9; cases h9
  · intro _ h9
    rw [o5] at h9; cases h9
  · intro _
    exact ⟨ao, cap, put_self (by rw [h.fr.room, hA]; omega), hv⟩
  · intro h9
    rw [getD_other hsz (by omega) (by omega)] at h9
    exact absurd h9 n9
  · intro h9
    rw [getD_other hsz (by omega) (by omega)] at h9
    exact absurd h9 n10
  · simp at hp
    rcases hp with rfl | rfl | rfl | rfl
    · simp at e
    · exact h3
    · simp at e
    · simp at e
end

set_option maxRecDepth 100000 in
set_option maxHeartbeats 8000000 in
theorem regA {ops : Array Oper} (hops : Try.f10.body.bind (findReg 4) = some ops) {w0 : World} {ab : Nat} {xo : Option Addr} {m cx : Nat} {zs : List Value} (h3 : w0.cell? ⟨ab, 3, none⟩ = some (.slice xo m cx)) (hv : Vs w0 xo m cx zs) (hm : m ≤ 300)
    {Q : Exit → Act → World → Prop} {a : Act} (hroom : a.tmps.size = 238) (hdf : a.defers = []) (t5 : a.tmps[5]? = some (.pointer (some ⟨ab, 0, none⟩)))
    (hQ : ∀ a' w' ao cap, a'.tmps.size = a.tmps.size → a'.defers = [] → (∀ s, s ∉ [7, 30, 31, 32, 33, 34, 35, 36, 37, 38, 39] → a'.tmps[s]? = a.tmps[s]?) → a'.tmps[7]? = some (.slice ao m cap) → Vo w' w0.heap.size 3 ao (m + 1) cap (zs ++ [.int .i64 77]) → w0.grownBy w' none → Q .normal a' w') :
    wpAny Try.prog .any ops Q 11 (Array.replicate 11 false) a w0 := by
  have hops2 : ∃ ops', Try.f10.body.bind (findReg 4) = some ops' ∧ wpAny Try.prog .any ops' Q 11 (Array.replicate 11 false) a w0 := by
    refine ⟨_, rfl, ?_⟩
    refine any_order (J := JP a.tmps w0 ab xo m cx zs) ?size ?step ?stop ?low _ _ _ _ ?init ?count
    case size => exact fun l a w h => h.fr.size
    case low => exact low_of (by kernel_rfl)
    case count => exact left_all 11
    case init =>
      have hno : ∀ j, (Array.replicate 11 false).getD j false = true → False := by
        intro j hj
        by_cases h9 : j < 11 <;> simp [h9] at hj
      exact ⟨⟨rfl, rfl, hdf, fun _ _ => rfl⟩, fun j hj => (hno j hj).elim, grown_refl _ none, fun h => (hno _ h).elim, fun h => (hno _ h).elim, fun h => (hno _ h).elim, fun h => (hno _ h).elim, fun h => (hno _ h).elim, fun h => (hno _ h).elim, fun p _ h => (hno _ h).elim⟩
    case stop =>
      intro l a' w' hJ hall
      obtain ⟨ao, cap, k1, k2⟩ := hJ.p5 (hall 5 (by simp))
      obtain ⟨ao2, cap2, k3, k4⟩ := hJ.p10 (hall 10 (by simp))
      rw [k1] at k3
      cases k3
      exact hQ a' w' ao cap hJ.fr.room hJ.fr.defers hJ.fr.same k4 k2 hJ.gr
    case step =>
      intro l a' w' q op hJ ho hl hdep
      have hq : q < 11 := by
        have h9 := (Array.getElem?_eq_some_iff.1 ho).1
        simpa using h9
      have HR : Hid (a.tmps.size = 238) := hroom
      have e5 := hJ.fr.at t5 (by decide)
      have hsz := hJ.fr.size
      have hgs := hJ.gr.size
      clear hQ hroom
      match q, hq with
      | 0, _ =>
        cases ho
        clear hdep
        refine wpOp_step rfl (fun K hK => ?_)
        go_simp
        exact hK (a'.put (some 30) (.slice (some ⟨w'.heap.size, 0, none⟩) 0 0)) (w'.alloc (.cells #[] 3)) (hJ.step HR.out 0 30 (by omega) (by omega) rfl (alloc_grown _ _) _ (fun v hv => by cases hv) (fun _ => ⟨_, rfl, Vo.empty w' _ 3 hgs⟩) (fun e => by cases e) (fun e => by cases e) (fun e => by cases e))
      | 1, _ =>
        cases ho
        clear hdep
        refine wpOp_step rfl (fun K hK => ?_)
        go_simp
        exact hK _ _ (hJ.step HR.out 1 31 (by omega) (by omega) rfl (grown_refl _ none) _ (fun v hv => by cases hv; rfl) (fun e => by cases e) (fun e => by cases e) (fun e => by cases e) (fun e => by cases e))
      | 2, _ =>
        cases ho
        have x1 := hJ.tv 1 (hdep { on := 1, ground := .data } (by simp) rfl) 31 _ rfl rfl
        have hc := hJ.gr.cell h3 (by simp)
        clear hdep
        refine wpOp_step rfl (fun K hK => ?_)
        go_simp
        exact hK _ _ (hJ.step HR.out 2 32 (by omega) (by omega) rfl (grown_refl _ none) _ (fun v hv => by cases hv; rfl) (fun e => by cases e) (fun e => by cases e) (fun e => by cases e) (fun e => by cases e))
      | 3, _ =>
        cases ho
        have d0 := hdep { on := 0, ground := .data } (by simp) rfl
        have x2 := hJ.tv 2 (hdep { on := 2, ground := .data } (by simp) rfl) 32 _ rfl rfl
        have l3 : l.getD 3 false = false := by
          cases hq : l.getD 3 false with
          | false => rfl
          | true => exact absurd hl (getD_both hq)
        obtain ⟨g, k1, k2⟩ := hJ.p0 d0 l3
        clear hdep
        refine wpOp_step rfl (fun K hK => ?_)
        refine wp_append_vs w' (.tmp 30) (.tmp 32) rfl w0.heap.size (ao := some ⟨g, 0, none⟩) (n := 0) (cap := 0) (l := []) (by simp [Act.eval, k1]) k2 (xo := xo) (m := m) (c := cx) (k := zs) (by simp [Act.eval, x2]) (hv.grown hJ.gr) (by omega) hgs ?_
        intro ao' cap' w2 hv2 hg2
        rw [Nat.zero_add] at hv2 ⊢
        rw [List.nil_append] at hv2
        exact hK _ _ (hJ.app3 HR.out hl d0 g k1 k2 ao' cap' hv2 hg2)
      | 4, _ =>
        cases ho
        clear hdep
        refine wpOp_step rfl (fun K hK => ?_)
        go_simp
        exact hK (a'.put (some 34) (.slice (some ⟨w'.heap.size, 0, none⟩) 1 1)) (w'.alloc (.cells #[.int .i64 77] 3)) (hJ.step HR.out 4 34 (by omega) (by omega) rfl (alloc_grown _ _) _ (fun v hv => by cases hv) (fun e => by cases e) (fun _ => ⟨_, rfl, heap_alloc_new w' _, Nat.le_refl _⟩) (fun e => by cases e) (fun e => by cases e))
      | 5, _ =>
        cases ho
        have d3 := hdep { on := 3, ground := .data } (by simp) rfl
        have d4 := hdep { on := 4, ground := .data } (by simp) rfl
        obtain ⟨l5, _, _⟩ := hJ.no5 hl
        obtain ⟨ao, cap, k1, k2⟩ := hJ.p3 d3 l5
        obtain ⟨o, j1, j2, j3⟩ := hJ.p4 d4 l5
        clear hdep
        refine wpOp_step rfl (fun K hK => ?_)
        refine wp_append_vs w' (.tmp 33) (.tmp 34) rfl w0.heap.size (ao := ao) (n := m) (cap := cap) (l := zs) (by simp [Act.eval, k1]) k2 (xo := some ⟨o, 0, none⟩) (m := 1) (c := 1) (k := [.int .i64 77]) (by simp [Act.eval, j1]) (j2.shows (by simp [Value.oneCell']) (by show 1 ≤ maxLen; decide)) (by omega) hgs ?_
        intro ao' cap' w2 hv2 hg2
        exact hK _ _ (hJ.app5 HR.out hl d3 (fun k e => (k2.from_base k e).1) ao' cap' hv2 hg2)
      | 6, _ =>
        cases ho
        clear hdep
        refine wpOp_step rfl (fun K hK => ?_)
        go_simp
        exact hK _ _ (hJ.step HR.out 6 36 (by omega) (by omega) rfl (grown_refl _ none) _ (fun v hv => by cases hv; rfl) (fun e => by cases e) (fun e => by cases e) (fun e => by cases e) (fun e => by cases e))
      | 7, _ =>
        cases ho
        have x1 := hJ.tv 6 (hdep { on := 6, ground := .data } (by simp) rfl) 36 _ rfl rfl
        have hc := hJ.gr.cell h3 (by simp)
        clear hdep
        refine wpOp_step rfl (fun K hK => ?_)
        go_simp
        exact hK _ _ (hJ.step HR.out 7 37 (by omega) (by omega) rfl (grown_refl _ none) _ (fun v hv => by cases hv; rfl) (fun e => by cases e) (fun e => by cases e) (fun e => by cases e) (fun e => by cases e))
      | 8, _ =>
        cases ho
        have x1 := hJ.tv 7 (hdep { on := 7, ground := .data } (by simp) rfl) 37 _ rfl rfl
        clear hdep
        refine wpOp_step rfl (fun K hK => ?_)
        go_simp
        exact hK _ _ (hJ.step HR.out 8 38 (by omega) (by omega) rfl (grown_refl _ none) _ (fun v hv => by cases hv; rfl) (fun e => by cases e) (fun e => by cases e) (fun e => by cases e) (fun e => by cases e))
      | 9, _ =>
        cases ho
        have d5 := hdep { on := 5, ground := .data } (by simp) rfl
        have x1 := hJ.tv 8 (hdep { on := 8, ground := .data } (by simp) rfl) 38 _ rfl rfl
        obtain ⟨ao, cap, k1, k2⟩ := hJ.p5 d5
        have hrm := k2.shows.room
        have hsl := run_slice_hi k2.plain (m + 1) m cap (by omega)
        clear hdep
        refine wpOp_step rfl (fun K hK => ?_)
        go_simp
        exact hK _ _ (hJ.step HR.out 9 39 (by omega) (by omega) rfl (grown_refl _ none) _ (fun v hv => by cases hv) (fun e => by cases e) (fun e => by cases e) (fun _ => ⟨d5, fun ao2 cap2 e => by rw [k1] at e; cases e; rfl⟩) (fun e => by cases e))
      | 10, _ =>
        cases ho
        have d9 := hdep { on := 9, ground := .data } (by simp) rfl
        have d5 := hdep { on := 5, ground := .chain } (by simp) rfl
        obtain ⟨ao, cap, k1, k2⟩ := hJ.p9 d9
        clear hdep
        refine wpOp_step rfl (fun K hK => ?_)
        go_simp
        exact hK _ _ (hJ.step HR.out 10 7 (by omega) (by omega) rfl (grown_refl _ none) _ (fun v hv => by cases hv) (fun e => by cases e) (fun e => by cases e) (fun e => by cases e) (fun _ => ⟨d5, fun ao2 cap2 e => by rw [k1] at e; cases e; rfl⟩))
  obtain ⟨ops', hh1, hh2⟩ := hops2
  rw [hops] at hh1
  cases hh1
  exact hh2
end Go.Proofs.Ytabnpgmkccmneaa
