/-
  New of fates; Copy.
-/
import Derived.Test.YthkbakaodbceiaaH7
namespace Go.Proofs.Ythkbakaodbceiaa
open Go.RowKit Go.Maps Go.WideMaps
set_option linter.unusedVariables false

theorem mp_new {w : World} {m : Nat} (hm : w.heap[m]? = some (.map #[] 0)) : Mp w m 0 (.map []) := by
  obtain ⟨es, clock, hb, F, hs, hD⟩ := World.ownsMap_made (H := Unit) w Try.prog 9 fileElem
  have := World.alloc_heap_new w (.map #[] 0)
  rw [this] at hb
  cases hb
  exact ⟨_, _, hm, F, hs, hD⟩
theorem Ow.beside {w w' : World} {base : Nat} {e : TypeId} {ao : Option Addr} {n cap : Nat} {l : List UInt8} {S : Nat → Prop} (h : Ow w base e ao n cap l) (hc : Chg w w' S) (hS : ∀ q, blk ao = some q → ¬ S q) : Ow w' base e ao n cap l := by
  refine ⟨h.len, h.row.1, ?_⟩
  rcases h.row.2 with ⟨h4, h5⟩ | ⟨g, c, cs, h4, h5, h6, h7⟩
  · exact .inl ⟨h4, h5⟩
  · cases h4
    exact .inr ⟨g, cap, cs, rfl, h5, (hc.block g (Array.getElem?_eq_some_iff.1 h6).1 (hS g rfl)).trans h6, h7⟩

section
variable {w w' : World} {l : List (Int × Int)} {n c b m : Nat} {o : Option Addr} {st : Int}

set_option maxRecDepth 100000 in
theorem new_any (hf : Ft w o n c l) (hn : n ≤ 4294967296) (hob : ∀ a, o = some a → a.block < w.heap.size) :
    Calls Try.prog 10 #[.slice o n c] w fun e w' => (fw l = false ∧ e = .returned (.tuple #[.pointer none, .int .i64 2]) ∧ w.grownBy w' none) ∨ (fw l = true ∧ e = .returned (.tuple #[.pointer (some ⟨w.heap.size + 1, 0, none⟩), .int .i64 0]) ∧ Ds w' (w.heap.size + 1) w.heap.size l 0 0 (.map []) ∧ w.grownBy w' none) := by
  go_enter Try.func10, Try.ntmps10
  go_wp2_with fail
  refine (empty_any _).mono ?_
  rintro e w1 ⟨rfl, hm1, hd1, hg1⟩
  have hf1 := hf.chg (Chg.of_grown hg1 (fun _ => False)) (fun _ _ e => e)
  go_wp2_with fail
  refine (feed_new hd1 hf1 hn (fun a e => by have := hob a e; omega)).mono ?_
  rintro e w2 (⟨h0, rfl, hg2⟩ | ⟨h0, rfl, o', c', hd2, hf2, hab, hc2⟩)
  · have hG := grown_trans hg1 hg2 (by simp)
    clear hf hf1 hd1 hg1 hm1
    go_wp2
    go_ret2
    exact .inl ⟨h0, rfl, hG⟩
  · have hml := (Array.getElem?_eq_some_iff.1 hm1).1
    have hm2 : w2.heap[w.heap.size]? = some (.map #[] 0) := (hc2.block _ hml (by omega)).trans hm1
    have hG : w.grownBy w2 none := ((Chg.of_grown hg1 _).trans hc2).grown (fun k hk e => by omega)
    have hlt := hd1.lt
    have hD : Hid (Ds w2 (w.heap.size + 1) w.heap.size l 0 0 (.map [])) := ⟨⟨o', n, c', hd2, hf2, fun a e => ⟨by have := (hab a e).1; omega, by have := (hab a e).1; omega, (hab a e).2⟩⟩, mp_new hm2⟩
    clear hf hf1 hd1 hg1 hm1 hm2 hd2 hf2 hc2
    go_wp2
    go_ret2
    exact .inr ⟨h0, rfl, hD.out, hG⟩
end

/-- The files of a disk, their bytes by their block. -/
structure Fb (w : World) (D : DataW Unit) (X : Nat → Fm) (B : Nat → List UInt8) : Prop where
  fl : ∀ s g, at? D s (some g) → FlX w g (X g)
  ow : ∀ s g, at? D s (some g) → Ow w 0 5 (X g).bo (X g).bn (X g).bc (B g)
  sz : ∀ s g, at? D s (some g) → (X g).bn ≤ 16777216
  nz : Nz D

/-- How far a copy has come when these are left. -/
structure Cp (w wr : World) (nm base : Nat) (D : DataW Unit) (X : Nat → Fm) (B : Nat → List UInt8) (left : Lit → Bool) (cnt n' : Nat) (D' : DataW Unit) : Prop where
  mp : Mp wr nm n' D'
  cnt : n' + cnt ≤ Maps.size D
  has : ∀ k, Maps.has D' k = (Maps.has D k && !left k)
  fl : ∀ s g, at? D s (some g) → left (.string s.data.toList) = false → ∃ g' bo' bc', at? D' s (some g') ∧ base ≤ g' ∧ FlX wr g' { X g with bo := bo', bc := bc' } ∧ Ow wr base 5 bo' (X g).bn bc' (B g)
  lt : ∀ s g', at? D' s (some g') → g' < wr.heap.size
  inj : ∀ s s' g', at? D' s (some g') → at? D' s' (some g') → s = s'
  nz : Nz D'
  chg : Chg w wr (fun k => k = nm)

theorem at_put_same {D : DataW Unit} {s : ByteArray} (hD : IsMap D) (hk : WideAt.IsKeyLit (.string s.data.toList)) (g : Nat) : at? (D.put (.string s.data.toList) (.lit (.int .i64 g))) s (some g) := by
  unfold at?
  rw [atKey_put_same hD hk]
theorem at_put_other {D : DataW Unit} {s x : ByteArray} (h : s ≠ x) (d : DataW Unit) (g : Option Nat) : at? (D.put (.string x.data.toList) d) s g ↔ at? D s g := by
  unfold at?
  rw [atKey_put_other]
  intro e
  apply h
  have e1 : s.data.toList = x.data.toList := by simpa using e
  cases s; cases x
  simp only [ByteArray.mk.injEq]
  exact Array.toList_inj.1 e1
theorem Nz.put {D : DataW Unit} (h : Nz D) (hD : IsMap D) {kl : Lit} (hk : WideAt.IsKeyLit kl) (g : Nat) : Nz (D.put kl (.lit (.int .i64 g))) := by
  intro k d hd
  by_cases e : k = kl
  · subst e
    exact ⟨g, by rw [← hd .nil, atKey_put_same hD hk]⟩
  · exact h k d (fun zd => by rw [← hd zd, atKey_put_other e])

theorem Cp.next {w wr wD : World} {nm base r g g' cnt cnt1 n' : Nat} {D D' : DataW Unit} {X : Nat → Fm} {B : Nat → List UInt8} {left : Lit → Bool} {x : ByteArray} {bo' : Option Addr} {bc' : Nat} (h : Cp w wr nm base D X B left cnt n' D') (hnm : nm < base) (hr : r < base) (hwr : base ≤ wr.heap.size) (hwrr : w.heap.size ≤ r) (hcnt : cnt1 < cnt)
    (hat : at? D x (some g)) (hk : WideAt.IsKeyLit (.string x.data.toList)) (hm : Mp wD nm (n' + 1) (D'.put (.string x.data.toList) (.lit (.int .i64 g')))) (hg' : wr.heap.size ≤ g') (hgl : g' < wD.heap.size)
    (hf : FlX wD g' { X g with bo := bo', bc := bc' }) (ho : Ow wD base 5 bo' (X g).bn bc' (B g)) (hc : Chg wr wD (fun k => k = nm ∨ k = r)) :
    Cp w wD nm base D X B (fun z => left z && !z.sameKey (.string x.data.toList)) cnt1 (n' + 1) (D'.put (.string x.data.toList) (.lit (.int .i64 g'))) := by
  have hM : IsMap D' := by obtain ⟨es, _, _, _, _, hD⟩ := h.mp; exact ⟨_, hD⟩
  have hself : ∀ s : ByteArray, (Lit.string s.data.toList).sameKey (.string s.data.toList) = true := fun s => by simp [Lit.sameKey]
  refine ⟨hm, by have := h.cnt; omega, fun k => ?_, fun s g2 hs hl => ?_, fun s g2 hs => ?_, fun s s' g2 h1 h2 => ?_, h.nz.put hM hk g', ?_⟩
  · by_cases e : k = .string x.data.toList
    · subst e
      rw [has_put_same hM hk, at_has hat, hself]
      simp
    · rw [has_put_other e, h.has, sameKey_ne e]
      simp
  · by_cases e : s = x
    · subst e
      obtain rfl : g2 = g := by simpa using at_one hs hat
      exact ⟨g', bo', bc', at_put_same hM hk g', by omega, hf, ho⟩
    · rw [key_ne e] at hl
      obtain ⟨g3, bo3, bc3, k1, k2, k3, k4⟩ := h.fl s g2 hs (by simpa using hl)
      refine ⟨g3, bo3, bc3, (at_put_other e _ _).2 k1, k2, k3.chg hc (fun e => by omega), k4.beside hc (fun q hq e => ?_)⟩
      have := k4.from_base q hq
      omega
  · by_cases e : s = x
    · subst e
      obtain rfl : g2 = g' := by simpa using at_one hs (at_put_same hM hk g')
      exact hgl
    · exact Nat.lt_of_lt_of_le (h.lt s g2 ((at_put_other e _ _).1 hs)) hc.size
  · by_cases e : s = x
    · by_cases e' : s' = x
      · rw [e, e']
      · exfalso
        subst e
        obtain rfl : g2 = g' := by simpa using at_one h1 (at_put_same hM hk g')
        have := h.lt s' g2 ((at_put_other e' _ _).1 h2)
        omega
    · by_cases e' : s' = x
      · exfalso
        subst e'
        obtain rfl : g2 = g' := by simpa using at_one h2 (at_put_same hM hk g')
        have := h.lt s g2 ((at_put_other e _ _).1 h1)
        omega
      · exact h.inj s s' g2 ((at_put_other e _ _).1 h1) ((at_put_other e' _ _).1 h2)
  · have hsz := h.chg.size
    exact ⟨hc.os.trans h.chg.os, hc.tape.trans h.chg.tape, hc.output.trans h.chg.output, Nat.le_trans h.chg.size hc.size, fun k hk hn => (hc.block k (Nat.lt_of_lt_of_le hk h.chg.size) (fun e => e.elim hn (fun e => by omega))).trans (h.chg.block k hk hn)⟩
end Go.Proofs.Ythkbakaodbceiaa
