/-
  The script as it lies; an index is put aside, another goes on.
-/
import Derived.Test.YtmnfdiffneobpaaT22
import Derived.Test.YtmnfdiffneobpaaM1
namespace Go.Proofs.Ytmnfdiffneobpaa
open Go.RowKit Go.Shelf
set_option linter.unusedVariables false

/-- The script. -/
structure Sx (w : World) (so : Option Addr) (n : Nat) (ks : List Ak) : Prop where
  len : ks.length = n
  pl : 0 < n → ∃ g o, so = some ⟨g, o, none⟩ ∧ ∀ j a, ks[j]? = some a → w.cell? ⟨g, o + j * 4, none⟩ = some (.int .i64 a.kd) ∧ w.cell? ⟨g, o + j * 4 + 1, none⟩ = some (.int .i64 a.N) ∧ w.cell? ⟨g, o + j * 4 + 2, none⟩ = some (.slice a.lo a.ln a.lc) ∧ w.cell? ⟨g, o + j * 4 + 3, none⟩ = some (.int .i64 a.lv)
  rs : ∀ a ∈ ks, Gr.Rs w a.lo a.ln a.lc a.gl
theorem Sx.at {w : World} {g o n : Nat} {ks : List Ak} (h : Sx w (some ⟨g, o, none⟩) n ks) (hn : 0 < n) {j : Nat} {a : Ak} (ha : ks[j]? = some a) : ∀ V : World, w.grownBy V none → V.cell? ⟨g, o + j * 4, none⟩ = some (.int .i64 a.kd) ∧ V.cell? ⟨g, o + j * 4 + 1, none⟩ = some (.int .i64 a.N) ∧ V.cell? ⟨g, o + j * 4 + 2, none⟩ = some (.slice a.lo a.ln a.lc) ∧ V.cell? ⟨g, o + j * 4 + 3, none⟩ = some (.int .i64 a.lv) := by
  intro V hV
  obtain ⟨g', o', e, hc⟩ := h.pl hn
  cases e
  obtain ⟨c0, c1, c2, c3⟩ := hc j a ha
  exact ⟨hV.cell c0 (by simp), hV.cell c1 (by simp), hV.cell c2 (by simp), hV.cell c3 (by simp)⟩

/-- An index is put aside, and another that says the same goes on. -/
theorem Cur.turn {w0 W W1 W2 W3 W4 W5 : World} {b : Nat} {ro : Option Addr} {rc r : Nat} {rr : Option Addr} {rc2 : Nat} {bs en : Int} {l : List Sd} {m base T : Nat} {oo : Option Addr} {oc : Nat} {wo : Option Addr} {wc : Nat} {A : List Asd} {oo' wo' : Option Addr} {oc' wc' b2 rc3 : Nat} {ro2 : Option Addr}
    (h : Cur w0 W b ro rc r rr rc2 bs en l m base T oo oc wo wc A) (g1 : W.grownBy W1 none) (g2 : W1.grownBy W2 (blk oo)) (g3 : W2.grownBy W3 none) (g4 : W3.grownBy W4 (blk wo))
    (ho : Vo W2 base 27 oo' (A.length + 1) oc' (A.map Asd.pv ++ [.pointer (some ⟨b, 0, none⟩)])) (hw : Iw W4 base bs wo' (A.length + 1) wc' (A ++ [⟨b, ro, rc, rr, rc2, en, l⟩]))
    (g5 : W4.grownBy W5 none) (hx : Xd W5 b2 ro2 rc3 bs en l) (hb2 : W4.heap.size ≤ b2) (hf : Fresh W4 ro2) :
    Cur w0 W5 b2 ro2 rc3 r rr rc2 bs en l m base W4.heap.size oo' oc' wo' wc' (A ++ [⟨b, ro, rc, rr, rc2, en, l⟩]) := by
  obtain ⟨k1, k2⟩ := h.sta.push h.bo g1 g2 g3 g4 ho hw
  have hne := h.sta.ne
  have hr0 := h.r0
  have hob : ∀ q, blk oo = some q → w0.heap.size ≤ q := fun q hq => by have := (h.sta.old.from_base q hq).1; omega
  have hwb : ∀ q, blk wo = some q → w0.heap.size ≤ q := fun q hq => by have := (h.sta.was.from_base q hq).1; omega
  have hG4 : w0.grownBy W4 none := grown_trans (grown_trans (grown_trans (grown_trans h.g g1 (by simp)) g2 (fun q e => .inr (hob q e))) g3 (by simp)) g4 (fun q e => .inr (hwb q e))
  have hs : base ≤ W4.heap.size := by have := g1.size; have := g2.size; have := g3.size; have := g4.size; have := h.bs0; omega
  refine ⟨⟨hx, k2.y.grown g5, k2.iv, fun q hq e => ?_⟩, k1.grown g5, hb2, hf, grown_trans hG4 g5 (by simp), h.r0, hG4.size, g5.size, Nat.le_trans hs g5.size⟩
  have := hf q hq
  have := k2.y.rlt q e
  omega
/-- What is opened of an index' own bytes. -/
theorem open_own {w w' : World} {e : Ending} {B E : Nat} {l : List Sd} (hg : Good l) (hl : l.length ≤ 65536) (hb : B ≤ 9007199254740992) (he : E ≤ 9007199254740993) (hok : OkI B E l) (h : OpenPost (iby B E l) w e w') :
    ∃ b ro rc, e = .returned (.tuple #[.pointer (some ⟨b, 0, none⟩), .int .i64 0]) ∧ Xd w' b ro rc B E l ∧ w.heap.size ≤ b ∧ Fresh w ro ∧ w.grownBy w' none := by
  have ho := iby_ok hg hl hb he hok
  obtain ⟨h1, h2 | h2 | h2⟩ := h
  · exact absurd h2.1 (open_not_more ho)
  · exact absurd ho h2.2.1
  · obtain ⟨_, b, ro, rc, k1, k2, k3, k4⟩ := h2
    rw [iby_n0 _ _ _ (by omega), iby_n8 _ _ _ he, iby_cnt _ _ _ hl, iby_scan _ _ _ hg] at k2
    exact ⟨b, ro, rc, k1, k2, k3, k4, h1⟩
/-- The beginning. -/
theorem Cur.start {w w1 : World} {bs : Int} (h0 : 0 ≤ bs) (h1 : bs ≤ 9007199254740992) (hx : Xd w1 w.heap.size none 0 bs bs []) (hg : w.grownBy w1 none) :
    Cur w (w1.alloc (.cells #[.int .i64 bs, .int .i64 bs, .slice none 0 0] 35)) w.heap.size none 0 w1.heap.size none 0 bs bs [] 0 (w1.heap.size + 1) w.heap.size none 0 none 0 [] := by
  have ga := alloc_grown w1 (.cells #[.int .i64 bs, .int .i64 bs, .slice none 0 0] 35)
  have k9 := World.alloc_heap_new w1 (.cells #[.int .i64 bs, .int .i64 bs, .slice none 0 0] 35)
  have hy : Ry (w1.alloc (.cells #[.int .i64 bs, .int .i64 bs, .slice none 0 0] 35)) w1.heap.size none 0 bs bs [] := ⟨k9, Sw.nil _ _⟩
  refine ⟨⟨hx.grown ga, hy, Iv.start h0 h1, fun q hq => by cases hq⟩, ⟨Vo.nil _ _ _, ⟨rfl, World.ownsRow_nil _ _ _ _⟩, fun a ha => (by cases ha), ⟨fun q hq => (by cases hq), fun q hq => (by cases hq), fun a ha => (by cases ha)⟩, Nat.lt_succ_self _, hy.ty⟩, Nat.le_refl _, fun q hq => (by cases hq), grown_trans hg ga (by simp), hg.size, Nat.le_refl _, ?_, ?_⟩
  · have := hg.size; have := ga.size; omega
  · simp
end Go.Proofs.Ytmnfdiffneobpaa
