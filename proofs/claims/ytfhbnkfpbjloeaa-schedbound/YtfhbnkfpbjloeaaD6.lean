/-
  What stands between two turns of the law that nobody is passed over too often.
-/
import Derived.Test.YtfhbnkfpbjloeaaD1
import Derived.Test.YtfhbnkfpbjloeaaD5
import Derived.Test.YtfhbnkfpbjloeaaA5
namespace Go.Proofs.Ytfhbnkfpbjloeaa
open Go.RowKit
set_option linter.unusedVariables false

theorem Vo.ne {w : World} {base base2 : Nat} {e e2 : TypeId} {ao ao2 : Option Addr} {n n2 cap cap2 : Nat} {l l2 : List Value} (h : Vo w base e ao n cap l) (h2 : Vo w base2 e2 ao2 n2 cap2 l2) (he : e ≠ e2) : blk ao = none ∨ blk ao ≠ blk ao2 := by
  rcases h.row.2 with ⟨hv, -⟩ | ⟨g, c, cur, hv, -, hg, -⟩
  · cases hv; exact Or.inl rfl
  · cases hv
    refine Or.inr ?_
    rcases h2.row.2 with ⟨hv2, -⟩ | ⟨g2, c2, cur2, hv2, -, hg2, -⟩
    · cases hv2; simp [blk]
    · cases hv2
      simp only [blk, Option.map_some, ne_eq, Option.some.injEq]
      rintro rfl
      rw [hg] at hg2
      simp at hg2
      exact he hg2.2
/-- Slices that show lists of truths, of what came in. -/
def Lr (w : World) (vs : List Value) (Ls : List (List Bool)) : Prop := vs.length = Ls.length ∧ ∀ (i : Nat) (v : Value) (c : List Bool), vs[i]? = some v → Ls[i]? = some c → ∃ xo xn xc, v = .slice xo xn xc ∧ (∀ W, w.grownBy W none → Vs W xo xn xc (c.map bo)) ∧ (∀ k, w.heap.size ≤ k → ∀ a, xo = some a → a.block ≠ k ∨ xn = 0)
theorem Lr.nil (w : World) : Lr w [] [] := ⟨rfl, fun i v c h => by simp at h⟩
theorem Lr.snoc {w : World} {vs : List Value} {Ls : List (List Bool)} (h : Lr w vs Ls) {xo : Option Addr} {xn xc : Nat} {c : List Bool} (hV : ∀ W, w.grownBy W none → Vs W xo xn xc (c.map bo)) (hB : ∀ k, w.heap.size ≤ k → ∀ a, xo = some a → a.block ≠ k ∨ xn = 0) : Lr w (vs ++ [.slice xo xn xc]) (Ls ++ [c]) := by
  refine ⟨by simp [h.1], fun i v d h1 h2 => ?_⟩
  rcases Nat.lt_or_ge i vs.length with hj | hj
  · rw [List.getElem?_append_left hj] at h1
    rw [List.getElem?_append_left (by have := h.1; omega)] at h2
    exact h.2 i v d h1 h2
  · have hj2 := (List.getElem?_eq_some_iff.1 h1).1
    obtain rfl : i = vs.length := by simp at hj2; omega
    rw [List.getElem?_append_right (Nat.le_refl _)] at h1
    rw [h.1, List.getElem?_append_right (Nat.le_refl _)] at h2
    simp at h1 h2
    subst h1 h2
    exact ⟨xo, xn, xc, rfl, hV, hB⟩
theorem Lr.bss {w W : World} {B : Nat} {lo : Option Addr} {n lc : Nat} {vs : List Value} {Ls : List (List Bool)} (h : Lr w vs Ls) (hv : Vo W B 22 lo n lc vs) (hg : w.grownBy W none) : Bss W lo n Ls := by
  have hs := hv.shows
  refine ⟨by rw [← h.1]; exact hv.len, fun hn => ?_⟩
  obtain ⟨g, rfl, hgb, hgl⟩ := hv.addr hn
  refine ⟨g, 0, rfl, hgl, fun i c hc => ?_⟩
  obtain ⟨v, hvi⟩ : ∃ v, vs[i]? = some v := ⟨_, List.getElem?_eq_getElem (by have := (List.getElem?_eq_some_iff.1 hc).1; have := h.1; omega)⟩
  obtain ⟨xo, xn, xc, rfl, hV, hB⟩ := h.2 i v c hvi hc
  refine ⟨xo, xn, xc, hs.at hvi, hV W hg, fun a ha => ?_⟩
  by_cases hk : w.heap.size ≤ a.block
  · exact Or.inr ((hB _ hk a ha).resolve_left (fun e => e rfl))
  · exact Or.inl (by have := hg.size; omega)
/-- What stands between two turns. -/
structure Sl (w wr : World) (B b g n k : Nat) (wo : Option Addr) (wn wc : Nat) (lo : Option Addr) (lc : Nat) (ws : List Int) (Ls : List (List Bool)) (vs : List Value) (f : Nat → Nat) (c : Nat) : Prop where
  fr : Fr wr b g n k f
  lb : w.heap.size ≤ b
  lg : w.heap.size ≤ g
  bB : b < B
  gB : g < B
  gr : w.grownBy wr none
  BB : B ≤ wr.heap.size
  wv : Vo wr B 3 wo wn wc (ws.map iv)
  lv : Vo wr B 22 lo wn lc vs
  rel : Lr w vs Ls
  sb : Sb n k ws Ls f
  wl : wn ≤ c
  fl : ∀ i, i < n → f i ≤ c
theorem Sl.grown {w wr W : World} {B b g n k : Nat} {wo : Option Addr} {wn wc : Nat} {lo : Option Addr} {lc : Nat} {ws : List Int} {Ls : List (List Bool)} {vs : List Value} {f : Nat → Nat} {c : Nat} (h : Sl w wr B b g n k wo wn wc lo lc ws Ls vs f c) (hg : wr.grownBy W none) : Sl w W B b g n k wo wn wc lo lc ws Ls vs f c :=
  ⟨h.fr.grown hg, h.lb, h.lg, h.bB, h.gB, grown_trans h.gr hg (by simp), Nat.le_trans h.BB hg.size, h.wv.grown hg, h.lv.grown hg, h.rel, h.sb, h.wl, h.fl⟩
/-- The counts' row is turned. -/
theorem Sl.put {w wr W : World} {B b g n k : Nat} {wo : Option Addr} {wn wc : Nat} {lo : Option Addr} {lc : Nat} {ws : List Int} {Ls : List (List Bool)} {vs : List Value} {f f' : Nat → Nat} {c : Nat} (h : Sl w wr B b g n k wo wn wc lo lc ws Ls vs f c) (hF : Fr W b g n k f') (hc : Chg wr W (fun q => q = g)) :
    Fr W b g n k f' ∧ w.grownBy W none ∧ B ≤ W.heap.size ∧ Vo W B 3 wo wn wc (ws.map iv) ∧ Vo W B 22 lo wn lc vs := by
  have hb := h.gB
  have hlg := h.lg
  refine ⟨hF, ((Chg.of_grown h.gr (fun q => q = g)).trans hc).grown (fun q hq e => by omega), Nat.le_trans h.BB hc.size, h.wv.chg hc ?_, h.lv.chg hc ?_⟩
  · intro a ha e
    have := (h.wv.from_base a.block (by rw [ha]; rfl)).1
    omega
  · intro a ha e
    have := (h.lv.from_base a.block (by rw [ha]; rfl)).1
    omega
theorem vo_gr {w wr W : World} {B : Nat} {e : TypeId} {ao : Option Addr} {n cap : Nat} {l : List Value} (hg : w.grownBy wr none) (hB : w.heap.size ≤ B) (hv : Vo wr B e ao n cap l) (h2 : wr.grownBy W (blk ao)) : w.grownBy W none :=
  ((Chg.of_grown hg (fun k => some k = blk ao)).trans ⟨h2.os, h2.tape, h2.output, h2.size, fun k hk hn => h2.block k hk hn⟩).grown fun k hk e => by
    have := hv.from_base k e.symm
    omega
theorem fr_gr {wr W : World} {B b g n : Nat} {k : Int} {f : Nat → Nat} {e : TypeId} {ao : Option Addr} {m cap : Nat} {l : List Value} (h : Fr wr b g n k f) (h1 : b < B) (h3 : g < B) (hv : Vo wr B e ao m cap l) (h2 : wr.grownBy W (blk ao)) : Fr W b g n k f :=
  h.chg (S := fun q => some q = blk ao) ⟨h2.os, h2.tape, h2.output, h2.size, fun k hk hn => h2.block k hk hn⟩ (fun e => by have := hv.from_base _ e.symm; omega) (fun e => by have := hv.from_base _ e.symm; omega)
theorem next_pick {c : List Bool} {i : Nat} (hi : c[i]? = some true) {t e : Int} (h : NextE c (cnt (c.take i) : Nat) t e) : t = i ∧ e = 0 := by
  refine h.one ?_
  unfold NextE
  rw [if_neg (by omega)]
  have h1 := cnt_take hi
  have h2 := cnt_take_le c (i + 1)
  simp only [if_true] at h1
  refine Or.inr ⟨by omega, rfl, i, rfl, hi, ?_⟩
  rw [Int.toNat_natCast, Nat.mod_eq_of_lt (by omega)]
theorem fair_le {f f' : Nat → Nat} {n : Nat} {K : Int} {l : List Bool} {p t e : Int} (h : FairE f n K l p t e f') {c : Nat} (hc : ∀ i, i < n → f i ≤ c) : ∀ i, i < n → f' i ≤ c + 1 := by
  intro i hi
  have := hc i hi
  rcases h with ⟨-, -, -, rfl⟩ | ⟨-, -, -, -, -, rfl⟩ | ⟨-, -, -, -, j, -, -, rfl⟩
  · omega
  · exact Nat.zero_le _
  · unfold pv; split <;> omega

end Go.Proofs.Ytfhbnkfpbjloeaa
