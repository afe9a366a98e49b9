/-
  Turn with the law's function.
-/
import Derived.Test.YtaijgfblceakaaaC2
namespace Go.Proofs.Ytaijgfblceakaaa
open Go.RowKit
set_option linter.unusedVariables false

/-- What the law's function has captured: a truth, the list that is wanted, what is put behind it and where, and the row that it makes. -/
structure Cs (w : World) (zg zw za zi zo : Nat) (wo : Option Addr) (n wc : Nat) (l : List Int) (ao : Option Addr) (an ac : Nat) (A : List Int) (i : Nat) (uo : Option Addr) (un uc : Nat) : Prop where
  g : Bx w zg 4 (.bool true)
  w' : Bx w zw 22 (.slice wo n wc)
  wl : Vs w wo n wc (l.map iv)
  a : Bx w za 22 (.slice ao an ac)
  al : Vs w ao an ac (A.map iv)
  i' : Bx w zi 3 (.int .i64 i)
  o : Bx w zo 22 (.slice uo un uc)
  oa : zo ≠ za
theorem Cs.grown {w w2 : World} {zg zw za zi zo : Nat} {wo : Option Addr} {n wc : Nat} {l : List Int} {ao : Option Addr} {an ac : Nat} {A : List Int} {i : Nat} {uo : Option Addr} {un uc : Nat} (h : Cs w zg zw za zi zo wo n wc l ao an ac A i uo un uc) (hg : w.grownBy w2 none) : Cs w2 zg zw za zi zo wo n wc l ao an ac A i uo un uc :=
  ⟨h.g.grown hg, h.w'.grown hg, h.wl.grown hg, h.a.grown hg, h.al.grown hg, h.i'.grown hg, h.o.grown hg, h.oa⟩

set_option maxRecDepth 100000 in
set_option maxHeartbeats 4000000 in
theorem clo30_any (w : World) (so : Option Addr) (n sc : Nat) (l : List Int) (hs : Vs w so n sc (l.map iv)) (hn : n ≤ 200) (zd zg zw za zi zo : Nat) (hzd : Bx w zd 46 (.func (.func 17) #[] #[.pointer (some ⟨zg, 0, none⟩), .pointer (some ⟨zw, 0, none⟩), .pointer (some ⟨za, 0, none⟩), .pointer (some ⟨zi, 0, none⟩), .pointer (some ⟨zo, 0, none⟩)]))
    (wo : Option Addr) (wc : Nat) (ao : Option Addr) (an ac : Nat) (A : List Int) (i : Nat) (uo : Option Addr) (un uc : Nat) (hC : Cs w zg zw za zi zo wo n wc l ao an ac A i uo un uc) (y : Int) (hy : A[i]? = some y) :
    Calls Try.prog 30 #[.slice so n sc, .pointer (some ⟨zd, 0, none⟩)] w fun e w' =>
      ∃ g2 ro rc, e = .returned (.slice (some ⟨g2, 0, none⟩) (n + 1) (n + 1)) ∧ Ro w' g2 2 ((l ++ [y]).map iv) ∧ Vo w' w.heap.size 2 ro (n + 1) rc ((l ++ [y]).map iv) ∧ (∀ a, ro = some a → a.block < g2) ∧ Bx w' zo 22 (.slice ro (n + 1) rc) ∧ Bx w' zg 4 (.bool true) ∧ Chg w w' (fun k => k = zg ∨ k = zo) ∧ w.heap.size ≤ g2 := by
  have hl : l.length = n := by simpa using hs.len
  have hgd : w.grownBy w.drew none := grown_drewN w 1 none
  have hd0 := hzd.at
  have hd1 := (hzd.grown hgd).at
  have h1 := copied_any w.drew so n sc l (hs.grown hgd) (by omega)
  have hzdl := hzd.lt
  have hzgl := hC.g.lt
  have hzol := hC.o.lt
  have hdg : ¬ zd = zg := fun e => by subst e; have h1 := hzd.cell; rw [hC.g.cell] at h1; cases h1
  have hdo : ¬ zd = zo := fun e => by subst e; have h1 := hzd.cell; rw [hC.o.cell] at h1; cases h1
  go_enter Try.func30, Try.ntmps30
  go_wp2_with fail
  go_region_held3 (fun w' => w'.cell? ⟨zd, 0, none⟩ = some (.func (.func 17) #[] #[.pointer (some ⟨zg, 0, none⟩), .pointer (some ⟨zw, 0, none⟩), .pointer (some ⟨za, 0, none⟩), .pointer (some ⟨zi, 0, none⟩), .pointer (some ⟨zo, 0, none⟩)]))
    (first | exact hd0 | exact hd1 | exact hd4 | exact hd5 | exact hd6)
    ((first
      | (go_at_call 17; refine h17.mono ?_; rintro e w5 ⟨ro, rc, rfl, hV5, ho5, hg5, hc5⟩
         have hd5 := hc5.cell hd4 (by intro e; rcases e with e | e | e; exact hdg e; exact hdo e; have h9 : zd = gc := e; omega)
         have h25 := copied_any w5 ro (n + 1) rc (l ++ [y]) hV5.shows (by omega))
      | (have h25' := h25; go_at_call 25; refine h25.mono ?_; rintro e w6 ⟨g6, rfl, hr6, hg6, hs6⟩; have hd6 := hg6.cell hd5 (by simp))
      | (go_at_call 25; refine h1.mono ?_; rintro e w4 ⟨gc, rfl, hr4, hg4, hs4⟩
         have hs4' : w.heap.size ≤ gc := hs4
         have hd4 := hg4.cell hd1 (by simp)
         have hC4 := (hC.grown hgd).grown hg4
         have h17 := clo17_any w4 gc n l hr4 hl hn zg zw za zi zo hC4.g wo wc hC4.w' hC4.wl ao an ac A hC4.a hC4.al i hC4.i' y hy uo un uc hC4.o hC4.oa)))
  have hG4 : w.grownBy w4 none := grown_trans hgd hg4 (by simp)
  have hz4 := hG4.size
  have hCh : Chg w w6 (fun k => k = zg ∨ k = zo) := (((Chg.of_grown hG4 _).trans hc5).trans (Chg.of_grown hg6 _)).mono (fun k hk e => by rcases e with e | e | e; exact Or.inl e; exact Or.inr e; have h9 : k = gc := e; omega)
  have hlt : ∀ a, ro = some a → a.block < g6 := fun a e => by have h5 := (hV5.from_base a.block (by rw [e]; rfl)).2; omega
  have hV6 := (hV5.grown hg6).rebase hz4
  have ho6 := ho5.grown hg6
  have hg66 := hg5.grown hg6
  have hsz : w.heap.size ≤ g6 := by have := hc5.size; omega
  clear h1 h17 h25 hd0 hd1 hd4 hd5 hd6
  go_wp2
  go_ret
  exact ⟨g6, ro, rc, rfl, hr6, hV6, hlt, ho6, hg66, hCh, hsz⟩
end Go.Proofs.Ytaijgfblceakaaa
