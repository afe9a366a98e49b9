/-
  Same of two disks that are there; a copy is the same.
-/
import Derived.Test.YthkbakaodbceiaaI2
namespace Go.Proofs.Ythkbakaodbceiaa
open Go.RowKit Go.Maps Go.WideMaps
set_option linter.unusedVariables false

theorem nodup_le {α : Type} [DecidableEq α] : ∀ (l k : List α), l.Pairwise (· ≠ ·) → (∀ x ∈ l, x ∈ k) → l.length ≤ k.length
  | [], k, _, _ => Nat.zero_le _
  | x :: l, k, h, hk => by
    have hx : x ∈ k := hk x (by simp)
    have h1 := List.pairwise_cons.1 h
    have := nodup_le l (k.erase x) h1.2 (fun y hy => (List.mem_erase_of_ne (fun e => h1.1 y hy e.symm)).2 (hk y (by simp [hy])))
    rw [List.length_erase_of_mem hx] at this
    have hpos : 0 < k.length := List.length_pos_of_mem hx
    simp
    omega

theorem has_mem {es : List (Lit × DataW Unit)} {k : Lit} (h : Maps.has (.map es) k = true) : k ∈ es.map (·.1) := by
  rw [has_eq] at h
  obtain ⟨p, hp, hs⟩ := List.any_eq_true.1 h
  rw [← WideAt.sameKey_eq hs]
  exact List.mem_map.2 ⟨p, hp, rfl⟩
theorem mem_has {es : List (Lit × DataW Unit)} (hkeys : ∀ p ∈ es, WideAt.IsKeyLit p.1) {k : Lit} (h : k ∈ es.map (·.1)) : Maps.has (.map es) k = true := by
  obtain ⟨p, hp, rfl⟩ := List.mem_map.1 h
  exact List.any_eq_true.2 ⟨p, hp, WideAt.sameKey_self (hkeys p hp)⟩
theorem size_of_has {es es' : List (Lit × DataW Unit)} (hap : es.Pairwise (fun p q => p.1 ≠ q.1)) (hap' : es'.Pairwise (fun p q => p.1 ≠ q.1)) (hk : ∀ p ∈ es, WideAt.IsKeyLit p.1) (hk' : ∀ p ∈ es', WideAt.IsKeyLit p.1) (h : ∀ k, Maps.has (.map es') k = Maps.has (.map es) k) : Maps.size (.map es : DataW Unit) = Maps.size (.map es' : DataW Unit) := by
  classical
  rw [size_eq, size_eq]
  have h1 := nodup_le (es.map (·.1)) (es'.map (·.1)) (List.pairwise_map.2 hap) (fun x hx => has_mem ((h x).trans (mem_has hk hx)))
  have h2 := nodup_le (es'.map (·.1)) (es.map (·.1)) (List.pairwise_map.2 hap') (fun x hx => has_mem ((h x).symm.trans (mem_has hk' hx)))
  simp at h1 h2
  omega

section
variable {w w' : World} {b m b' m' : Nat} {fs fs' : List (Int × Int)} {st st' : Int} {n n' : Nat} {D D' : DataW Unit}

set_option maxRecDepth 100000 in
set_option maxHeartbeats 2000000 in
theorem same_ds (h : Ds w b m fs st n D) (h' : Ds w b' m' fs' st' n' D') (hz : Nz D) (hz' : Nz D') (q : Nat → Nat → Bool)
    (heq : ∀ s g1 g2, at? D s (some g1) → at? D' s (some g2) → ∀ W, w.grownBy W none → Calls Try.prog 60 #[.pointer (some ⟨g1, 0, none⟩), .pointer (some ⟨g2, 0, none⟩)] W fun e w' => e = .returned (.bool (q g1 g2)) ∧ W.grownBy w' none) :
    Calls Try.prog 36 #[.pointer (some ⟨b, 0, none⟩), .pointer (some ⟨b', 0, none⟩)] w fun e w' => e = .returned (.bool (Lib.equalFuncD (eqdX q) D D')) ∧ w.grownBy w' none := by
  obtain ⟨fo, fn, fc, hd⟩ := h.dk
  obtain ⟨fo', fn', fc', hd'⟩ := h'.dk
  have k0 := hd.hd.c0
  have k0' := hd'.hd.c0
  have hE : ∀ W, w.grownBy W none → Calls Try.prog 59 #[.map (some m), .map (some m'), .func (.func 60) #[] #[]] W fun e w' => e = .returned (.bool (Lib.equalFuncD (eqdX q) D D')) ∧ w.grownBy w' none := fun W hW =>
    (eqf_any (hd.mp.kept hW (by simp)) (hd'.mp.kept hW (by simp)) hz hz' q (fun s g1 g2 h1 h2 V hV => heq s g1 g2 h1 h2 V (grown_trans hW hV (by simp)))).mono fun e w' ⟨he, hg⟩ => ⟨he, grown_trans hW hg (by simp)⟩
  generalize Lib.equalFuncD (eqdX q) D D' = res at *
  clear heq hd hd' h h'
  go_enter Try.func36, Try.ntmps36
  go_wp2_with fail
  refine (made_yes _ _ _ k0).mono ?_
  rintro e w1 ⟨rfl, rfl⟩
  go_wp2_with fail
  refine (made_yes _ _ _ k0').mono ?_
  rintro e w1 ⟨rfl, rfl⟩
  go_wp2_with fail
  go_region_with ((go_at_call 59; refine (hE _ (grown_drew _ none)).mono ?_; rintro e w2 ⟨rfl, hg2⟩))
  all_goals
    go_wp2
    go_ret
    exact ⟨rfl, hg2⟩

theorem equal_true {es es' : List (Lit × DataW Unit)} (hap : es.Pairwise (fun p q => p.1 ≠ q.1)) (hk : ∀ p ∈ es, WideAt.IsKeyLit p.1) (hz : Nz (.map es)) (hz' : Nz (.map es')) (hs : Maps.size (.map es : DataW Unit) = Maps.size (.map es' : DataW Unit)) (hh : ∀ k, Maps.has (.map es') k = Maps.has (.map es : DataW Unit) k) : Lib.equalFuncD (eqdX fun _ _ => true) (.map es) (.map es') = true := by
  unfold Lib.equalFuncD
  rw [decide_eq_true hs, Bool.true_and]
  refine List.all_eq_true.2 fun p hp => ?_
  have h1 : Maps.has (.map es : DataW Unit) p.1 = true := mem_has hk (List.mem_map.2 ⟨p, hp, rfl⟩)
  have h2 : Maps.has (.map es' : DataW Unit) p.1 = true := (hh _).trans h1
  obtain ⟨g, hg⟩ := hz p.1 p.2 (fun zd => WideAt.atKey_mem zd (hk p hp) hap hp)
  obtain ⟨g', hg'⟩ := hz' p.1 _ (fun zd => atKey_indep h2 zd .nil)
  unfold Lib.goodD
  rw [h2, hg', hg]
  rfl

/-- A copy is the same. -/
theorem same_copy {X : Nat → Fm} {B : Nat → List UInt8} {w0 : World} {base : Nat} (h : Ds w b m fs st n D) (hB : Fb w D X B) (h' : Ds w b' m' fs' st' n' D') (hC : Cp w0 w m' base D X B (fun _ => false) 0 n' D') :
    Calls Try.prog 36 #[.pointer (some ⟨b, 0, none⟩), .pointer (some ⟨b', 0, none⟩)] w fun e w' => e = .returned (.bool true) ∧ w.grownBy w' none := by
  have heq : ∀ s g1 g2, at? D s (some g1) → at? D' s (some g2) → ∀ W, w.grownBy W none → Calls Try.prog 60 #[.pointer (some ⟨g1, 0, none⟩), .pointer (some ⟨g2, 0, none⟩)] W fun e w' => e = .returned (.bool true) ∧ W.grownBy w' none := by
    intro s g1 g2 h1 h2 W hW
    obtain ⟨g', bo', bc', k1, k2, k3, k4⟩ := hC.fl s g1 h1 rfl
    obtain rfl : g' = g2 := by simpa using at_one k1 h2
    have hc := Chg.of_grown hW (fun _ => False)
    have := fsame_any W g1 g' _ _ _ _ _ _ _ _ _ _ _ _ _ _ ((hB.fl s g1 h1).chg hc (fun e => e)) (k3.chg hc (fun e => e)) ((hB.ow s g1 h1).shows.grown hW) (k4.shows.grown hW)
    simpa [sameM] using this
  obtain ⟨es, rfl, hap, hk⟩ := h.mp.entries (string_keyed Try.underlying9)
  obtain ⟨es', rfl, hap', hk'⟩ := h'.mp.entries (string_keyed Try.underlying9)
  have hh : ∀ k, Maps.has (.map es' : DataW Unit) k = Maps.has (.map es : DataW Unit) k := fun k => by rw [hC.has]; simp
  have := same_ds h h' hB.nz hC.nz (fun _ _ => true) heq
  rwa [equal_true hap hk hB.nz hC.nz (size_of_has hap hap' hk hk' hh) hh] at this
end
end Go.Proofs.Ythkbakaodbceiaa
