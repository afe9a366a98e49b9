/-
  maps.EqualFunc over two maps of files; Same.
-/
import Derived.Test.YthkbakaodbceiaaI1
namespace Go.Proofs.Ythkbakaodbceiaa
open Go.RowKit Go.Maps Go.WideMaps
set_option linter.unusedVariables false

/-- Two elements held against each other by what stands there. -/
def eqdX (q : Nat → Nat → Bool) : DataW Unit → DataW Unit → Bool
  | .lit (.int _ x), .lit (.int _ y) => q x.toNat y.toNat
  | _, _ => false

theorem zero91 (w : World) : (zeroValue 91).run Try.prog w = .ok (.pointer none) w := by kernel_rfl
theorem elem_val {v : Value} {ps : List MemPlace} {g : Nat} (h : fileElem v = some (.lit (.int .i64 g), ps)) : v = .pointer (some ⟨g, 0, none⟩) := by
  rcases fileElem_inv h with ⟨_, e⟩ | ⟨g', rfl, e⟩
  · cases e
  · have : (g : Int) = (g' : Int) := by simpa using e
    obtain rfl : g = g' := by omega
    rfl

section
variable {w w' : World} {m1 m2 n1 n2 : Nat} {D1 D2 : DataW Unit}

theorem at_of_has (hz : Nz D2) {s : ByteArray} (h : Maps.has D2 (.string s.data.toList) = true) : ∃ g : Nat, at? D2 s (some g) ∧ ∀ z, D2.atKey (.string s.data.toList) z = .lit (.int .i64 g) := by
  obtain ⟨g, hg⟩ := hz (.string s.data.toList) (D2.atKey (.string s.data.toList) .nil) (fun zd => atKey_indep h zd .nil)
  exact ⟨g, hg, fun z => (atKey_indep h z .nil).trans hg⟩

set_option maxRecDepth 100000 in
set_option maxHeartbeats 4000000 in
theorem eqf_any (h1 : Mp w m1 n1 D1) (h2 : Mp w m2 n2 D2) (hz1 : Nz D1) (hz2 : Nz D2) (q : Nat → Nat → Bool)
    (heq : ∀ s g1 g2, at? D1 s (some g1) → at? D2 s (some g2) → ∀ W, w.grownBy W none → Calls Try.prog 60 #[.pointer (some ⟨g1, 0, none⟩), .pointer (some ⟨g2, 0, none⟩)] W fun e w' => e = .returned (.bool (q g1 g2)) ∧ W.grownBy w' none) :
    Calls Try.prog 59 #[.map (some m1), .map (some m2), .func (.func 60) #[] #[]] w fun e w' => e = .returned (.bool (Lib.equalFuncD (eqdX q) D1 D2)) ∧ w.grownBy w' none := by
  have l1 := fun ty => h1.len (t := 81) Try.underlying81 ty
  have l2 := fun ty => h2.len (t := 81) Try.underlying81 ty
  obtain ⟨es1, rfl, hap, hkeys⟩ := h1.entries (string_keyed Try.underlying9)
  have hb2 := h2.lt
  have HQ : Hid _ := heq
  have HZ1 : Hid _ := hz1
  have HZ2 : Hid _ := hz2
  clear heq hz1 hz2
  generalize hres : Lib.equalFuncD (eqdX q) (.map es1) D2 = res
  have RES : Hid (Lib.equalFuncD (eqdX q) (.map es1) D2 = res) := hres
  clear hres
  by_cases hsz : Maps.size (.map es1 : DataW Unit) = Maps.size D2
  · go_enter Try.func59, Try.ntmps59
    go_wp2_with (first
      | (at_range; refine wpList_range_own _ rfl _ 81 rfl 9 91 (string_keyed Try.underlying9) Try.underlying81 fileElem m1 n1 _ rfl h1 ?_; intro w0 hrg0 hg0 hs0)
      | go_in)
    go_frame
    go_loopw [7, 8, 9, 10] (fun _ _ _ _ wr => ∃ (left : Lit → Bool) (cnt : Nat), wr.ranges Try.prog 9 fileElem m1 w.heap.size n1 (.map es1) left cnt ∧ Mp wr m2 n2 D2 ∧ w.grownBy wr none ∧ Hid (GoodAt (eqdX q) es1 D2 left))
      (fun _ _ _ _ wr => wr.rangeLeft m1 w.heap.size)
    case atStart => exact ⟨_, _, hrg0, h2.kept hg0 (by simp), hg0, good_start hkeys D2⟩
    case round =>
      obtain ⟨left, cnt, hrg, h2r, hgw, G⟩ := hrel
      go_wp2_with (first
        | (at_next; refine wpList_next_ranges _ rfl _ rfl 9 (string_keyed Try.underlying9) fileElem Value.string (fun g : Option Nat => Value.pointer (g.map fun g => ⟨g, 0, none⟩)) (fun key _ hk => Maps.keyOf_string_inv Try.underlying9 hk) (fun v y hv => elem_inv hv) m1 w.heap.size n1 _ _ _ rfl hrg ?_ ?_)
        | go_in)
      · intro _ hl0
        go_wp2
        go_ret
        exact ⟨by rw [← RES.out, all_good G.out hl0 hsz]; rfl, hgw⟩
      · intro x c kl yd yp w1 cnt1 hkey hlk hv hat hrg1 hlt hg1 hs1 hen
        obtain ⟨rfl, hxs⟩ := key_inv hkey
        obtain ⟨g, hy, hat0, hkl⟩ := came_in hap hkeys hat HZ1.out
        obtain rfl := elem_some hv hy
        rw [Option.map_some] at *
        subst hy
        have hgw1 : w.grownBy w1 none := hgw.andThen hg1 (fun j hj => by cases hj; exact Or.inl (Nat.le_refl _))
        have h2w1 : Mp w1 m2 n2 D2 := h2r.kept hg1 (fun e => by have := Option.some.inj e; omega)
        have HAT : Hid _ := hat
        have HV : Hid _ := hv
        clear hat hv hs1
        cases hh : Maps.has D2 (.string x.data.toList)
        · have hbad : Lib.goodD (eqdX q) D2 (.string x.data.toList, .lit (.int .i64 g)) = false := by unfold Lib.goodD; rw [hh]; rfl
          go_wp2_with (first
            | (at_lookup; refine wpList_lookup_own_ok _ rfl _ _ 81 rfl 9 91 (string_keyed Try.underlying9) Try.underlying81 fileElem (zero91 _) .nil [] rfl m2 n2 D2 rfl h2w1 _ (.string x.data.toList) rfl hkey ?_; intro v2 ps2 hv2; rw [hh]; go_frame)
            | go_in)
          go_ret
          exact ⟨by rw [← RES.out, bad_false hap hkeys HAT.out hbad]; rfl, hgw1⟩
        · obtain ⟨g2, hat2, hk2⟩ := at_of_has HZ2.out hh
          have hc := HQ.out x g g2 hat0 hat2 w1 hgw1
          have hgd : Hid (Lib.goodD (eqdX q) D2 (.string x.data.toList, .lit (.int .i64 g)) = q g g2) := by
            show Lib.goodD (eqdX q) D2 (.string x.data.toList, .lit (.int .i64 g)) = q g g2
            unfold Lib.goodD
            rw [hh, hk2]
            simp [eqdX]
          have HK2 : Hid _ := hk2
          clear hk2
          cases hq : q g g2
          · rw [hq] at hc hgd
            go_wp2_with (first
              | (at_lookup; refine wpList_lookup_own_ok _ rfl _ _ 81 rfl 9 91 (string_keyed Try.underlying9) Try.underlying81 fileElem (zero91 _) .nil [] rfl m2 n2 D2 rfl h2w1 _ (.string x.data.toList) rfl hkey ?_; intro v2 ps2 hv2; rw [HK2.out] at hv2; obtain rfl := elem_val hv2; rw [hh]; go_frame)
              | (go_at_call 60; refine hc.mono ?_; rintro e w2 ⟨rfl, hg2⟩)
              | go_in)
            go_ret
            exact ⟨by rw [← RES.out, bad_false hap hkeys HAT.out hgd.out]; rfl, hgw1.andThen hg2 (fun j hj => by cases hj)⟩
          · rw [hq] at hc hgd
            go_wp2_with (first
              | (at_lookup; refine wpList_lookup_own_ok _ rfl _ _ 81 rfl 9 91 (string_keyed Try.underlying9) Try.underlying81 fileElem (zero91 _) .nil [] rfl m2 n2 D2 rfl h2w1 _ (.string x.data.toList) rfl hkey ?_; intro v2 ps2 hv2; rw [HK2.out] at hv2; obtain rfl := elem_val hv2; rw [hh]; go_frame)
              | (go_at_call 60; refine hc.mono ?_; rintro e w2 ⟨rfl, hg2⟩)
              | go_in)
            have hrg2 := hrg1.kept hg2 (by simp) (by simp)
            go_roundw
            case rel => exact ⟨_, cnt1, hrg2, h2w1.kept hg2 (by simp), hgw1.andThen hg2 (fun j hj => by cases hj), good_step hap hkeys HAT.out G.out hgd.out⟩
            case measure => rw [hrg2.left_eq, hrg.left_eq]; exact hlt
  · have hne : ¬ ((Maps.size (.map es1 : DataW Unit) : Int) = (Maps.size D2 : Int)) := fun e => hsz (by exact_mod_cast e)
    go_enter Try.func59, Try.ntmps59
    go_wp2
    go_ret
    exact ⟨by rw [← RES.out, sizes_false hsz]; rfl, grown_refl _ _⟩
end
end Go.Proofs.Ythkbakaodbceiaa
