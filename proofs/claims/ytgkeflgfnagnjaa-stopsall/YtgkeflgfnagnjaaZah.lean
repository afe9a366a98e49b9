import Derived.Test.YtgkeflgfnagnjaaHx
import Derived.Deep.QuietTactic
import Derived.BigQuiet
import Derived.Deep.AppendLies
import Derived.Deep.DeepAppendRoom
import Derived.Test.YtgkeflgfnagnjaaZaf
import Derived.Test.YtgkeflgfnagnjaaZac
/-
  bytes.Equal; two files held against each other.
-/
namespace Go.Proofs.Ytgkeflgfnagnjaa
open Go.RowKit
set_option linter.unusedVariables false
set_option maxRecDepth 100000
set_option linter.unusedSectionVars false
variable [FO : Inhabited (Nat → Prop)]

set_option maxHeartbeats 400000 in
theorem equal_any (w : World) (ao bo : Option Addr) (n m c d : Nat) (l k : List UInt8) (ha : Bs w ao n c l) (hb : Bs w bo m d k) :
    Calls Try.prog 87 #[.slice ao n c, .slice bo m d] w fun e w' => e = .returned (.bool (l == k)) ∧ w' = w := by
  have h1 := run_string_bs (P := Try.prog) w 56 9 5 Try.underlying56 Try.underlying5 Try.underlying9 ha
  have h2 := run_string_bs (P := Try.prog) w 56 9 5 Try.underlying56 Try.underlying5 Try.underlying9 hb
  go_enter Try.func87, Try.ntmps87
  go_wp2
  go_ret
  exact ⟨rfl, rfl⟩
theorem ret_bool {a b : Bool} (h : a = b) : Ending.returned (.bool a) = .returned (.bool b) := by rw [h]
/-- Are two files the same? -/
def sameM (th th' nl nl' : Bool) (la la' : Int) (l k : List UInt8) : Bool := (th == th') && ((nl == nl') && (decide (la = la') && (l == k)))
set_option maxRecDepth 100000 in
set_option maxHeartbeats 2000000 in
theorem fsame_any (w : World) (g g' : Nat) (bo bo' : Option Addr) (bn bc bn' bc' : Nat) (la la' : Int) (th th' nl nl' : Bool) (l k : List UInt8) (h : Fl w g bo bn bc la th nl) (h' : Fl w g' bo' bn' bc' la' th' nl') (hb : Bs w bo bn bc l) (hb' : Bs w bo' bn' bc' k) :
    Calls Try.prog 67 #[.pointer (some ⟨g, 0, none⟩), .pointer (some ⟨g', 0, none⟩)] w fun e w' => e = .returned (.bool (sameM th th' nl nl' la la' l k)) ∧ w.grownBy w' none := by
  have hK : ∀ W, w.grownBy W none → Calls Try.prog 87 #[.slice bo bn bc, .slice bo' bn' bc'] W fun e w' => e = .returned (.bool (l == k)) ∧ w' = W := fun W hg => equal_any W _ _ _ _ _ _ _ _ (hb.grown hg) (hb'.grown hg)
  have hM : Hid (sameM th th' nl nl' la la' l k = ((th == th') && ((nl == nl') && (decide (la = la') && (l == k))))) := rfl
  generalize (l == k) = A at *
  have c0 := h.c0
  have c1 := h.c1
  have c2 := h.c2
  have c3 := h.c3
  have d0 := h'.c0
  have d1 := h'.c1
  have d2 := h'.c2
  have d3 := h'.c3
  clear h h' hb hb'
  by_cases e1 : th = th'
  · subst e1
    by_cases e2 : nl = nl'
    · subst e2
      by_cases e3 : la = la'
      · subst e3
        go_enter Try.func67, Try.ntmps67
        go_wp2_with fail
        go_quiet ((go_at_call 87; exact Calls.quiet_of_same (hK _ (grown_drewN _ _ none))))
        go_wp2
        go_ret
        exact ⟨ret_bool (by rw [hM.out]; simp), grown_drewN _ _ none⟩
      · have e4 : decide (la = la') = false := by simpa using e3
        have e5 : (la == la') = false := by simpa using e3
        go_enter Try.func67, Try.ntmps67
        go_wp2_with fail
        go_quiet (fail)
        go_wp2
        go_ret
        exact ⟨ret_bool (by rw [hM.out]; simp [e3]), grown_drewN _ _ none⟩
    · have e4 : (nl == nl') = false := by simpa using e2
      go_enter Try.func67, Try.ntmps67
      go_wp2_with fail
      go_quiet (fail)
      go_wp2
      go_ret
      exact ⟨ret_bool (by rw [hM.out]; simp [e2]), grown_drewN _ _ none⟩
  · have e4 : (th == th') = false := by simpa using e1
    go_enter Try.func67, Try.ntmps67
    go_wp2_with fail
    go_quiet (fail)
    go_wp2
    go_ret
    exact ⟨ret_bool (by rw [hM.out]; simp [e1]), grown_drewN _ _ none⟩
end Go.Proofs.Ytgkeflgfnagnjaa

/-
  maps.EqualFunc over two maps of files; Same.
-/
namespace Go.Proofs.Ytgkeflgfnagnjaa
open Go.RowKit Go.Maps Go.WideMaps
set_option linter.unusedVariables false
set_option linter.unusedSectionVars false
variable [FO : Inhabited (Nat → Prop)]

/-- Two elements held against each other by what stands there. -/
def eqdX (q : Nat → Nat → Bool) : DataW Unit → DataW Unit → Bool
  | .lit (.int _ x), .lit (.int _ y) => q x.toNat y.toNat
  | _, _ => false
theorem zero91 (w : World) : (zeroValue 106).run Try.prog w = .ok (.pointer none) w := by kernel_rfl
theorem elem_val {v : Value} {ps : List MemPlace} {g : Nat} (h : fileElem v = some (.lit (.int .i64 g), ps)) : v = .pointer (some ⟨g, 0, none⟩) := by
  rcases fileElem_inv h with ⟨_, e⟩ | ⟨g', rfl, e⟩
  · cases e
  · have : (g : Int) = (g' : Int) := by simpa using e
    obtain rfl : g = g' := by omega
    rfl
section
variable {w w' : World} {m1 m2 n1 n2 : Nat} {D1 D2 : DataW Unit}

theorem at_of_has (hz : Nz D2) {s : ByteArray} (h : Maps.has D2 (.string s.data.toList) = true) : ∃ g : Nat, at? D2 s (some g) ∧ ∀ z, D2.atKey (.string s.data.toList) z = .lit (.int .i64 g) := by
  obtain ⟨g, hg⟩ := hz (.string s.data.toList) (D2.atKey (.string s.data.toList) .nil) (fun zd => atKey_indep h zd .nil)
  exact ⟨g, hg, fun z => (atKey_indep h z .nil).trans hg⟩
set_option maxRecDepth 100000 in
set_option maxHeartbeats 4000000 in
theorem eqf_any (h1 : Mp w m1 n1 D1) (h2 : Mp w m2 n2 D2) (hz1 : Nz D1) (hz2 : Nz D2) (q : Nat → Nat → Bool)
    (heq : ∀ s g1 g2, at? D1 s (some g1) → at? D2 s (some g2) → ∀ W, w.grownBy W none → Calls Try.prog 67 #[.pointer (some ⟨g1, 0, none⟩), .pointer (some ⟨g2, 0, none⟩)] W fun e w' => e = .returned (.bool (q g1 g2)) ∧ W.grownBy w' none) :
    Calls Try.prog 66 #[.map (some m1), .map (some m2), .func (.func 67) #[] #[]] w fun e w' => e = .returned (.bool (Lib.equalFuncD (eqdX q) D1 D2)) ∧ w.grownBy w' none := by
  have l1 := fun ty => h1.len (t := 64) Try.underlying64 ty
  have l2 := fun ty => h2.len (t := 64) Try.underlying64 ty
  obtain ⟨es1, rfl, hap, hkeys⟩ := h1.entries (string_keyed Try.underlying9)
  have hb2 := h2.lt
  have HQ : Hid _ := heq
  have HZ1 : Hid _ := hz1
  have HZ2 : Hid _ := hz2
  clear heq hz1 hz2
  generalize hres : Lib.equalFuncD (eqdX q) (.map es1) D2 = res
  have RES : Hid (Lib.equalFuncD (eqdX q) (.map es1) D2 = res) := hres
  clear hres
  by_cases hsz : Maps.size (.map es1 : DataW Unit) = Maps.size D2
  · go_enter Try.func66, Try.ntmps66
    go_wp2_with (first
      | (at_range; refine wpList_range_own _ rfl _ 64 rfl 9 106 (string_keyed Try.underlying9) Try.underlying64 fileElem m1 n1 _ rfl h1 ?_; intro w0 hrg0 hg0 hs0)
      | go_in)
    go_frame
    go_loopw [7, 8, 9, 10] (fun _ _ _ _ wr => ∃ (left : Lit → Bool) (cnt : Nat), wr.ranges Try.prog 9 fileElem m1 w.heap.size n1 (.map es1) left cnt ∧ Mp wr m2 n2 D2 ∧ w.grownBy wr none ∧ Hid (GoodAt (eqdX q) es1 D2 left))
      (fun _ _ _ _ wr => wr.rangeLeft m1 w.heap.size)
    case atStart => exact ⟨_, _, hrg0, h2.kept hg0 (by simp), hg0, good_start hkeys D2⟩
    case round =>
      obtain ⟨left, cnt, hrg, h2r, hgw, G⟩ := hrel
      go_wp2_with (first
        | (at_next; refine wpList_next_ranges _ rfl _ rfl 9 (string_keyed Try.underlying9) fileElem Value.string (fun g : Option Nat => Value.pointer (g.map fun g => ⟨g, 0, none⟩)) (fun key _ hk => Maps.keyOf_string_inv Try.underlying9 hk) (fun v y hv => elem_inv hv) m1 w.heap.size n1 _ _ _ rfl hrg ?_ ?_)
        | go_in)
      · intro _ hl0
        go_wp2
        go_ret
        exact ⟨by rw [← RES.out, all_good G.out hl0 hsz]; rfl, hgw⟩
      · intro x c kl yd yp w1 cnt1 hkey hlk hv hat hrg1 hlt hg1 hs1 hen
        obtain ⟨rfl, hxs⟩ := key_inv hkey
        obtain ⟨g, hy, hat0, hkl⟩ := came_in hap hkeys hat HZ1.out
        obtain rfl := elem_some hv hy
        rw [Option.map_some] at *
        subst hy
        have hgw1 : w.grownBy w1 none := hgw.andThen hg1 (fun j hj => by cases hj; exact Or.inl (Nat.le_refl _))
        have h2w1 : Mp w1 m2 n2 D2 := h2r.kept hg1 (fun e => by have := Option.some.inj e; omega)
        have HAT : Hid _ := hat
        have HV : Hid _ := hv
        clear hat hv hs1
        cases hh : Maps.has D2 (.string x.data.toList)
        · have hbad : Lib.goodD (eqdX q) D2 (.string x.data.toList, .lit (.int .i64 g)) = false := by unfold Lib.goodD; rw [hh]; rfl
          go_wp2_with (first
            | (at_lookup; refine wpList_lookup_own_ok _ rfl _ _ 64 rfl 9 106 (string_keyed Try.underlying9) Try.underlying64 fileElem (zero91 _) .nil [] rfl m2 n2 D2 rfl h2w1 _ (.string x.data.toList) rfl hkey ?_; intro v2 ps2 hv2; rw [hh]; go_frame)
            | go_in)
          go_ret
          exact ⟨by rw [← RES.out, bad_false hap hkeys HAT.out hbad]; rfl, hgw1⟩
        · obtain ⟨g2, hat2, hk2⟩ := at_of_has HZ2.out hh
          have hc := HQ.out x g g2 hat0 hat2 w1 hgw1
          have hgd : Hid (Lib.goodD (eqdX q) D2 (.string x.data.toList, .lit (.int .i64 g)) = q g g2) := by
            show Lib.goodD (eqdX q) D2 (.string x.data.toList, .lit (.int .i64 g)) = q g g2
            unfold Lib.goodD
            rw [hh, hk2]
            simp [eqdX]
          have HK2 : Hid _ := hk2
          clear hk2
          cases hq : q g g2
          · rw [hq] at hc hgd
            go_wp2_with (first
              | (at_lookup; refine wpList_lookup_own_ok _ rfl _ _ 64 rfl 9 106 (string_keyed Try.underlying9) Try.underlying64 fileElem (zero91 _) .nil [] rfl m2 n2 D2 rfl h2w1 _ (.string x.data.toList) rfl hkey ?_; intro v2 ps2 hv2; rw [HK2.out] at hv2; obtain rfl := elem_val hv2; rw [hh]; go_frame)
              | (go_at_call 67; refine hc.mono ?_; rintro e w2 ⟨rfl, hg2⟩)
              | go_in)
            go_ret
            exact ⟨by rw [← RES.out, bad_false hap hkeys HAT.out hgd.out]; rfl, hgw1.andThen hg2 (fun j hj => by cases hj)⟩
          · rw [hq] at hc hgd
            go_wp2_with (first
              | (at_lookup; refine wpList_lookup_own_ok _ rfl _ _ 64 rfl 9 106 (string_keyed Try.underlying9) Try.underlying64 fileElem (zero91 _) .nil [] rfl m2 n2 D2 rfl h2w1 _ (.string x.data.toList) rfl hkey ?_; intro v2 ps2 hv2; rw [HK2.out] at hv2; obtain rfl := elem_val hv2; rw [hh]; go_frame)
              | (go_at_call 67; refine hc.mono ?_; rintro e w2 ⟨rfl, hg2⟩)
              | go_in)
            have hrg2 := hrg1.kept hg2 (by simp) (by simp)
            go_roundw
            case rel => exact ⟨_, cnt1, hrg2, h2w1.kept hg2 (by simp), hgw1.andThen hg2 (fun j hj => by cases hj), good_step hap hkeys HAT.out G.out hgd.out⟩
            case measure => rw [hrg2.left_eq, hrg.left_eq]; exact hlt
  · have hne : ¬ ((Maps.size (.map es1 : DataW Unit) : Int) = (Maps.size D2 : Int)) := fun e => hsz (by exact_mod_cast e)
    go_enter Try.func66, Try.ntmps66
    go_wp2
    go_ret
    exact ⟨by rw [← RES.out, sizes_false hsz]; rfl, grown_refl _ _⟩
end
end Go.Proofs.Ytgkeflgfnagnjaa

/-
  Same of two disks that are there; a copy is the same.
-/
namespace Go.Proofs.Ytgkeflgfnagnjaa
open Go.RowKit Go.Maps Go.WideMaps
set_option linter.unusedVariables false
set_option linter.unusedSectionVars false
variable [FO : Inhabited (Nat → Prop)]

theorem nodup_le {α : Type} [DecidableEq α] : ∀ (l k : List α), l.Pairwise (· ≠ ·) → (∀ x ∈ l, x ∈ k) → l.length ≤ k.length
  | [], k, _, _ => Nat.zero_le _
  | x :: l, k, h, hk => by
    have hx : x ∈ k := hk x (by simp)
    have h1 := List.pairwise_cons.1 h
    have := nodup_le l (k.erase x) h1.2 (fun y hy => (List.mem_erase_of_ne (fun e => h1.1 y hy e.symm)).2 (hk y (by simp [hy])))
    rw [List.length_erase_of_mem hx] at this
    have hpos : 0 < k.length := List.length_pos_of_mem hx
    simp
    omega
theorem has_mem {es : List (Lit × DataW Unit)} {k : Lit} (h : Maps.has (.map es) k = true) : k ∈ es.map (·.1) := by
  rw [has_eq] at h
  obtain ⟨p, hp, hs⟩ := List.any_eq_true.1 h
  rw [← WideAt.sameKey_eq hs]
  exact List.mem_map.2 ⟨p, hp, rfl⟩
theorem mem_has {es : List (Lit × DataW Unit)} (hkeys : ∀ p ∈ es, WideAt.IsKeyLit p.1) {k : Lit} (h : k ∈ es.map (·.1)) : Maps.has (.map es) k = true := by
  obtain ⟨p, hp, rfl⟩ := List.mem_map.1 h
  exact List.any_eq_true.2 ⟨p, hp, WideAt.sameKey_self (hkeys p hp)⟩
section
variable {w w' : World} {b m b' m' : Nat} {fs fs' : List (Int × Int)} {st st' : Int} {n n' : Nat} {D D' : DataW Unit}

set_option maxRecDepth 100000 in
set_option maxHeartbeats 2000000 in
theorem same_ds (h : Ds w b m fs st n D) (h' : Ds w b' m' fs' st' n' D') (hz : Nz D) (hz' : Nz D') (q : Nat → Nat → Bool)
    (heq : ∀ s g1 g2, at? D s (some g1) → at? D' s (some g2) → ∀ W, w.grownBy W none → Calls Try.prog 67 #[.pointer (some ⟨g1, 0, none⟩), .pointer (some ⟨g2, 0, none⟩)] W fun e w' => e = .returned (.bool (q g1 g2)) ∧ W.grownBy w' none) :
    Calls Try.prog 28 #[.pointer (some ⟨b, 0, none⟩), .pointer (some ⟨b', 0, none⟩)] w fun e w' => e = .returned (.bool (Lib.equalFuncD (eqdX q) D D')) ∧ w.grownBy w' none := by
  obtain ⟨fo, fn, fc, hd⟩ := h.dk
  obtain ⟨fo', fn', fc', hd'⟩ := h'.dk
  have k0 := hd.hd.c0
  have k0' := hd'.hd.c0
  have hE : ∀ W, w.grownBy W none → Calls Try.prog 66 #[.map (some m), .map (some m'), .func (.func 67) #[] #[]] W fun e w' => e = .returned (.bool (Lib.equalFuncD (eqdX q) D D')) ∧ w.grownBy w' none := fun W hW =>
    (eqf_any (hd.mp.kept hW (by simp)) (hd'.mp.kept hW (by simp)) hz hz' q (fun s g1 g2 h1 h2 V hV => heq s g1 g2 h1 h2 V (grown_trans hW hV (by simp)))).mono fun e w' ⟨he, hg⟩ => ⟨he, grown_trans hW hg (by simp)⟩
  generalize Lib.equalFuncD (eqdX q) D D' = res at *
  clear heq hd hd' h h'
  go_enter Try.func28, Try.ntmps28
  go_wp2_with fail
  refine (made_yes _ _ _ k0).mono ?_
  rintro e w1 ⟨rfl, rfl⟩
  go_wp2_with fail
  refine (made_yes _ _ _ k0').mono ?_
  rintro e w1 ⟨rfl, rfl⟩
  go_wp2_with fail
  go_region_with ((go_at_call 66; refine (hE _ (grown_drew _ none)).mono ?_; rintro e w2 ⟨rfl, hg2⟩))
  all_goals
    go_wp2
    go_ret
    exact ⟨rfl, hg2⟩
end
end Go.Proofs.Ytgkeflgfnagnjaa

/-
  Steps; Right.
-/
namespace Go.Proofs.Ytgkeflgfnagnjaa
open Go.RowKit
set_option linter.unusedVariables false
set_option linter.unusedSectionVars false
variable [FO : Inhabited (Nat → Prop)]

section
variable {w w' : World} {b m : Nat} {fs : List (Int × Int)} {st : Int} {n : Nat} {D : DataW Unit}

end

end Go.Proofs.Ytgkeflgfnagnjaa

/-
  Append of a file that is there, and where its row lies then.
-/
namespace Go.Proofs.Ytgkeflgfnagnjaa
open Go.RowKit
set_option linter.unusedVariables false
set_option linter.unusedSectionVars false
variable [FO : Inhabited (Nat → Prop)]

/-- A row lies where it lay, or is new. -/
def Lies (w : World) (ao ao' : Option Addr) : Prop := ∀ q, blk ao' = some q → blk ao = some q ∨ w.heap.size ≤ q
section
variable {P : Program}
/-- 'append(s, x...)' as one step of a region that draws its order; where the row lies. -/
theorem step_append_ls {ops : Array Oper} {o : Oper} {a : Act} {w : World} {K : Act → World → Prop} {Q : Exit → Act → World → Prop} {E : Prop} (hgd : o.guard = none) (s x : Operand) (t : TypeId)
    (ho : o.op = .call { callee := .builtin .append, args := #[s, x], argTypes := #[t, t] })
    (base : Nat) (e : TypeId) (ht : P.underlying t = some (.slice e)) (hinfo : (P.info? e).map (fun i => (i.zero, i.size, i.bytes)) = some (some (.int .u8 0), 1, 1))
    {ao : Option Addr} {n cap : Nat} {l : List UInt8} (hs : a.eval s = .slice ao n cap) (hown : Ow w base e ao n cap l)
    {xo : Option Addr} {m c : Nat} {k : List UInt8} (hx : a.eval x = .slice xo m c) (hb : Bs w xo m c k)
    (hsum : n + m ≤ 140737488355328) (hbase : base ≤ w.heap.size) (N : Nat) (lk : List UInt8) (hN : n + m = N) (hlk : l ++ k = lk)
    (h : ∀ ao' cap' w', Ow w' base e ao' N cap' lk → w.grownBy w' (blk ao) → Lies w ao ao' → K (a.put o.dst (.slice ao' N cap')) w') :
    if Region.wanted o (yielded ops a.tmps) = true then Oper.wp P o a w K Q else E := by
  have hw : Region.wanted o (yielded ops a.tmps) = true := by simp [Region.wanted, hgd]
  rw [if_pos hw]
  subst hN hlk
  obtain ⟨i, hi, hz, hz1, hz2⟩ := info_parts hinfo
  cases xo with
  | none =>
    obtain rfl := hb.nil rfl
    obtain rfl : m = 0 := Nat.le_zero.1 hb.room
    obtain rfl : k = [] := List.eq_nil_of_length_eq_zero hb.len
    have hrun := run_append_owned_none (P := P) (w := w) base t o.type e i 1 ht hi _ n _ hown.row
    unfold Oper.wp
    simp [execOp, ho, resolve, invoke, builtin, hs, hx, hrun, Result.andThen]
    have h2 : K (a.put o.dst (.slice ao n cap)) w := by
      have := h ao cap w (by simpa using hown) (grown_refl _ _) (fun q hq => .inl hq)
      simpa using this
    exact h2
  | some ad =>
    by_cases hm : m = 0
    · subst hm
      obtain rfl : k = [] := List.eq_nil_of_length_eq_zero hb.len
      cases ao with
      | none =>
        refine wp_append_own w s x t ho base e i (.int .u8 0) 1 1 ht hi hz hz1 hz2 rfl (by decide) _ n _ hs hown.row ad 0 c [] hx (by simp) (by simp) (by simp) (by unfold maxLen; omega) (by omega) hbase ?_
        intro v' w' hown' hgrow hiff
        obtain rfl : v' = .slice none 0 0 := by
          refine hiff.2 ⟨?_, rfl⟩
          rcases hown.row.2 with ⟨h4, _⟩ | ⟨g, c, cs, h4, _⟩
          · exact h4
          · cases h4
        have hn0 : n = 0 := by
          rcases hown.row.2 with ⟨h4, h5⟩ | ⟨g, c, cs, h4, _⟩
          · exact h5
          · cases h4
        subst hn0
        obtain rfl : l = [] := List.eq_nil_of_length_eq_zero hown.len
        have := h none 0 w' (Ow.nil _ _ _) hgrow (fun q hq => by cases hq)
        simpa using this
      | some g0 =>
        obtain ⟨g, rfl⟩ : ∃ g, g0 = ⟨g, 0, none⟩ := by
          rcases hown.row.2 with ⟨h4, _⟩ | ⟨g, c, cs, h4, _⟩
          · cases h4
          · cases h4; exact ⟨g, rfl⟩
        have hnc := hown.shows.room
        refine wp_append_own_spare w s x t ho base e i 1 ht hi hz1 g n cap _ hs hown.row ad 0 c [] hx (by simp) (by simp) (by simp) (by omega) ?_
        intro w' h2 h3
        exact h _ cap w' ⟨by simp [hown.len], by simpa using h2⟩ h3 (fun q hq => .inl hq)
    · refine wp_append_lies w s x t ho base e i (.int .u8 0) 1 1 ht hi hz hz1 hz2 rfl (by decide) _ n _ hs hown.row ad m c (k.map bv) hx (by simp [hb.len]) (hb.cells ad rfl) (bv_one k) (by omega) (by unfold maxLen; omega) (by omega) hbase _ rfl ?_
      intro g cap' w' hown' hgrow hl hlt
      rw [← List.map_append] at hown'
      refine h _ cap' w' ⟨by simp [hown.len, hb.len], hown'⟩ (by rw [blk_own] at hgrow; exact hgrow) (fun q hq => ?_)
      cases hq
      rw [blk_own] at hl
      rcases hl with e | e
      · exact .inl e
      · exact .inr (by simp only; omega)
end

theorem Bs.idle {w w' : World} {ao : Option Addr} {n cap : Nat} {l : List UInt8} (h : Bs w ao n cap l) (hn : n = 0) : Bs w' ao n cap l := by
  subst hn
  obtain rfl : l = [] := List.eq_nil_of_length_eq_zero h.len
  exact ⟨rfl, h.room, h.top, h.nil, fun a ha j u hu => by simp at hu⟩
section
variable {w w' : World} {b m : Nat} {fs : List (Int × Int)} {st : Int} {n : Nat} {D : DataW Unit}

set_option maxRecDepth 100000 in
set_option maxHeartbeats 2000000 in
theorem append_gen (s : ByteArray) (g base : Nat) (hbase : base ≤ w.heap.size) (h : Ds w b m fs st n D) (h0 : 0 ≤ st) (h1 : st < 4611686018427387904) (hs : nameB s = true) (hg : at? D s (some g)) {bo : Option Addr} {bn bc : Nat} {la : Int} {nl : Bool} (hf : Fl w g bo bn bc la true nl) (hne : g ≠ b) (l : List UInt8) (ho : Ow w base 5 bo bn bc l)
    (xo : Option Addr) (k c : Nat) (x : List UInt8) (hx : Bs w xo k c x) (hxp : ∀ a, xo = some a → k = 0 ∨ a.block ≠ b) (hbb : blk bo ≠ some b) (hbg : blk bo ≠ some g) (hsum : bn + k ≤ 16777216) (j : Nat) (hj : (stepR fs (k : Int)).1 = j) (hjk : j ≤ k) :
    Calls Try.prog 25 #[.pointer (some ⟨b, 0, none⟩), .string s, .slice xo k c] w fun e w' => e = .returned (.int .i64 (stepR fs (k : Int)).2) ∧ ∃ bo' bc', Fl w' g bo' (bn + j) bc' la true nl ∧ Ow w' base 5 bo' (bn + j) bc' (l ++ x.take j) ∧ Lies w bo bo' ∧ Ds w' b m fs.tail (st + 1) n D ∧ Chg w w' (fun k => k = b ∨ k = g ∨ blk bo = some k) := by
  have hfi := find_ds s g h hs hg hf
  have hst := step_ds (k : Int) h h0 h1
  rw [hj] at hst
  have k0 := hf.c0
  generalize (stepR fs (k : Int)).2 = cd at *
  have hlen := hx.len
  have hroom := hx.room
  have htop := hx.top
  unfold maxLen at htop
  have d1 : decide ((16777216 : Int) - (bn : Int) < (k : Int)) = false := by simp; omega
  clear hj h hs hg
  cases xo with
  | none =>
    obtain rfl := hx.nil rfl
    obtain rfl : k = 0 := by omega
    obtain rfl : j = 0 := by omega
    go_enter Try.func25, Try.ntmps25
    go_wp2_with fail
    refine hfi.mono ?_
    clear hfi
    rintro e w1 ⟨rfl, rfl⟩
    go_wp2_with fail
    refine hst.mono ?_
    clear hst
    rintro e w2 ⟨rfl, hD2, hc2⟩
    have hf2 := hf.chg hc2 hne
    have ho2 := ho.kept hc2.row (by cases hk : blk bo with | none => exact .inl rfl | some q => right; rw [hk] at hbb; exact hbb)
    have hx2 := (hx.kept hc2.row (fun a e => by cases e)).take 0 hjk
    have hs2 := hc2.size
    have hC2 := hc2
    clear k0 hx ho hf hc2
    have k0 := hf2.c0
    have f0 := hf2.fz 0
    go_wp2_with fail
    have hod := ho2.grown (grown_drew w2 none)
    have hxd := hx2.grown (grown_drew w2 none)
    have kd : w2.drew.cell? ⟨g, 0, none⟩ = some (.slice bo bn bc) := k0
    have hgl := hf2.lt
    have hbd : base ≤ w2.drew.heap.size := Nat.le_trans hbase hs2
    have hsd : w2.drew.heap.size = w2.heap.size := rfl
    go_region_law (refine step_append_ls (by rfl) (.tmp 39) (.tmp 42) 56 (by rfl) base 5 Try.underlying56 info5 (by rfl) hod (by rfl) hxd (by omega) hbd (bn + 0) (l ++ x.take 0) rfl rfl ?_; intro bo' bc' w3 ho3 hg3 hli; have hg3' : w2.drew.grownBy w3 (blk bo) := hg3; have q0 := hg3'.cell kd (fun e => hbg e.symm); have q1 : w3.frozen? ⟨g, 0, none⟩ = false := (World.frozen?_of_block (w := w2) (a := ⟨g, 0, none⟩) (hg3'.block g hgl (fun e => hbg e.symm))).trans f0)
    have hcd := chg_grown (grown_drew w2 none)
    have hc3 := chg_grown hg3'
    have hgm := Ne.symm (hD2.mp.row hf2.ty)
    have hD3 := (hD2.chg hcd (by simp) (by simp) (fun k e => by cases e)).chg hc3 hbb (fun e => (hD2.mp.row (ho2.ty m e)) rfl) (fun k e hk => (hod.ty k e).ne hk (by decide) rfl)
    have hf3 := (hf2.chg hcd (by simp)).chg hc3 hbg
    have hc4 := setCell_chg w3 g 0 (.slice bo' (bn + 0) bc')
    have hD4 := hD3.chg hc4 (fun e => hne e.symm) (fun e => hgm e) (fun k e hk => by subst e; exact hf3.ty.ne hk (by decide) rfl)
    have hf4 := hf3.bytes bo' (bn + 0) bc'
    have ho4 := ho3.kept hc4.row (by cases hq : blk bo' with | none => exact .inl rfl | some q => right; intro e; cases e; exact (ho3.ty g hq).ne hf3.ty (by decide) rfl)
    have hC := ((hC2.mono (fun k _ e => Or.inl e)).trans ((hcd.mono (fun k _ e => by cases e)).trans (hc3.mono (fun k _ e => Or.inr (Or.inr e))))).trans (hc4.mono (fun k _ e => Or.inr (Or.inl e)))
    have hL : Lies w1 bo bo' := fun q hq => (hli q hq).imp id (fun e => Nat.le_trans hs2 e)
    clear hcd hc3 hD3 hf3 hc4 ho3 hg3 hg3' hod hxd kd hx2 ho2 hf2 hD2 hC2 hli
    go_wp2
    go_ret
    exact ⟨rfl, bo', bc', hf4, ho4, hL, hD4, hC⟩
  | some xa =>
    have hxb := hxp _ rfl
    go_enter Try.func25, Try.ntmps25
    go_wp2_with fail
    refine hfi.mono ?_
    clear hfi
    rintro e w1 ⟨rfl, rfl⟩
    go_wp2_with fail
    refine hst.mono ?_
    clear hst
    rintro e w2 ⟨rfl, hD2, hc2⟩
    have hf2 := hf.chg hc2 hne
    have ho2 := ho.kept hc2.row (by cases hk : blk bo with | none => exact .inl rfl | some q => right; rw [hk] at hbb; exact hbb)
    have hx2 := (show Bs w2 _ _ _ x from by rcases hxb with h9 | h9; exact Bs.idle hx h9; exact hx.kept hc2.row (fun a e => by cases e; simpa using h9)).take j hjk
    have hs2 := hc2.size
    have hC2 := hc2
    clear k0 hx ho hf hc2
    have k0 := hf2.c0
    have f0 := hf2.fz 0
    have b1 : (0 : Int) ≤ (j : Int) := by omega
    have b2 : (j : Int) ≤ (c : Int) := by omega
    go_wp2_with fail
    have hod := ho2.grown (grown_drew w2 none)
    have hxd := hx2.grown (grown_drew w2 none)
    have kd : w2.drew.cell? ⟨g, 0, none⟩ = some (.slice bo bn bc) := k0
    have hgl := hf2.lt
    have hbd : base ≤ w2.drew.heap.size := Nat.le_trans hbase hs2
    have hsd : w2.drew.heap.size = w2.heap.size := rfl
    go_region_law (refine step_append_ls (by rfl) (.tmp 39) (.tmp 42) 56 (by rfl) base 5 Try.underlying56 info5 (by rfl) hod (by rfl) hxd (by omega) hbd (bn + j) (l ++ x.take j) rfl rfl ?_; intro bo' bc' w3 ho3 hg3 hli; have hg3' : w2.drew.grownBy w3 (blk bo) := hg3; have q0 := hg3'.cell kd (fun e => hbg e.symm); have q1 : w3.frozen? ⟨g, 0, none⟩ = false := (World.frozen?_of_block (w := w2) (a := ⟨g, 0, none⟩) (hg3'.block g hgl (fun e => hbg e.symm))).trans f0)
    have hcd := chg_grown (grown_drew w2 none)
    have hc3 := chg_grown hg3'
    have hgm := Ne.symm (hD2.mp.row hf2.ty)
    have hD3 := (hD2.chg hcd (by simp) (by simp) (fun k e => by cases e)).chg hc3 hbb (fun e => (hD2.mp.row (ho2.ty m e)) rfl) (fun k e hk => (hod.ty k e).ne hk (by decide) rfl)
    have hf3 := (hf2.chg hcd (by simp)).chg hc3 hbg
    have hc4 := setCell_chg w3 g 0 (.slice bo' (bn + j) bc')
    have hD4 := hD3.chg hc4 (fun e => hne e.symm) (fun e => hgm e) (fun k e hk => by subst e; exact hf3.ty.ne hk (by decide) rfl)
    have hf4 := hf3.bytes bo' (bn + j) bc'
    have ho4 := ho3.kept hc4.row (by cases hq : blk bo' with | none => exact .inl rfl | some q => right; intro e; cases e; exact (ho3.ty g hq).ne hf3.ty (by decide) rfl)
    have hC := ((hC2.mono (fun k _ e => Or.inl e)).trans ((hcd.mono (fun k _ e => by cases e)).trans (hc3.mono (fun k _ e => Or.inr (Or.inr e))))).trans (hc4.mono (fun k _ e => Or.inr (Or.inl e)))
    have hL : Lies w1 bo bo' := fun q hq => (hli q hq).imp id (fun e => Nat.le_trans hs2 e)
    clear hcd hc3 hD3 hf3 hc4 ho3 hg3 hg3' hod hxd kd hx2 ho2 hf2 hD2 hC2 hli
    go_wp2
    go_ret
    exact ⟨rfl, bo', bc', hf4, ho4, hL, hD4, hC⟩
end
end Go.Proofs.Ytgkeflgfnagnjaa

/-
  A disk on which some calls were made: what is kept.
-/
namespace Go.Proofs.Ytgkeflgfnagnjaa
open Go.RowKit Go.Maps Go.WideMaps
set_option linter.unusedVariables false
set_option linter.unusedSectionVars false
variable [FO : Inhabited (Nat → Prop)]

/-- A disk on which i calls were made, its memory from base on. -/
structure Iv (w : World) (b m base : Nat) (fs : List (Int × Int)) (st : Int) (n : Nat) (D : DataW Unit) (X : Nat → Fm) (B : Nat → List UInt8) (i : Nat) : Prop where
  ds : Ds w b m fs st n D
  st0 : 0 ≤ st
  st1 : st ≤ i
  fl : ∀ s g, at? D s (some g) → FlX w g (X g)
  ow : ∀ s g, at? D s (some g) → Ow w base 5 (X g).bo (X g).bn (X g).bc (B g)
  la : ∀ s g, at? D s (some g) → ∃ a : Nat, (X g).la = a ∧ a ≤ (X g).bn ∧ (X g).bn ≤ 3000 * i
  inj : ∀ s s' g, at? D s (some g) → at? D s' (some g) → s = s'
  ne : ∀ s g, at? D s (some g) → g ≠ b
  nb : ∀ s g, at? D s (some g) → blk (X g).bo ≠ some b
  lo : ∀ s g, at? D s (some g) → base ≤ g
  apart : ∀ s s' g g' q, at? D s (some g) → at? D s' (some g') → blk (X g).bo = some q → blk (X g').bo = some q → g = g'
  nz : Nz D
  sz : Maps.size D ≤ i
  sn : n ≤ i
  lb : base ≤ b
  lm : base ≤ m
  bs : base ≤ w.heap.size
  fsl : fs.length ≤ 100 + 100 * i
  nm : ∀ s g, at? D s (some g) → nameB s = true
theorem at_del {D : DataW Unit} {s x : ByteArray} {g : Nat} (h : at? (D.del (.string x.data.toList)) s (some g)) : at? D s (some g) := by
  unfold at? at *
  by_cases e : s = x
  · subst e
    rw [atKey_del_same] at h
    cases h
  · rwa [atKey_del_other] at h
    intro e2
    apply e
    have e1 : s.data.toList = x.data.toList := by simpa using e2
    cases s; cases x
    simp only [ByteArray.mk.injEq]
    exact Array.toList_inj.1 e1
theorem Nz.del {D : DataW Unit} (h : Nz D) (k : Lit) : Nz (D.del k) := by
  intro kl d hd
  by_cases e : kl = k
  · subst e
    have h1 := hd .nil
    have h2 := hd (.agg [])
    rw [atKey_del_same] at h1 h2
    rw [← h1] at h2
    cases h2
  · exact h kl d (fun zd => by rw [← hd zd, atKey_del_other e])
theorem mem_filter_at {es : List (Lit × DataW Unit)} {p : Lit × DataW Unit → Bool} (hap : es.Pairwise (fun p q => p.1 ≠ q.1)) (hk : ∀ p ∈ es, WideAt.IsKeyLit p.1) {k : Lit} {d : DataW Unit} (h : ∀ zd, (DataW.map (es.filter p)).atKey k zd = d) : ∀ zd, (DataW.map es).atKey k zd = d := by
  have hm := came_mem (hap.filter p) (fun q hq => hk q (List.mem_filter.1 hq).1) h
  have hm' := (List.mem_filter.1 hm).1
  exact fun zd => WideAt.atKey_mem zd (hk _ hm') hap hm'
theorem at_filter {es : List (Lit × DataW Unit)} {p : Lit × DataW Unit → Bool} (hap : es.Pairwise (fun p q => p.1 ≠ q.1)) (hk : ∀ p ∈ es, WideAt.IsKeyLit p.1) {s : ByteArray} {g : Nat} (h : at? (.map (es.filter p)) s (some g)) : at? (.map es) s (some g) := by
  have hh := at_has h
  exact mem_filter_at hap hk (fun zd => (atKey_indep hh zd .nil).trans h) .nil
section
variable {w w' : World} {b m base : Nat} {fs fs' : List (Int × Int)} {st : Int} {n i : Nat} {D : DataW Unit} {X : Nat → Fm} {B : Nat → List UInt8}

theorem Iv.fb (h : Iv w b m base fs st n D X B i) (hi : i ≤ 300) : Fb w D X B :=
  ⟨h.fl, fun s g hg => (h.ow s g hg).rebase (Nat.zero_le _), fun s g hg => by obtain ⟨a, _, _, h3⟩ := h.la s g hg; omega, h.nz⟩
/-- What is not told changes. -/
theorem Iv.grown (h : Iv w b m base fs st n D X B i) (hg : w.grownBy w' none) : Iv w' b m base fs st n D X B i := by
  have hc := Chg.of_grown hg (fun _ => False)
  exact ⟨h.ds.chg hc (fun e => e) (fun e => e) (fun k e => e.elim), h.st0, h.st1, fun s g hg => (h.fl s g hg).chg hc (fun e => e), fun s g hg => (h.ow s g hg).beside hc (fun _ _ e => e), h.la, h.inj, h.ne, h.nb, h.lo, h.apart, h.nz, h.sz, h.sn, h.lb, h.lm, Nat.le_trans h.bs hg.size, h.fsl, h.nm⟩
/-- A step that changes no file. -/
theorem Iv.step (h : Iv w b m base fs st n D X B i) (hd : Ds w' b m fs.tail (st + 1) n D) (hc : Chg w w' (fun k => k = b)) : Iv w' b m base fs.tail (st + 1) n D X B (i + 1) := by
  exact ⟨hd, by have := h.st0; omega, by have := h.st1; push_cast; omega, fun s g hg => (h.fl s g hg).chg hc (h.ne s g hg), fun s g hg => (h.ow s g hg).beside hc (fun q hq e => h.nb s g hg (by rw [hq, e])), fun s g hg => by obtain ⟨a, h1, h2, h3⟩ := h.la s g hg; exact ⟨a, h1, h2, by omega⟩, h.inj, h.ne, h.nb, h.lo, h.apart, h.nz, by have := h.sz; omega, by have := h.sn; omega, h.lb, h.lm, Nat.le_trans h.bs hc.size, by have := h.fsl; simp; omega, h.nm⟩
/-- A step that changes one file. -/
theorem Iv.file (h : Iv w b m base fs st n D X B i) {s0 : ByteArray} {g : Nat} (hg : at? D s0 (some g)) (hd : Ds w' b m fs.tail (st + 1) n D) (x' : Fm) (l' : List UInt8) (hfl : FlX w' g x') (how : Ow w' base 5 x'.bo x'.bn x'.bc l') (hla : ∃ a : Nat, x'.la = a ∧ a ≤ x'.bn ∧ x'.bn ≤ 3000 * (i + 1)) (hl : Lies w (X g).bo x'.bo) (hc : Chg w w' (fun k => k = b ∨ k = g ∨ blk (X g).bo = some k)) :
    Iv w' b m base fs.tail (st + 1) n D (fun k => if k = g then x' else X k) (fun k => if k = g then l' else B k) (i + 1) := by
  have hbl : b < w.heap.size := by obtain ⟨⟨fo, fn, fc, h1, _⟩, _⟩ := h.ds; exact h1.lt
  have hrow : ∀ s g2 q, at? D s (some g2) → blk (X g2).bo = some q → Ty w q 5 := fun s g2 q hs hq => (h.ow s g2 hs).ty q hq
  refine ⟨hd, by have := h.st0; omega, by have := h.st1; push_cast; omega, fun s g2 hs => ?_, fun s g2 hs => ?_, fun s g2 hs => ?_, h.inj, h.ne, fun s g2 hs => ?_, h.lo, fun s s' g2 g3 q hs hs' h1 h2 => ?_, h.nz, by have := h.sz; omega, by have := h.sn; omega, h.lb, h.lm, Nat.le_trans h.bs hc.size, by have := h.fsl; simp; omega, h.nm⟩
  · by_cases e : g2 = g
    · subst e; simpa using hfl
    · rw [if_neg e]
      refine (h.fl s g2 hs).chg hc (fun k => ?_)
      rcases k with k | k | k
      · exact h.ne s g2 hs k
      · exact e k
      · exact (hrow s0 g _ hg k).ne (h.fl s g2 hs).ty (by decide) rfl
  · by_cases e : g2 = g
    · subst e; simpa using how
    · rw [if_neg e, if_neg e]
      refine (h.ow s g2 hs).beside hc (fun q hq k => ?_)
      rcases k with k | k | k
      · exact h.nb s g2 hs (by rw [hq, k])
      · subst k; exact (hrow s g2 _ hs hq).ne (h.fl s0 q hg).ty (by decide) rfl
      · exact e (h.apart s s0 g2 g q hs hg hq k)
  · by_cases e : g2 = g
    · subst e; simpa using hla
    · rw [if_neg e]
      obtain ⟨a, h1, h2, h3⟩ := h.la s g2 hs
      exact ⟨a, h1, h2, by omega⟩
  · by_cases e : g2 = g
    · subst e
      simp only [if_true]
      intro k
      rcases hl b k with k | k
      · exact h.nb s0 g2 hg k
      · omega
    · rw [if_neg e]; exact h.nb s g2 hs
  · have key : ∀ s g2, at? D s (some g2) → g2 ≠ g → blk x'.bo = some q → blk (X g2).bo = some q → False := fun s g2 hs e k1 k2 => by
      rcases hl q k1 with k | k
      · exact e (h.apart s s0 g2 g q hs hg k2 k)
      · have := (hrow s g2 q hs k2).lt
        omega
    by_cases e : g2 = g
    · by_cases e' : g3 = g
      · rw [e, e']
      · simp only [e, e', if_true, if_false] at h1 h2
        exact (key s' g3 hs' e' h1 h2).elim
    · by_cases e' : g3 = g
      · simp only [e, e', if_true, if_false] at h1 h2
        exact (key s g2 hs e h2 h1).elim
      · simp only [e, e', if_false] at h1 h2
        exact h.apart s s' g2 g3 q hs hs' h1 h2
/-- A step that makes a file. -/
theorem Iv.made (h : Iv w b m base fs st n D X B i) {s0 : ByteArray} {g : Nat} (hs0 : nameB s0 = true) (hg : w.heap.size ≤ g) (hk : WideAt.IsKeyLit (.string s0.data.toList)) (hn : at? D s0 none) (hd : Ds w' b m fs.tail (st + 1) (n + 1) (D.put (.string s0.data.toList) (.lit (.int .i64 g)))) (hfl : Fl w' g none 0 0 0 true false) (hc : Chg w w' (fun k => k = b ∨ k = m)) :
    Iv w' b m base fs.tail (st + 1) (n + 1) (D.put (.string s0.data.toList) (.lit (.int .i64 g))) (fun k => if k = g then ⟨none, 0, 0, 0, true, false⟩ else X k) (fun k => if k = g then [] else B k) (i + 1) := by
  have hbl : b < w.heap.size := by obtain ⟨⟨fo, fn, fc, h1, _⟩, _⟩ := h.ds; exact h1.lt
  obtain ⟨es, rfl, hap, hkeys⟩ := h.ds.mp.entries (string_keyed Try.underlying9)
  have hM : IsMap (.map es : DataW Unit) := ⟨es, rfl⟩
  have hT : Tidy (.map es : DataW Unit) := ⟨es, rfl, hap⟩
  have hcase : ∀ s g2, at? ((DataW.map es).put (.string s0.data.toList) (.lit (.int .i64 g))) s (some g2) → (s = s0 ∧ g2 = g) ∨ (s ≠ s0 ∧ at? (.map es) s (some g2) ∧ g2 ≠ g) := fun s g2 hs => by
    by_cases e : s = s0
    · subst e
      exact .inl ⟨rfl, by simpa using at_one hs (at_put_same hM hk g)⟩
    · have h1 := (at_put_other e _ _).1 hs
      exact .inr ⟨e, h1, fun e2 => by have := (h.fl s g2 h1).lt; omega⟩
  refine ⟨hd, by have := h.st0; omega, by have := h.st1; push_cast; omega, fun s g2 hs => ?_, fun s g2 hs => ?_, fun s g2 hs => ?_, fun s s' g2 hs hs' => ?_, fun s g2 hs => ?_, fun s g2 hs => ?_, fun s g2 hs => ?_, fun s s' g2 g3 q hs hs' h1 h2 => ?_, h.nz.put hM hk g, ?_, by have := h.sn; omega, h.lb, h.lm, Nat.le_trans h.bs hc.size, by have := h.fsl; simp; omega, fun s g2 hs => (hcase s g2 hs).elim (fun e => e.1 ▸ hs0) (fun e => h.nm s g2 e.2.1)⟩
  · rcases hcase s g2 hs with ⟨rfl, rfl⟩ | ⟨_, h1, e⟩
    · simpa using hfl
    · rw [if_neg e]
      exact (h.fl s g2 h1).chg hc (fun k => k.elim (h.ne s g2 h1) (h.ds.mp.row (h.fl s g2 h1).ty))
  · rcases hcase s g2 hs with ⟨rfl, rfl⟩ | ⟨_, h1, e⟩
    · simpa using Ow.nil w' base 5
    · rw [if_neg e, if_neg e]
      exact (h.ow s g2 h1).beside hc (fun q hq k => k.elim (fun k => h.nb s g2 h1 (by rw [hq, k])) (h.ds.mp.row ((h.ow s g2 h1).ty q hq)))
  · rcases hcase s g2 hs with ⟨rfl, rfl⟩ | ⟨_, h1, e⟩
    · simp
    · rw [if_neg e]
      obtain ⟨a, h1, h2, h3⟩ := h.la s g2 h1
      exact ⟨a, h1, h2, by omega⟩
  · rcases hcase s g2 hs with ⟨rfl, rfl⟩ | ⟨_, h1, e⟩ <;> rcases hcase s' _ hs' with ⟨rfl, e3⟩ | ⟨_, h2, e2⟩
    · rfl
    · exact absurd rfl e2
    · exact absurd e3 e
    · exact h.inj s s' g2 h1 h2
  · rcases hcase s g2 hs with ⟨rfl, rfl⟩ | ⟨_, h1, e⟩
    · omega
    · exact h.ne s g2 h1
  · rcases hcase s g2 hs with ⟨rfl, rfl⟩ | ⟨_, h1, e⟩
    · simp [blk]
    · rw [if_neg e]; exact h.nb s g2 h1
  · rcases hcase s g2 hs with ⟨rfl, rfl⟩ | ⟨_, h1, e⟩
    · have := h.bs; omega
    · exact h.lo s g2 h1
  · rcases hcase s g2 hs with ⟨rfl, rfl⟩ | ⟨_, k1, e⟩
    · simp [blk] at h1
    · rcases hcase s' g3 hs' with ⟨rfl, rfl⟩ | ⟨_, k2, e2⟩
      · simp [blk] at h2
      · rw [if_neg e] at h1
        rw [if_neg e2] at h2
        exact h.apart s s' g2 g3 q k1 k2 h1 h2
  · have hz := h.sz
    rw [size_put hT]
    split <;> omega
/-- A step that strikes files out of the map, or marks their names. -/
theorem Iv.less (h : Iv w b m base fs st n D X B i) (D' : DataW Unit) (X' : Nat → Fm) (hX : ∀ g, (X' g).bo = (X g).bo ∧ (X' g).bn = (X g).bn ∧ (X' g).bc = (X g).bc ∧ (X' g).la = (X g).la) (hat : ∀ s g, at? D' s (some g) → at? D s (some g)) (hd : Ds w' b m fs.tail (st + 1) n D') (hz : Nz D') (hs : Maps.size D' ≤ Maps.size D) (hf : ∀ s g, at? D' s (some g) → FlX w' g (X' g)) (hc : Chg w w' (fun k => k = b ∨ k = m ∨ ∃ s, at? D s (some k))) :
    Iv w' b m base fs.tail (st + 1) n D' X' B (i + 1) := by
  refine ⟨hd, by have := h.st0; omega, by have := h.st1; push_cast; omega, hf, fun s g hg => ?_, fun s g hg => ?_, fun s s' g h1 h2 => h.inj s s' g (hat _ _ h1) (hat _ _ h2), fun s g hg => h.ne s g (hat _ _ hg), fun s g hg => by rw [(hX g).1]; exact h.nb s g (hat _ _ hg), fun s g hg => h.lo s g (hat _ _ hg), fun s s' g g' q h1 h2 h3 h4 => ?_, hz, by have := h.sz; omega, by have := h.sn; omega, h.lb, h.lm, Nat.le_trans h.bs hc.size, by have := h.fsl; simp; omega, fun s g hg => h.nm s g (hat _ _ hg)⟩
  · rw [(hX g).1, (hX g).2.1, (hX g).2.2.1]
    have hg' := hat s g hg
    refine (h.ow s g hg').beside hc (fun q hq k => ?_)
    rcases k with k | k | ⟨s2, k⟩
    · exact h.nb s g hg' (by rw [hq, k])
    · exact h.ds.mp.row ((h.ow s g hg').ty q hq) k
    · exact ((h.ow s g hg').ty q hq).ne (h.fl s2 q k).ty (by decide) rfl
  · rw [(hX g).2.2.2, (hX g).2.1]
    obtain ⟨a, h1, h2, h3⟩ := h.la s g (hat s g hg)
    exact ⟨a, h1, h2, by omega⟩
  · rw [(hX g).1] at h3
    rw [(hX g').1] at h4
    exact h.apart s s' g g' q (hat _ _ h1) (hat _ _ h2) h3 h4
end
end Go.Proofs.Ytgkeflgfnagnjaa

/-
  The six calls that change a disk: each is refused, and nothing changes, or is one step.
-/
namespace Go.Proofs.Ytgkeflgfnagnjaa
open Go.RowKit Go.Maps Go.WideMaps
set_option linter.unusedVariables false
set_option linter.unusedSectionVars false
variable [FO : Inhabited (Nat → Prop)]

theorem stepR_le (fs : List (Int × Int)) (z : Nat) : ∃ j : Nat, (stepR fs (z : Int)).1 = j ∧ j ≤ z := by
  cases fs with
  | nil => exact ⟨z, rfl, Nat.le_refl _⟩
  | cons x l =>
    have hm : ∃ j : Nat, min (max x.2 0) (z : Int) = j ∧ j ≤ z := ⟨(min (max x.2 0) (z : Int)).toNat, by omega, by omega⟩
    simp only [stepR]
    by_cases h1 : x.1 = 1
    · rw [if_pos h1]; exact hm
    · by_cases h2 : x.1 = 2
      · rw [if_neg h1, if_pos h2]; exact hm
      · rw [if_neg h1, if_neg h2]; exact ⟨z, rfl, Nat.le_refl _⟩
theorem name_32 {s : ByteArray} (hs : nameB s = true) : s.size ≤ 32 := by
  unfold nameB at hs
  simp at hs
  omega
theorem name_le {s : ByteArray} (hs : nameB s = true) : s.size ≤ maxLen := by
  unfold nameB at hs
  simp at hs
  unfold maxLen
  omega
section
variable {w : World} {b m base : Nat} {fs : List (Int × Int)} {st : Int} {n i : Nat} {D : DataW Unit} {X : Nat → Fm} {B : Nat → List UInt8}

end
end Go.Proofs.Ytgkeflgfnagnjaa

/-
  A script; vast.
-/
namespace Go.Proofs.Ytgkeflgfnagnjaa
open Go.RowKit Go.Maps Go.WideMaps
set_option linter.unusedVariables false
set_option linter.unusedSectionVars false
variable [FO : Inhabited (Nat → Prop)]

/-- One call of a script. -/
structure Sx where
  kd : Int
  pl : Int
  nn : Int
  nm : ByteArray
  bo : Option Addr
  bn : Nat
  bc : Nat
  fo : Option Addr
  fn : Nat
  fc : Nat
  po : Option Addr
  pn : Nat
  pc : Nat
/-- The cells of one call. -/
structure Sc (w : World) (b i : Nat) (x : Sx) : Prop where
  c0 : w.cell? ⟨b, i, none⟩ = some (.int .i64 x.kd)
  c1 : w.cell? ⟨b, i + 1, none⟩ = some (.int .i64 x.pl)
  c2 : w.cell? ⟨b, i + 2, none⟩ = some (.int .i64 x.nn)
  c3 : w.cell? ⟨b, i + 3, none⟩ = some (.string x.nm)
  c4 : w.cell? ⟨b, i + 4, none⟩ = some (.slice x.bo x.bn x.bc)
  c5 : w.cell? ⟨b, i + 5, none⟩ = some (.slice x.fo x.fn x.fc)
  c6 : w.cell? ⟨b, i + 6, none⟩ = some (.slice x.po x.pn x.pc)
theorem Sc.grown {w w' : World} {b i : Nat} {x : Sx} (h : Sc w b i x) (hg : w.grownBy w' none) : Sc w' b i x :=
  ⟨hg.cell h.c0 (by simp), hg.cell h.c1 (by simp), hg.cell h.c2 (by simp), hg.cell h.c3 (by simp), hg.cell h.c4 (by simp), hg.cell h.c5 (by simp), hg.cell h.c6 (by simp)⟩
section
variable {w w' w0 : World} {b m base : Nat} {fs : List (Int × Int)} {st : Int} {n i : Nat} {D D' : DataW Unit} {X : Nat → Fm} {B : Nat → List UInt8}

theorem Iv.mono (h : Iv w b m base fs st n D X B i) : Iv w b m base fs st n D X B (i + 1) :=
  ⟨h.ds, h.st0, by have := h.st1; push_cast; omega, h.fl, h.ow, fun s g hg => by obtain ⟨a, h1, h2, h3⟩ := h.la s g hg; exact ⟨a, h1, h2, by omega⟩, h.inj, h.ne, h.nb, h.lo, h.apart, h.nz, by have := h.sz; omega, by have := h.sn; omega, h.lb, h.lm, h.bs, by have := h.fsl; omega, h.nm⟩
theorem Cp.grown {nm ba cnt n' : Nat} {left : Lit → Bool} (h : Cp w0 w nm ba D X B left cnt n' D') (hg : w.grownBy w' none) : Cp w0 w' nm ba D X B left cnt n' D' := by
  have hc := Chg.of_grown hg (fun _ => False)
  exact ⟨h.mp.chg hc (fun e => e), h.cnt, h.has, fun s g hs hl => by obtain ⟨g', bo', bc', k1, k2, k3, k4⟩ := h.fl s g hs hl; exact ⟨g', bo', bc', k1, k2, k3.chg hc (fun e => e), k4.beside hc (fun _ _ e => e)⟩, fun s g hs => Nat.lt_of_lt_of_le (h.lt s g hs) hg.size, h.inj, h.nz, h.chg.trans (Chg.of_grown hg _), fun s g' hs => by obtain ⟨k1, bo, n, c, k2, k3⟩ := h.ro s g' hs; exact ⟨k1, bo, n, c, hc.cell k2 (fun e => e), fun q hq => ⟨(k3 q hq).1, Nat.lt_of_lt_of_le (k3 q hq).2 hg.size⟩⟩, fun s s' g1 g2 bo n c bo' n' c' q h1 h2 e1 e2 => by
    obtain ⟨_, bo3, n3, c3, k2, _⟩ := h.ro s g1 h1
    obtain ⟨_, bo4, n4, c4, k4, _⟩ := h.ro s' g2 h2
    have q2 := hc.cell k2 (fun e => e)
    have q4 := hc.cell k4 (fun e => e)
    rw [q2] at e1
    rw [q4] at e2
    cases e1
    cases e2
    exact h.ap s s' g1 g2 _ _ _ _ _ _ q h1 h2 k2 k4⟩
theorem Iv.new {l : List (Int × Int)} (h : Ds w b m l 0 0 (.map [])) (hl : l.length ≤ 100) (hb : base ≤ b) (hm : base ≤ m) (hw : base ≤ w.heap.size) : Iv w b m base l 0 0 (.map []) (fun _ => ⟨none, 0, 0, 0, true, false⟩) (fun _ => []) 0 := by
  have no : ∀ s g, ¬ at? (.map [] : DataW Unit) s (some g) := fun s g hg => by have := at_has hg; simp [has_eq] at this
  exact ⟨h, Int.le_refl _, Int.le_refl _, fun s g hg => (no s g hg).elim, fun s g hg => (no s g hg).elim, fun s g hg => (no s g hg).elim, fun s s' g hg => (no s g hg).elim, fun s g hg => (no s g hg).elim, fun s g hg => (no s g hg).elim, fun s g hg => (no s g hg).elim, fun s s' g g' q hg => (no s g hg).elim, fun kl d hd => by have := has_true_of_atKey hd; simp [has_eq] at this, by simp [size_eq], Nat.le_refl _, hb, hm, hw, by omega, fun s g hg => (no s g hg).elim⟩
end
end Go.Proofs.Ytgkeflgfnagnjaa

/-
  Rows of files as they are told: what the call owns, append.
-/
namespace Go.Proofs.Ytgkeflgfnagnjaa
open Go.RowKit
set_option linter.unusedVariables false
set_option maxRecDepth 100000

/-- A file as it is told. -/
structure Td where
  s : ByteArray
  sz : Nat
  la : Int
  th : Bool
  nl : Bool
def Td.cells (t : Td) : List Value := [.string t.s, .int .i64 t.sz, .int .i64 t.la, .bool t.th, .bool t.nl]
def Td.val (t : Td) : Value := toldV t.s t.sz t.la t.th t.nl
def tcells (l : List Td) : List Value := (l.map Td.cells).flatten
theorem tcells_get {l : List Td} {j : Nat} {r : Td} (h : l[j]? = some r) (i : Nat) (hi : i < 5) : (tcells l)[j * 5 + i]? = r.cells[i]? := by
  induction l generalizing j with
  | nil => simp at h
  | cons q t ih =>
    have hc : tcells (q :: t) = q.cells ++ tcells t := by simp [tcells]
    have hq : q.cells.length = 5 := rfl
    rw [hc]
    cases j with
    | zero =>
      simp at h
      subst h
      rw [List.getElem?_append_left (by omega)]
      simp
    | succ j =>
      have h2 := ih (j := j) (by simpa using h)
      rw [List.getElem?_append_right (by omega), hq, show (j + 1) * 5 + i - 5 = j * 5 + i by omega]
      exact h2
theorem tcells_one (l : List Td) : ∀ u ∈ tcells l, u.oneCell' = true := by
  intro u hu
  unfold tcells at hu
  obtain ⟨l, hl, hm⟩ := List.mem_flatten.1 hu
  obtain ⟨r, _, rfl⟩ := List.mem_map.1 hl
  simp [Td.cells] at hm
  rcases hm with rfl | rfl | rfl | rfl | rfl <;> rfl
theorem tcells_snoc (l : List Td) (r : Td) : tcells (l ++ [r]) = tcells l ++ r.cells := by simp [tcells]
/-- A row of files told, which the call owns. -/
structure Tw (w : World) (base : Nat) (ao : Option Addr) (n cap : Nat) (l : List Td) : Prop where
  len : l.length = n
  row : w.ownsRow base 102 5 (.slice ao n cap) n (tcells l)
theorem Tw.nil (w : World) (base : Nat) : Tw w base none 0 0 [] := ⟨rfl, World.ownsRow_nil w base 102 5⟩
theorem Tw.kept {w w' : World} {base : Nat} {ao : Option Addr} {n cap : Nat} {l : List Td} {row : Option Nat} (h : Tw w base ao n cap l) (hg : w.grownBy w' row) (hne : blk ao = none ∨ blk ao ≠ row) : Tw w' base ao n cap l :=
  ⟨h.len, h.row.kept hg (by rw [blk_own]; exact hne)⟩
theorem Tw.from_base {w : World} {base : Nat} {ao : Option Addr} {n cap : Nat} {l : List Td} (h : Tw w base ao n cap l) : ∀ k, blk ao = some k → base ≤ k ∧ k < w.heap.size := by
  intro k hk
  exact h.row.lt k (by rw [blk_own]; exact hk)
theorem Tw.addr {w : World} {base : Nat} {ao : Option Addr} {n cap : Nat} {l : List Td} (h : Tw w base ao n cap l) (hn : 0 < n) : ∃ g, ao = some ⟨g, 0, none⟩ ∧ base ≤ g ∧ g < w.heap.size := by
  rcases h.row.2 with ⟨hv, h0⟩ | ⟨g, c, cur, hv, hb, hg, _⟩
  · omega
  · cases hv
    exact ⟨g, rfl, hb, (Array.getElem?_eq_some_iff.1 hg).1⟩
theorem Tw.at {w : World} {base g n cap : Nat} {l : List Td} (h : Tw w base (some ⟨g, 0, none⟩) n cap l) {j : Nat} {r : Td} (hr : l[j]? = some r) (i : Nat) (hi : i < 5) : w.cell? ⟨g, j * 5 + i, none⟩ = r.cells[i]? := by
  have h1 := tcells_get hr i hi
  obtain ⟨u, hu⟩ : ∃ u, r.cells[i]? = some u := ⟨_, List.getElem?_eq_getElem (show i < r.cells.length from hi)⟩
  rw [hu] at h1 ⊢
  have h9 := h.row.cells (g := g) rfl _ _ h1
  rwa [Addr.add_lit, Nat.zero_add] at h9
theorem info55 : (Try.prog.info? 102).map (fun i => (i.zero, i.size, i.bytes)) = some (some (.agg #[.string ⟨#[]⟩, .int .i64 0, .int .i64 0, .bool false, .bool false]), 5, 40) := by kernel_rfl
theorem append_td (w : World) (base : Nat) (ro : Option Addr) (n rc : Nat) (l : List Td) (h : Tw w base ro n rc l) (r : Td) (s : Nat) (hc : ∀ i, i < 5 → w.cell? ⟨s, i, none⟩ = r.cells[i]?) (hn : n ≤ 100000) (hbase : base ≤ w.heap.size) :
    ∃ ro' rc' w', (Builtin.append_ #[139, 139] 139 #[.slice ro n rc, .slice (some ⟨s, 0, none⟩) 1 1]).run Try.prog w = .ok (.slice ro' (n + 1) rc') w' ∧ Tw w' base ro' (n + 1) rc' (l ++ [r]) ∧ w.grownBy w' (blk ro) := by
  obtain ⟨i, hi, hz, hzs, hz2⟩ := info_parts info55
  obtain ⟨v', w', hr, h2, h3, _⟩ := run_append_own (P := Try.prog) w base 139 139 102 i _ 5 40 Try.underlying139 hi hz hzs hz2 rfl (by decide) _ n _ h.row ⟨s, 0, none⟩ 1 1 r.cells rfl
    (fun j u hu => by
      rw [Addr.add_lit, Nat.zero_add, hc j (by have := (List.getElem?_eq_some_iff.1 hu).1; exact this)]
      exact hu) (fun u hu => tcells_one [r] u (by simpa [tcells] using hu)) (by unfold maxLen; omega) (by omega) hbase
  rw [← tcells_snoc] at h2
  rw [blk_own] at h3
  rcases h2.2 with ⟨hv, h0⟩ | ⟨g, c, cur, hv, _⟩
  · omega
  · subst hv
    exact ⟨_, _, w', hr, ⟨by simp [h.len], h2⟩, h3⟩
/-- append of a file told, as one step of a region that draws. -/
theorem step_append_td {ops : Array Oper} {o : Oper} {a : Act} {w : World} {K : Act → World → Prop} {Q : Exit → Act → World → Prop} {E : Prop}
    (hg : o.guard = none) (ht : o.type = 139) (s x : Operand) (hop : o.op = Op.call { callee := Callee.builtin Builtin.append, args := #[s, x], argTypes := #[139, 139] })
    (base : Nat) (ro : Option Addr) (n rc : Nat) (l : List Td) (hs : a.eval s = .slice ro n rc) (h : Tw w base ro n rc l) (r : Td) (sb : Nat) (hx : a.eval x = .slice (some ⟨sb, 0, none⟩) 1 1)
    (hc : ∀ i, i < 5 → w.cell? ⟨sb, i, none⟩ = r.cells[i]?) (hn : n ≤ 100000) (hbase : base ≤ w.heap.size)
    (hK : ∀ ro' rc' w', Tw w' base ro' (n + 1) rc' (l ++ [r]) → w.grownBy w' (blk ro) → K (a.put o.dst (.slice ro' (n + 1) rc')) w') :
    if Region.wanted o (yielded ops a.tmps) = true then Oper.wp Try.prog o a w K Q else E := by
  have hw : Region.wanted o (yielded ops a.tmps) = true := by simp [Region.wanted, hg]
  rw [if_pos hw]
  obtain ⟨ro', rc', w', hr, h2, h3⟩ := append_td w base ro n rc l h r sb hc hn hbase
  unfold Oper.wp
  simp only [execOp, hop, resolve, invoke, builtin, Sem.run_bind, Sem.run_pure, Result.andThen_ok, List.map_toArray, List.map_cons, List.map_nil, hs, hx, ht, hr]
  exact hK _ _ _ h2 h3
end Go.Proofs.Ytgkeflgfnagnjaa

/-
  A disk that is not there: All, Names.
-/
namespace Go.Proofs.Ytgkeflgfnagnjaa
open Go.RowKit Go.Shelf
set_option linter.unusedVariables false
set_option maxRecDepth 100000
attribute [local go_sem] Oper.semAt_some

theorem lt_of_heap {w : World} {k : Nat} {o : Obj} (h : w.heap[k]? = some o) : k < w.heap.size := (Array.getElem?_eq_some_iff.1 h).1
theorem heap_kept {w w' : World} {k : Nat} {o : Obj} {row : Option Nat} (hg : w.grownBy w' row) (h : w.heap[k]? = some o) (hne : some k ≠ row) : w'.heap[k]? = some o := (hg.block k (lt_of_heap h) hne).trans h
theorem box_own {A B : World} {row : Option Nat} {b : Nat} {t : TypeId} {v : Value} (h : Boxed A b t v) (hg : A.grownBy B row) (hr : ∀ r, row = some r → ∃ o : Obj, A.heap[r]? = some o ∧ o.isCells = false) : Boxed B b t v :=
  boxed_own (β := Unit) b t (fun _ => v) () A B row h hg hr
set_option maxRecDepth 100000 in
theorem all_no (w : World) (p : Option Addr) (h : No w p) : Calls Try.prog 55 #[.pointer p] w fun e w' => e = .returned (.func (.func 84) #[] #[.pointer (some ⟨w.heap.size, 0, none⟩)]) ∧ Boxed w' w.heap.size 139 (.slice none 0 0) ∧ w.grownBy w' none := by
  have hmf : ∀ (fn : Fn) (first cap : Array Value) (w : World), (Instr.makeFunc fn first cap).run Try.prog w = .ok (.func fn first cap) w := fun _ _ _ _ => rfl
  have hbx := Boxed.new w 139 (.slice none 0 0)
  have hg := alloc_grown w (.cells #[.slice none 0 0] 139)
  go_enter Try.func55, Try.ntmps55
  go_wp2_with fail
  refine (made_no _ _ (h.grown hg)).mono ?_
  rintro e w1 ⟨rfl, rfl⟩
  go_wp2
  go_ret
  exact ⟨rfl, hbx, hg⟩
set_option maxRecDepth 100000 in
set_option maxHeartbeats 1000000 in
theorem all1_none (n : Nat) (w : World) (z : Nat) (hz : Boxed w z 139 (.slice none 0 0)) :
    SeqTold (α := Empty) Fence.wide n Try.prog 84 #[.pointer (some ⟨z, 0, none⟩)] Empty.elim (fun _ _ _ _ => True) (fun _ _ => True) (fun _ => True) (fun _ => False) w := by
  intro l J Jx W hB _ _ _ h0
  have hb := hz.cell
  have hb2 := (hB.cell (p := ⟨z, 0, none⟩) hz.lt).trans hb
  show CallsIn Fence.wide n Try.prog 84 #[.func (.yield l) #[] #[], .pointer (some ⟨z, 0, none⟩)] W _
  refine callsIn_of_wp Try.func84 rfl trivial ?_
  simp only [Try.ntmps84, List.size_toArray, List.length_cons, List.length_nil, Nat.reduceAdd, Nat.reduceSub, Array.replicate_succ, Array.replicate_zero, List.push_toArray, List.append_toArray, List.nil_append, List.cons_append]
  gi_wp2
  gi_loopw [4, 7] (fun _ i wr => i = .int .i64 0 ∧ wr = W) (fun _ _ _ => 0)
  case atStart =>
    exact ⟨rfl, rfl⟩
  case round =>
    obtain ⟨rfl, rfl⟩ := hrel
    gi_wp2
    go_end0
    exact ⟨⟨_, rfl⟩, .inl ⟨[], trivial, h0⟩⟩
end Go.Proofs.Ytgkeflgfnagnjaa

/-
  All's closure over files told, as an iterator.
-/
namespace Go.Proofs.Ytgkeflgfnagnjaa
open Go.RowKit Go.Shelf
set_option linter.unusedVariables false
set_option maxRecDepth 100000
attribute [local go_sem] Oper.semAt_some

theorem Tw.below {w W : World} {base hi : Nat} {ao : Option Addr} {n cap : Nat} {l : List Td} (h : Tw w base ao n cap l) (hB : Below hi w W) (hb : ∀ k, blk ao = some k → k < hi) : Tw W base ao n cap l := by
  refine ⟨h.len, h.row.1, ?_⟩
  rcases h.row.2 with h2 | ⟨g, c, cur, hv, hg, r, r2⟩
  · exact Or.inl h2
  · cases hv
    exact Or.inr ⟨g, cap, cur, rfl, hg, (hB.block g (hb g rfl)).trans r, r2⟩
end Go.Proofs.Ytgkeflgfnagnjaa
