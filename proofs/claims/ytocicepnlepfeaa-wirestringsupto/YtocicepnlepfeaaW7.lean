/-
  The walk of WireStrings.
-/
import Derived.Test.YtocicepnlepfeaaLists2
import Derived.Deep.QuietTactic
import Derived.BigQuiet
namespace Go.Proofs.Ytocicepnlepfeaa
open Go.RowKit
set_option linter.unusedVariables false

/-- Each of these slices is a lent copy of the bytes. -/
def Kp (w : World) (base : Nat) (vs : List (Option Addr × Nat × Nat)) (ls : List (List UInt8)) : Prop :=
  ∀ (q : Nat) (v : Option Addr × Nat × Nat) (s : List UInt8), vs[q]? = some v → ls[q]? = some s → ∃ g, v.1 = some ⟨g, 0, none⟩ ∧ v.2.1 = s.length ∧ Ow w base 5 (some ⟨g, 0, none⟩) (v.2.1 + 1) v.2.2 (s ++ [165])

theorem Kp.grown {w w' : World} {base : Nat} {vs : List (Option Addr × Nat × Nat)} {ls : List (List UInt8)} (h : Kp w base vs ls) (hg : w.grownBy w' none) : Kp w' base vs ls := by
  intro q v s hv hs
  obtain ⟨g, h1, h2, h3⟩ := h q v s hv hs
  exact ⟨g, h1, h2, h3.grown hg⟩
theorem Kp.row {w w' : World} {base base' : Nat} {vs us : List (Option Addr × Nat × Nat)} {ls : List (List UInt8)} {oo : Option Addr} {n c : Nat} (h : Kp w base vs ls) (ho : Lr w base' 22 oo n c us) (hg : w.grownBy w' (blk oo)) : Kp w' base vs ls := by
  intro q v s hv hs
  obtain ⟨g, h1, h2, h3⟩ := h q v s hv hs
  exact ⟨g, h1, h2, h3.kept hg (ho.apart h3 (by decide))⟩
theorem Kp.snoc {w : World} {base j g c : Nat} {vs : List (Option Addr × Nat × Nat)} {ls : List (List UInt8)} {s : List UInt8} (h : Kp w base vs ls) (hj : vs.length = j) (hs : ls[j]? = some s) (ho : Ow w base 5 (some ⟨g, 0, none⟩) (s.length + 1) c (s ++ [165])) :
    Kp w base (vs ++ [(some ⟨g, 0, none⟩, s.length, c)]) ls := by
  intro q v t hv ht
  rw [List.getElem?_append] at hv
  split at hv
  · exact h q v t hv ht
  · rename_i hq
    have hq0 : q = j := by
      have := (List.getElem?_eq_some_iff.1 hv).1
      simp at this; omega
    subst hq0
    rw [hj, Nat.sub_self] at hv
    simp at hv
    subst hv
    rw [hs] at ht
    obtain rfl := Option.some.inj ht
    exact ⟨g, rfl, rfl, ho⟩
theorem Kp.items {w : World} {base : Nat} {vs : List (Option Addr × Nat × Nat)} {ls : List (List UInt8)} (h : Kp w base vs ls) :
    ∀ (j : Nat) (v : Option Addr × Nat × Nat) (s : List UInt8), vs[j]? = some v → ls[j]? = some s → Bs w v.1 v.2.1 v.2.2 s := by
  intro q v s hv hs
  obtain ⟨g, h1, h2, h3⟩ := h q v s hv hs
  have := h3.shows.take v.2.1 (by omega)
  rw [List.take_left' h2.symm, ← h1] at this
  exact this

theorem encL_bound (ls : List (List UInt8)) (h : ∀ s, s ∈ ls → s.length ≤ 16777216) : (encL ls).length ≤ 16777220 * ls.length := by
  induction ls with
  | nil => simp [encL]
  | cons s r ih =>
    have h1 := h s (by simp)
    have h2 := ih (fun t ht => h t (by simp [ht]))
    simp only [encL, List.flatMap_cons, List.length_append, low_length, List.length_cons] at h2 ⊢
    omega

set_option maxRecDepth 100000 in
set_option maxHeartbeats 400000 in
theorem wireStrings_many (w : World) (ao so lo : Option Addr) (n cap m c k lc : Nat) (hk : 300 < k) :
    Calls Try.prog 4 #[.slice ao n cap, .slice so m c, .slice lo k lc] w fun e w' => e = .returned (.bool true) ∧ w.grownBy w' none := by
  go_enter Try.func4, Try.ntmps4
  go_wp2_with fail
  refine (works_any _).mono ?_
  rintro e w1 ⟨rfl, hg⟩
  go_wp2
  go_ret
  exact ⟨rfl, hg⟩

set_option maxRecDepth 100000 in
set_option maxHeartbeats 2000000 in
theorem wireStrings_few (w : World) (ao so lo : Option Addr) (n cap m c k lc : Nat) (l s : List UInt8) (vs : List (Option Addr × Nat × Nat)) (ls : List (List UInt8)) (hb : Bs w ao n cap l) (hs : Bs w so m c s) (hl : Ls w lo k lc vs ls)
    (hk : k ≤ 300) (hn : n ≤ 16777216) (hm : m ≤ 16777216) (hall : ∀ s, s ∈ ls → s.length ≤ 16777216) :
    Calls Try.prog 4 #[.slice ao n cap, .slice so m c, .slice lo k lc] w fun e w' => e = .returned (.bool true) ∧ w.grownBy w' none := by
  have hk' : ¬ (300 : Int) < (k : Int) := by omega
  have hen : Hid ((encL ls).length ≤ 16777220 * k) := by have := encL_bound ls hall; rw [hl.len2] at this; exact this
  go_enter Try.func4, Try.ntmps4
  go_wp2_with fail
  refine (lent_any _ _ n cap l hb (by omega)).mono ?_
  rintro e w1 ⟨gm, cm, rfl, hm1, hg1⟩
  go_wp2_with fail
  refine (lent_any _ _ m c s (hs.grown hg1) (by omega)).mono ?_
  rintro e w2 ⟨gt, ct, rfl, ht2, hg2⟩
  have hG2 := grown_trans hg1 hg2 (by simp)
  have hm2 := hm1.grown hg2
  have hmb := hm2.shows.take n (by omega)
  rw [List.take_left' hb.len] at hmb
  have htb := ht2.shows.take m (by omega)
  rw [List.take_left' hs.len] at htb
  clear hm1 hg1 hg2
  go_wp2_with fail
  refine (appendString_yes _ _ _ n cm m ct l s hmb htb (by omega) (by omega)).mono ?_
  rintro e w3 ⟨ao3, cap3, rfl, ho3, hg3⟩
  have hG3 := grown_trans hG2 hg3 (by simp)
  have hm3 := hm2.grown hg3
  have ht3 := ht2.grown hg3
  have hl3 := hl.grown hG3
  clear hm2 ht2 hmb htb hg3 hG2
  go_wp2_with fail
  go_loopw [11, 12] (fun v i wr => ∃ (j : Nat) (oo : Option Addr) (oc : Nat) (us : List (Option Addr × Nat × Nat)), j ≤ k ∧ i = .int .i64 j ∧ v = .slice oo j oc ∧ Lr wr w3.heap.size 22 oo j oc us ∧ Kp wr w3.heap.size us ls ∧ Below w3.heap.size w3 wr) (fun _ i _ => k - (intOf i).toNat)
  case atStart => exact ⟨0, none, 0, [], Nat.zero_le _, rfl, rfl, Lr.nil _ _ _, fun q v s hv => by simp at hv, Below.refl _ _⟩
  case round =>
    obtain ⟨j, oo, oc, us, hj, rfl, rfl, hLr, hKp, hBr⟩ := hrel
    by_cases hlt : j < k
    · obtain ⟨b, o, hbo, hbl⟩ := hl3.addr (by omega)
      subst hbo
      obtain ⟨xo, xm, xc, x, hx, hcell, hbs⟩ := hl3.at hlt
      have hcellr : wr.cell? ⟨b, o + j, none⟩ = some (.slice xo xm xc) := by rw [hBr.cell hbl]; exact hcell
      have hbsr := hbs.grown (below_grownBy hBr)
      have hxl : Hid (x.length = xm) := hbs.len
      have hxm : xm ≤ 16777216 := by rw [← hxl.out]; exact hall x (List.mem_of_getElem? hx)
      have hszr := hBr.size
      have HX : Hid (ls[j]? = some x) := hx
      clear hx hcell hbs
      go_wp2_with fail
      refine (lent_any _ _ xm xc x hbsr (by omega)).mono ?_
      rintro e w4 ⟨gx, cx, rfl, hox, hgx⟩
      have hsz4 := hgx.size
      have hLr4 := hLr.grown hgx
      have hKp4 := hKp.grown hgx
      have hga := World.grownBy_alloc w4 (.cells #[.slice (some ⟨gx, 0, none⟩) xm cx] 22) none
      go_wp2_with (at_builtin; refine wpList_append_lr _ rfl _ _ 42 rfl w3.heap.size 22 Try.underlying42 Try.info22 rfl (hLr4.grown hga) (some ⟨gx, 0, none⟩, xm, cx) rfl (by simp [sv]) (by omega) (by simp; omega) ?_)
      intro oo5 oc5 w5 hLr5 hg5
      have hKp5 := ((hKp4.grown hga).snoc hLr.len HX.out (by rw [hxl.out]; exact (hox.grown hga).rebase hszr)).row (hLr4.grown hga) hg5
      rw [hxl.out] at hKp5
      have hB5 : Below w3.heap.size w3 w5 := ((hBr.trans ((grownBy_below hgx).mono hszr)).alloc (by omega) _).grown hg5 (by simp; omega) (fun q hq => (hLr4.from_base q hq).1)
      clear hKp4 hLr4 hg5 hox hga hgx hKp hLr
      go_wp2
      go_roundw
      case rel => exact ⟨j + 1, oo5, oc5, _, by omega, by go_num, rfl, hLr5, hKp5, hB5⟩
      case measure => simp [intOf]; omega
    · obtain rfl : j = k := by omega
      have hLsr := hLr.shows (ls := ls) hl.len2 hKp.items
      have hgr := below_grownBy hBr
      have hmr := hm3.grown hgr
      have htr := ht3.grown hgr
      have hor := ho3.grown hgr
      have hGr := grown_trans hG3 hgr (by simp)
      have hmbr := hmr.shows.take n (by omega)
      rw [List.take_left' hb.len] at hmbr
      have hen2 : (encL ls).length ≤ 16777220 * j := hen
      clear hm3 ht3 ho3 hG3 hgr hBr
      go_wp2_with fail
      refine (appendList_yes _ _ oo n cm j oc l us ls hmbr hLsr (by omega) hall (by omega)).mono ?_
      rintro e w6 ⟨ao6, cap6, rfl, ho6, hg6⟩
      have hG6 := grown_trans hGr hg6 (by simp)
      have hm6 := hmr.grown hg6
      have ht6 := htr.grown hg6
      have hx6 := hor.grown hg6
      have hK6 := hKp.grown hg6
      have hL6 := hLsr.grown hg6
      have hl6 := hl.grown hG6
      clear hmr htr hor hKp hLsr hLr hl3 hGr hg6 hmbr
      go_wp2_with fail
      go_loopw [15] (fun i wr => ∃ (q : Nat), q ≤ j ∧ i = .int .i64 q ∧ w6.grownBy wr none) (fun i _ => j - (intOf i).toNat)
      case atStart => exact ⟨0, Nat.zero_le _, rfl, grown_refl _ _⟩
      case round =>
        obtain ⟨q, hq, rfl, hgq⟩ := hrel
        by_cases hlt2 : q < j
        · obtain ⟨b, o, hbo, hbl⟩ := hl6.addr (by omega)
          subst hbo
          obtain ⟨xo, xm, xc, x, hx, hcell, hbs⟩ := hl6.at hlt2
          obtain ⟨b2, o2, hbo2, hbl2⟩ := hL6.addr (by omega)
          subst hbo2
          have hqu : q < us.length := by rw [hL6.len]; exact hlt2
          have hcu := hL6.cells _ rfl q us[q] (by simp [hqu])
          obtain ⟨gx, h1, h2, h3⟩ := hK6 q us[q] x (by simp [hqu]) hx
          have hxm : x.length = xm := hbs.len
          rw [hxm] at h2
          rw [Addr.add_lit, h1, h2] at hcu
          rw [h2] at h3
          generalize us[q].2.2 = cx at *
          have hxs : xm ≤ 16777216 := by rw [← hxm]; exact hall x (List.mem_of_getElem? hx)
          have hc1 := hgq.cell hcell (by simp)
          have hc2 := hgq.cell hcu (by simp)
          have hb1 := hbs.grown hgq
          have hb2 := h3.shows.grown hgq
          clear hcell hcu hbs h3 h1 h2 hx hxm hqu hL6 hK6 hl6
          go_wp2_with fail
          go_quiet ((go_at_call 21; exact Calls.quiet_of_same (kept_any _ gx xo xm cx xc x (hb2.grown (grown_drewN _ _ none)) (hb1.grown (grown_drewN _ _ none)) (by omega))))
          go_wp2
          go_roundw
          case rel => exact ⟨q + 1, by omega, by go_num, grown_trans hgq (grown_drewN _ _ none) (by simp)⟩
          case measure => simp [intOf]; omega
        · obtain rfl : q = j := by omega
          have hG7 := grown_trans hG6 hgq (by simp)
          have hm7 := hm6.grown hgq
          have ht7 := ht6.grown hgq
          have hx7 := hx6.grown hgq
          have hy7 := ho6.grown hgq
          have hl7 := hl6.grown hgq
          clear hm6 ht6 hx6 ho6 hl6 hG6 hgq hK6 hL6
          go_wp2_with fail
          refine (refString_any _ so m c s (hs.grown hG7) (by omega)).mono ?_
          rintro e w8 ⟨ao8, cap8, rfl, ho8, hg8⟩
          have hG8 := grown_trans hG7 hg8 (by simp)
          go_wp2_with fail
          refine (behind_any _ _ _ _ _ _ _ _ _ _ _ _ _ (hx7.shows.grown hg8) (hb.grown hG8) ho8.shows (by omega)).mono ?_
          rw [show (l ++ low m 4 ++ s == l ++ (low m 4 ++ s)) = true from by simp]
          rintro e w9 ⟨rfl, hg9⟩
          have hS9 := grown_trans hg8 hg9 (by simp)
          have hG9 := grown_trans hG7 hS9 (by simp)
          have hm9 := hm7.grown hS9
          have ht9 := ht7.grown hS9
          have hy9 := hy7.grown hS9
          have hl9 := hl7.grown hS9
          clear hm7 ht7 hx7 hy7 hl7 ho8 hg8 hg9 hS9 hG8 hG7
          go_wp2_with (go_at_call 27; refine (num_any _ _).mono ?_; rintro e w' ⟨rfl, rfl⟩)
          refine (refList_any _ lo q lc vs ls hl9 (by omega) (by omega)).mono ?_
          rintro e w10 ⟨ao10, cap10, rfl, ho10, hg10⟩
          have hG10 := grown_trans hG9 hg10 (by simp)
          go_wp2_with fail
          refine (behind_any _ _ _ _ _ _ _ _ _ _ _ _ _ (hy9.shows.grown hg10) (hb.grown hG10) ho10.shows (by omega)).mono ?_
          rw [show (l ++ low q 4 ++ encL ls == l ++ (low q 4 ++ encL ls)) = true from by simp]
          rintro e w11 ⟨rfl, hg11⟩
          have hS11 := grown_trans hg10 hg11 (by simp)
          have hG11 := grown_trans hG9 hS11 (by simp)
          have hm11 := hm9.grown hS11
          have ht11 := ht9.grown hS11
          clear hm9 ht9 hy9 hl9 hG9 hG10 hg10 hg11 hS11 ho10
          go_wp2_with (go_at_call 27; refine (num_any _ _).mono ?_; rintro e w' ⟨rfl, rfl⟩)
          refine (kept_any _ gm ao n cm cap l hm11.shows (hb.grown hG11) (by omega)).mono ?_
          rintro e w12 ⟨rfl, rfl⟩
          go_wp2_with fail
          refine (kept_any _ gt so m ct c s ht11.shows (hs.grown hG11) (by omega)).mono ?_
          rintro e w12 ⟨rfl, rfl⟩
          go_wp2_with fail
          refine (works_any _).mono ?_
          rintro e w13 ⟨rfl, hg13⟩
          go_wp2
          go_ret
          exact ⟨rfl, grown_trans hG11 hg13 (by simp)⟩

end Go.Proofs.Ytocicepnlepfeaa
