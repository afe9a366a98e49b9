/-
  RealLists: the walk.
-/
import Derived.Test.YtmjcjcpifahpaaaDoorU3
import Derived.Test.YtmjcjcpifahpaaaDoorU4
import Derived.Test.YtmjcjcpifahpaaaDoorH7
namespace Go.Proofs.YtmjcjcpifahpaaaDoor
open Go.RowKit Go.Shelf Go.Sort Go.Lib
set_option linter.unusedVariables false

theorem like_self (x : Fl) : likeF x.b x.b = true := by unfold likeF; simp
theorem alike_self (l : List Fl) : Alike l l := ⟨rfl, fun i h _ => like_self _⟩
theorem alike_sorted {l s t : List Fl} (h1 : s.Perm l) (h2 : t.Perm l) (s1 : Srt s) (s2 : Srt t) : Alike s t :=
  ⟨h1.length_eq.trans h2.length_eq.symm, fun i h h' => two_sorted (h1.trans h2.symm) s1 s2 h h'⟩
def c42 : Fl := Fl.of 4631107791820423168
theorem c42_b : c42.b = 4631107791820423168 := Fl.of_b (by decide)
theorem like_zero : likeF 0 0 = true := by decide +kernel
theorem same42 : (FloatKind.f64.format.order 4631107791820423168 4631107791820423168 != some .eq) = false := (self_neq (b := 4631107791820423168) (by decide)).trans (by decide +kernel)

/-- How the law goes on behind its first 15 regions: what is in hand. -/
structure Hand (w W : World) (g cp : Nat) (wo : Option Addr) (wc : Nat) (ao : Option Addr) (n cap : Nat) (l t : List Fl) : Prop where
  arg : Fs W ao n cap l
  lent : Fs W (some ⟨g, 0, none⟩) n cp l
  mark : W.cell? ⟨g, n, none⟩ = some (.float .f64 4631107791820423168)
  want : Fs W wo n wc t
  up : w.grownBy W none

theorem Hand.grown {w W W' : World} {g cp : Nat} {wo : Option Addr} {wc : Nat} {ao : Option Addr} {n cap : Nat} {l t : List Fl} (h : Hand w W g cp wo wc ao n cap l t) (hg : W.grownBy W' none) : Hand w W' g cp wo wc ao n cap l t :=
  ⟨h.arg.grown hg, h.lent.grown hg, hg.cell h.mark (by simp), h.want.grown hg, grown_trans h.up hg (by simp)⟩

set_option maxRecDepth 100000 in
set_option maxHeartbeats 8000000 in
theorem lists_walk (w : World) (hD : Dt w) (ao : Option Addr) (n cap : Nat) (l : List Fl) (hb : Fs w ao n cap l) (x : Fl) (K : Int) (hK1 : -9223372036854775808 ≤ K) (hK2 : K < 9223372036854775808) :
    Calls Tryd.prog 4 #[.slice ao n cap, .float .f64 x.b, .int .i64 K] w fun e w' => e = .returned (.bool true) ∧ w.grownBy w' none := by
  have hlen := hb.len
  have htop := Nat.le_trans hb.room hb.top
  unfold maxLen at htop
  by_cases hbig : 200 < n
  · go_enter Tryd.func4, Tryd.ntmps4
    go_wp2_with (go_at_call 22; refine (works_any _ hD).mono ?_; rintro e w1 ⟨rfl, hg1⟩)
    go_ret
    exact ⟨rfl, hg1⟩
  have hxl := x.lt
  have ho1 := Fo.empty w w.heap.size 22 (Nat.le_refl _)
  have hb1 := hb.grown (alloc_grown w (.cells #[] 22))
  go_enter Tryd.func4, Tryd.ntmps4
  go_wp2_with (at_builtin; refine wpList_append_fs _ rfl _ _ 42 rfl w.heap.size 22 Tryd.underlying42 Tryd.info22 rfl ho1 rfl hb1 (by omega) (by simp) ?_)
  intro ao2 cap2 w2 ho2 hg2
  have hs2 : w.heap.size < w2.heap.size := by have := hg2.size; simp at this; omega
  have hone : Fs (w2.alloc (.cells #[.float .f64 4631107791820423168] 22)) (some ⟨w2.heap.size, 0, none⟩) 1 1 [c42] := Fs.one w2 _ c42 22 (by unfold fv; rw [c42_b])
  go_wp2_with (at_builtin; refine wpList_append_fs _ rfl _ _ 42 rfl w.heap.size 22 Tryd.underlying42 Tryd.info22 rfl (ho2.grown (alloc_grown _ _)) rfl hone (by omega) (by simp; omega) ?_)
  intro ao3 cap3 w3 ho3 hg3
  have hr3 := ho3.shows.room
  have hB : Below w.heap.size w w3 := ((((Below.refl _ _).alloc (Nat.le_refl _) _).grown hg2 (by simp) (fun k hk => by simp [blk] at hk; omega)).alloc (by omega) _).grown hg3 (by simp; omega) (fun k hk => (ho2.from_base k hk).1)
  obtain ⟨g, hg, _, _⟩ := ho3.addr (by omega)
  rw [hg] at ho3 ⊢
  have hG3 := below_grownBy hB
  have hm3 := ho3.shows
  have hl3 : Fs w3 (some ⟨g, 0, none⟩) n cap3 l := by
    have := hm3.take n (by omega)
    simpa [List.take_left' hlen] using this
  have hk3 : w3.cell? ⟨g, n, none⟩ = some (.float .f64 4631107791820423168) := by
    have := hm3.at (j := n) (by simp [hlen])
    simpa [hlen, c42_b] using this
  have hb3 := hb.grown hG3
  clear hone hb1 ho1 hg ho3 hm3 hg2 hg3 hB ho2 hs2 hb
  go_wp2_with fail
  refine (sort_any _ _ _ _ l hl3 (by omega)).mono ?_
  rintro e w4 ⟨q, s, rfl, ho4, hp, hs, hg4⟩
  have hc4 := ho4.shows
  clear ho4
  go_wp2_with fail
  refine (sorted_any _ _ _ _ l (hb3.grown hg4) (by omega)).mono ?_
  rintro e w5 ⟨wo, wc, t, rfl, ho5, hp5, hs5, hg5⟩
  have hG45 := grown_trans hg4 hg5 (by simp)
  have hH : Hand w w5 g cap3 wo wc ao n cap l t := ⟨hb3.grown hG45, hl3.grown hG45, hG45.cell hk3 (by simp), ho5.shows, grown_trans hG3 hG45 (by simp)⟩
  have hc5 := hc4.grown hg5
  have HA : Hid (Alike s t) := alike_sorted hp hp5 hs hs5
  have HP : Hid (t.Perm l) := hp5
  have HS : Hid (Srt t) := hs5
  have htl : t.length = n := hH.want.len
  have s42 := same42
  clear hb3 hl3 hk3 hc4 ho5 hp hp5 hs hs5 hg4 hg5 hG45 hG3
  by_cases hn0 : n = 0
  · subst hn0
    obtain rfl : l = [] := List.eq_nil_of_length_eq_zero hlen
    obtain rfl : t = [] := List.eq_nil_of_length_eq_zero htl
    go_wp2_with fail
    refine (least_none _ _ _).mono ?_
    rintro e w6 ⟨rfl, hw6⟩
    subst hw6
    go_wp2_with fail
    refine (greatest_none _ _ _).mono ?_
    rintro e w7 ⟨rfl, hw7⟩
    subst hw7
    have hout : K < 0 ∨ ((0 : Nat) : Int) ≤ K := by omega
    go_wp2_with fail
    refine (nth_out _ K _ _ _ [] hH.lent (by omega) hout).mono ?_
    rintro e w8 ⟨rfl, hg8⟩
    have hH8 := hH.grown hg8
    have hc8 := hc5.grown hg8
    clear hH hc5 hg8
    go_wp2_with fail
    refine (alike_any _ _ _ _ _ _ s [] hc8 hH8.want HA.out (by omega)).mono ?_
    rintro e w9 ⟨rfl, hg9⟩
    have hH9 := hH8.grown hg9
    clear hH8 hc8 hg9
    go_wp2_with fail
    refine (num_any' _ _).mono ?_
    rintro e w9' ⟨rfl, hw9⟩
    subst hw9
    go_wp2_with fail
    refine (alike_any _ _ _ _ _ _ [] [] hH9.lent hH9.arg (alike_self []) (by omega)).mono ?_
    rintro e w10 ⟨rfl, hg10⟩
    have hH10 := hH9.grown hg10
    have hmk := hH10.mark
    clear hH9 hg10
    go_wp2_with fail
    refine (rlike_any _ 0 0 (by omega) (by omega)).mono ?_
    rw [like_zero]
    rintro e w11 ⟨rfl, hw11⟩
    subst hw11
    go_wp2_with fail
    refine (rlike_any _ 0 0 (by omega) (by omega)).mono ?_
    rw [like_zero]
    rintro e w11 ⟨rfl, hw11⟩
    subst hw11
    have hKd : K < 0 ∨ 0 ≤ K := by omega
    rcases hKd with hKd | hKd
    all_goals
      go_wp2_with fail
      refine (rlike_any _ 0 0 (by omega) (by omega)).mono ?_
      rw [like_zero]
      rintro e w11 ⟨rfl, hw11⟩
      subst hw11
      go_wp2_with fail
      refine (num_any' _ _).mono ?_
      rintro e w11 ⟨rfl, hw11⟩
      subst hw11
      clear hmk
      go_wp2_with fail
      refine (search_any _ _ _ _ [] hH10.want (by omega) x).mono ?_
      rintro e w12 ⟨i, hi1, rfl, hB1, hw12⟩
      subst hw12
      go_wp2_with fail
      refine (rsearch_any _ _ _ _ [] hH10.want (by omega) x).mono ?_
      rintro e w12 ⟨j, hj1, rfl, hB2, hw12⟩
      subst hw12
      obtain rfl := bnd_one HS.out hB1 hB2 (by omega) (by omega)
      clear hB1 hB2
      go_wp2_with fail
      refine (search_any _ _ _ _ [] hH10.lent (by omega) x).mono ?_
      rintro e w12 ⟨j, hj2, rfl, hB3, hw12⟩
      subst hw12
      clear hB3
      have hjn : decide ((j : Int) < 0) = false := by simp
      have hjm : decide (0 < j) = false := by simp; omega
      go_wp2_with fail
      refine (alike_any _ _ _ _ _ _ [] [] hH10.lent hH10.arg (alike_self []) (by omega)).mono ?_
      rintro e w13 ⟨rfl, hg13⟩
      have hH13 := hH10.grown hg13
      have hD13 := hD.grown hH13.up
      clear hH10 hg13
      have hjd : decide (j < 0) = false := by simp
      have hf : Hid (fnd [] j x = false) := rfl
      rw [hf.out]
      go_wp2_with fail
      refine (works_any _ hD13).mono ?_
      rintro e w14 ⟨rfl, hg14⟩
      go_wp2
      go_ret
      exact ⟨rfl, grown_trans hH13.up hg14 (by simp)⟩
  · have hpos : 0 < n := by omega
    have hnz : ((n : Int) == 0) = false := by simp; omega
    have hgt : decide (0 < n) = true := by simp; omega
    go_wp2_with fail
    refine (least_any _ _ _ _ l hH.lent hpos (by omega)).mono ?_
    rintro e w6 ⟨lo, rfl, hlo, hw6⟩
    subst hw6
    go_wp2_with fail
    refine (greatest_any _ _ _ _ l hH.lent hpos (by omega)).mono ?_
    rintro e w7 ⟨hi, rfl, hhi, hw7⟩
    subst hw7
    obtain ⟨wb, wof, rfl, hwb⟩ := hH.want.addr hpos
    have h0t : 0 < t.length := by omega
    have h1t : t.length - 1 < t.length := by omega
    have hlk0 := fun W => rlike_any W _ _ lo.lt (t[0]).lt
    rw [om_least HP.out HS.out hlo h0t] at hlk0
    have hlk1 := fun W => rlike_any W _ _ hi.lt (t[t.length - 1]).lt
    rw [om_greatest HP.out HS.out hhi h1t] at hlk1
    have ct0 : ∀ W, Fs W (some ⟨wb, wof, none⟩) n wc t → W.cell? ⟨wb, wof, none⟩ = some (.float .f64 (t[0]).b) := fun W h => by simpa using h.at h0t
    have ct1 : ∀ W, Fs W (some ⟨wb, wof, none⟩) n wc t → W.cell? ⟨wb, wof + (t.length - 1), none⟩ = some (.float .f64 (t[t.length - 1]).b) := fun W h => h.at h1t
    have hn1 : ((n : Int) - 1) = ((t.length - 1 : Nat) : Int) := by omega
    have hn1l : t.length - 1 < n := by omega
    generalize t[0] = t0 at *
    generalize t[t.length - 1] = t1 at *
    generalize t.length - 1 = last at *
    clear hlo hhi h0t h1t
    by_cases hKi : 0 ≤ K ∧ K < n
    · obtain ⟨k, rfl⟩ : ∃ k : Nat, K = (k : Int) := ⟨K.toNat, by omega⟩
      have hkn : k < n := by omega
      have hkt : k < t.length := by omega
      have ctk : ∀ W, Fs W (some ⟨wb, wof, none⟩) n wc t → W.cell? ⟨wb, wof + k, none⟩ = some (.float .f64 (t[k]).b) := fun W h => h.at hkt
      go_wp2_with fail
      refine (nth_any _ k _ _ _ l hH.lent (by omega) hkn).mono ?_
      rintro e w8 ⟨l', hk', rfl, hp', hs', hg8⟩
      have hlkk := fun W => rlike_any W _ _ (l'[k]).lt (t[k]).lt
      rw [two_sorted (hp'.trans HP.out.symm) hs' HS.out hk' hkt] at hlkk
      generalize l'[k] = y at *
      generalize t[k] = tk at *
      have hH8 := hH.grown hg8
      have hc8 := hc5.grown hg8
      clear hH hc5 hg8 hp' hs' hk' hKi
      have hk0 : decide ((k : Int) < 0) = false := by simp
      have hk1 : decide (n ≤ k) = false := by simp; omega
      go_wp2_with fail
      refine (alike_any _ _ _ _ _ _ s t hc8 hH8.want HA.out (by omega)).mono ?_
      rintro e w9 ⟨rfl, hg9⟩
      have hH9 := hH8.grown hg9
      clear hH8 hc8 hg9
      go_wp2_with fail
      refine (num_any' _ _).mono ?_
      rintro e w9' ⟨rfl, hw9⟩
      subst hw9
      go_wp2_with fail
      refine (alike_any _ _ _ _ _ _ l l hH9.lent hH9.arg (alike_self l) (by omega)).mono ?_
      rintro e w10 ⟨rfl, hg10⟩
      have hH10 := hH9.grown hg10
      have hmk := hH10.mark
      clear hH9 hg10
      have c0 := ct0 _ hH10.want
      have c1 := ct1 _ hH10.want
      clear ct0 ct1
      go_wp2_with fail
      refine (hlk0 _).mono ?_
      rintro e w11 ⟨rfl, hw11⟩
      subst hw11
      go_wp2_with fail
      refine (hlk1 _).mono ?_
      rintro e w11 ⟨rfl, hw11⟩
      subst hw11
      clear c0 c1 hlk0 hlk1
      have ck := ctk _ hH10.want
      clear ctk
      go_wp2_with fail
      refine (hlkk _).mono ?_
      rintro e w11 ⟨rfl, hw11⟩
      subst hw11
      go_wp2_with fail
      refine (num_any' _ _).mono ?_
      rintro e w11 ⟨rfl, hw11⟩
      subst hw11
      clear ck
      clear hmk
      go_wp2_with fail
      refine (search_any _ _ _ _ t hH10.want (by omega) x).mono ?_
      rintro e w12 ⟨i, hi1, rfl, hB1, hw12⟩
      subst hw12
      go_wp2_with fail
      refine (rsearch_any _ _ _ _ t hH10.want (by omega) x).mono ?_
      rintro e w12 ⟨j, hj1, rfl, hB2, hw12⟩
      subst hw12
      obtain rfl := bnd_one HS.out hB1 hB2 (by omega) (by omega)
      clear hB1 hB2
      go_wp2_with fail
      refine (search_any _ _ _ _ l hH10.lent (by omega) x).mono ?_
      rintro e w12 ⟨j, hj2, rfl, hB3, hw12⟩
      subst hw12
      clear hB3
      have hjn : decide ((j : Int) < 0) = false := by simp
      have hjm : decide (n < j) = false := by simp; omega
      go_wp2_with fail
      refine (alike_any _ _ _ _ _ _ l l hH10.lent hH10.arg (alike_self l) (by omega)).mono ?_
      rintro e w13 ⟨rfl, hg13⟩
      have hH13 := hH10.grown hg13
      have hD13 := hD.grown hH13.up
      clear hH10 hg13
      by_cases hjl : j < n
      · obtain ⟨ab, aof, rfl, hab⟩ := hH13.arg.addr hpos
        have hjl2 : j < l.length := by omega
        have cj := hH13.arg.at hjl2
        have hjd : decide (j < n) = true := by simpa using hjl
        have hlj := fun W => rlike_any W _ _ (l[j]).lt hxl
        have hf : Hid (fnd l j x = likeF (l[j]).b x.b) := by show _ = _; unfold fnd; rw [List.getElem?_eq_getElem hjl2]
        rw [hf.out]
        generalize likeF (l[j]).b x.b = lk at *
        generalize l[j] = y at *
        go_wp2_with fail
        refine (hlj _).mono ?_
        rintro e w14 ⟨rfl, hw14⟩
        subst hw14
        have hlk2 : (lk == lk) = true := by simp
        go_wp2_with fail
        refine (works_any _ hD13).mono ?_
        rintro e w14 ⟨rfl, hg14⟩
        go_wp2
        go_ret
        exact ⟨rfl, grown_trans hH13.up hg14 (by simp)⟩
      · have hjd : decide (j < n) = false := by simpa using hjl
        have hf : Hid (fnd l j x = false) := by show _ = _; unfold fnd; rw [List.getElem?_eq_none (by omega)]
        rw [hf.out]
        go_wp2_with fail
        refine (works_any _ hD13).mono ?_
        rintro e w14 ⟨rfl, hg14⟩
        go_wp2
        go_ret
        exact ⟨rfl, grown_trans hH13.up hg14 (by simp)⟩
    · have hout : K < 0 ∨ (n : Int) ≤ K := by omega
      go_wp2_with fail
      refine (nth_out _ K _ _ _ l hH.lent (by omega) hout).mono ?_
      rintro e w8 ⟨rfl, hg8⟩
      have hH8 := hH.grown hg8
      have hc8 := hc5.grown hg8
      clear hH hc5 hg8 hKi
      go_wp2_with fail
      refine (alike_any _ _ _ _ _ _ s t hc8 hH8.want HA.out (by omega)).mono ?_
      rintro e w9 ⟨rfl, hg9⟩
      have hH9 := hH8.grown hg9
      clear hH8 hc8 hg9
      go_wp2_with fail
      refine (num_any' _ _).mono ?_
      rintro e w9' ⟨rfl, hw9⟩
      subst hw9
      go_wp2_with fail
      refine (alike_any _ _ _ _ _ _ l l hH9.lent hH9.arg (alike_self l) (by omega)).mono ?_
      rintro e w10 ⟨rfl, hg10⟩
      have hH10 := hH9.grown hg10
      have hmk := hH10.mark
      clear hH9 hg10
      have c0 := ct0 _ hH10.want
      have c1 := ct1 _ hH10.want
      clear ct0 ct1
      go_wp2_with fail
      refine (hlk0 _).mono ?_
      rintro e w11 ⟨rfl, hw11⟩
      subst hw11
      go_wp2_with fail
      refine (hlk1 _).mono ?_
      rintro e w11 ⟨rfl, hw11⟩
      subst hw11
      clear c0 c1 hlk0 hlk1
      rcases hout with hKd | hKd
      case' inr => have hKe : ¬ K < 0 := by omega
      all_goals
        go_wp2_with fail
        refine (rlike_any _ 0 0 (by omega) (by omega)).mono ?_
        rw [like_zero]
        rintro e w11 ⟨rfl, hw11⟩
        subst hw11
        go_wp2_with fail
        refine (num_any' _ _).mono ?_
        rintro e w11 ⟨rfl, hw11⟩
        subst hw11
        clear hmk
        go_wp2_with fail
        refine (search_any _ _ _ _ t hH10.want (by omega) x).mono ?_
        rintro e w12 ⟨i, hi1, rfl, hB1, hw12⟩
        subst hw12
        go_wp2_with fail
        refine (rsearch_any _ _ _ _ t hH10.want (by omega) x).mono ?_
        rintro e w12 ⟨j, hj1, rfl, hB2, hw12⟩
        subst hw12
        obtain rfl := bnd_one HS.out hB1 hB2 (by omega) (by omega)
        clear hB1 hB2
        go_wp2_with fail
        refine (search_any _ _ _ _ l hH10.lent (by omega) x).mono ?_
        rintro e w12 ⟨j, hj2, rfl, hB3, hw12⟩
        subst hw12
        clear hB3
        have hjn : decide ((j : Int) < 0) = false := by simp
        have hjm : decide (n < j) = false := by simp; omega
        go_wp2_with fail
        refine (alike_any _ _ _ _ _ _ l l hH10.lent hH10.arg (alike_self l) (by omega)).mono ?_
        rintro e w13 ⟨rfl, hg13⟩
        have hH13 := hH10.grown hg13
        have hD13 := hD.grown hH13.up
        clear hH10 hg13
        by_cases hjl : j < n
        · obtain ⟨ab, aof, rfl, hab⟩ := hH13.arg.addr hpos
          have hjl2 : j < l.length := by omega
          have cj := hH13.arg.at hjl2
          have hjd : decide (j < n) = true := by simpa using hjl
          have hlj := fun W => rlike_any W _ _ (l[j]).lt hxl
          have hf : Hid (fnd l j x = likeF (l[j]).b x.b) := by show _ = _; unfold fnd; rw [List.getElem?_eq_getElem hjl2]
          rw [hf.out]
          generalize likeF (l[j]).b x.b = lk at *
          generalize l[j] = y at *
          go_wp2_with fail
          refine (hlj _).mono ?_
          rintro e w14 ⟨rfl, hw14⟩
          subst hw14
          have hlk2 : (lk == lk) = true := by simp
          go_wp2_with fail
          refine (works_any _ hD13).mono ?_
          rintro e w14 ⟨rfl, hg14⟩
          go_wp2
          go_ret
          exact ⟨rfl, grown_trans hH13.up hg14 (by simp)⟩
        · have hjd : decide (j < n) = false := by simpa using hjl
          have hf : Hid (fnd l j x = false) := by show _ = _; unfold fnd; rw [List.getElem?_eq_none (by omega)]
          rw [hf.out]
          go_wp2_with fail
          refine (works_any _ hD13).mono ?_
          rintro e w14 ⟨rfl, hg14⟩
          go_wp2
          go_ret
          exact ⟨rfl, grown_trans hH13.up hg14 (by simp)⟩
end Go.Proofs.YtmjcjcpifahpaaaDoor
