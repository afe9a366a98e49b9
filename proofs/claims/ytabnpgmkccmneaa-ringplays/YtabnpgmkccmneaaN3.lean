/-
  The walks of the program's queue (of whole numbers): Put, Drop, List, Clear, Peek, Take.
-/
import Derived.Test.YtabnpgmkccmneaaN2
namespace Go.Proofs.Ytabnpgmkccmneaa
open Go.RowKit
set_option linter.unusedVariables false
namespace Ri

set_option maxRecDepth 100000 in
set_option maxHeartbeats 400000 in
theorem put_full (w : World) (b g bnd f m c : Nat) (xo : Option Addr) (l : List Value) (h : Rg w 3 b g bnd f l) (hm : bnd - l.length < m) :
    Calls Try.prog 22 #[.pointer (some ⟨b, 0, none⟩), .slice xo m c] w fun e w' => e = .returned (.int .i64 6) ∧ w.grownBy w' none := by
  have hlen := h.len
  have htop := h.top
  have h2 := h.c2
  have hd : decide ((m : Int) > (bnd : Int) - (l.length : Int)) = true := by simp; omega
  go_enter Try.func22, Try.ntmps22
  go_wp2_with fail
  refine (there_yes _ b g bnd f l h).mono ?_
  rintro e w1 ⟨rfl, rfl⟩
  go_wp2_with fail
  go_quiet ((go_at_call 12; exact Calls.quiet_of_same (bound_any _ b g bnd f l (h.grown (grown_drewN _ _ none)))))
  go_wp2
  go_ret
  exact ⟨rfl, grown_drewN _ _ none⟩

set_option maxRecDepth 100000 in
set_option maxHeartbeats 400000 in
theorem put_any (w : World) (b g bnd f m c : Nat) (xo : Option Addr) (l k : List Value) (h : Rg w 3 b g bnd f l) (hv : Vs w xo m c k) (hm : l.length + m ≤ bnd) (hx : ∀ a, xo = some a → a.block ≠ g) (hxs : xo = none ∨ ∃ xb xf, xo = some ⟨xb, xf, none⟩) :
    Calls Try.prog 22 #[.pointer (some ⟨b, 0, none⟩), .slice xo m c] w fun e w' => e = .returned (.int .i64 0) ∧ Rg w' 3 b g bnd f (l ++ k) ∧ Chg w w' (two b g) := by
  have hlen := h.len
  have htop := h.top
  have hf := h.fst
  have h2 := h.c2
  have hd : decide ((m : Int) > (bnd : Int) - (l.length : Int)) = false := by simp; omega
  go_enter Try.func22, Try.ntmps22
  go_wp2_with fail
  refine (there_yes _ b g bnd f l h).mono ?_
  rintro e w1 ⟨rfl, rfl⟩
  go_wp2_with fail
  go_quiet ((go_at_call 12; exact Calls.quiet_of_same (bound_any _ b g bnd f l (h.grown (grown_drewN _ _ none)))))
  have hgw := grown_drewN w1 nq none
  have hA := h.grown hgw
  have hvA := hv.grown hgw
  clear h hv h2
  generalize w1.drewN nq = w2 at *
  obtain ⟨cur, hro, hrm⟩ := hA.row
  have hbg := hA.ne
  have hcl := hrm.size
  have hkl := hvA.len
  have hmc := hvA.room
  obtain ⟨p, hp⟩ : ∃ p, p = (f + l.length) % bnd := ⟨_, rfl⟩
  obtain ⟨a, ha⟩ : ∃ a, a = min m (bnd - p) := ⟨_, rfl⟩
  have hput := hrm.put (k := k) (by omega) p a hp (by rw [hkl]; exact ha)
  have hpb : p < bnd := by rw [hp]; exact Nat.mod_lt _ (by omega)
  have HP : Hid (p = (f + l.length) % bnd) := hp
  have HA : Hid (a = min m (bnd - p)) := ha
  have ha1 : a ≤ m := by omega
  have ha2 : a ≤ bnd - p := by omega
  clear hp ha
  have hone : ∀ u ∈ l ++ k, u.oneCell' = true := fun u hu => by
    rcases List.mem_append.1 hu with h9 | h9
    · exact hA.one u h9
    · exact hvA.one u h9
  have hX1 : (k.take a).length = a := by simp; omega
  have hX2 : (k.drop a).length = m - a := by simp; omega
  have ho1 : ∀ u ∈ k.take a, u.oneCell' = true := fun u hu => hvA.one u (List.mem_of_mem_take hu)
  have ho2 : ∀ u ∈ k.drop a, u.oneCell' = true := fun u hu => hvA.one u (List.mem_of_mem_drop hu)
  have hg1 : ∀ j u, (k.take a)[j]? = some u → k[j]? = some u := fun j u hu => by
    have hj : j < a := by have := (List.getElem?_eq_some_iff.1 hu).1; omega
    rw [List.getElem?_take_of_lt hj] at hu; exact hu
  have hg2 : ∀ j u, (k.drop a)[j]? = some u → k[a + j]? = some u := fun j u hu => by rw [List.getElem?_drop] at hu; exact hu
  generalize k.take a = X1 at *
  generalize k.drop a = X2 at *
  have hh := hA.hd
  have h2 := hh.c2
  clear hA
  go_wp2_with fail
  refine (places_any _ b g bnd f l.length m _ p a hh hf htop hlen (by omega) HP HA).mono ?_
  rintro e w3 ⟨rfl, hgw3⟩
  have hro3 := hro.grown hgw3
  have hh3 := hh.chg (Chg.of_grown hgw3 (fun _ => False)) (fun e => e)
  have hv3 := hvA.grown hgw3
  have hC3 : Chg w1 w3 (two b g) := (Chg.of_grown hgw _).trans (Chg.of_grown hgw3 _)
  clear hro hh hvA hgw hgw3 h2 HP HA
  go_wp2_with (refine wpList_copy_ro _ rfl (.tmp 32) (.tmp 33) 30 rfl 3 Try.underlying30 size1 rfl rfl g p cur hro3 X1 (by rw [hX1]; exact (Nat.min_eq_right ha1).symm) (fun hp => ⟨rfl, by
    obtain ⟨xb, xf, rfl, hxb⟩ := hv3.addr (by omega)
    exact ⟨_, rfl, fun j v hj => hv3.cells _ rfl j v (hg1 j v hj)⟩⟩) (by omega) ho1 ?_)
  intro w4 hro4 hc4 hsz4
  have hh4 := hh3.chg hc4 hbg
  have hv4 := hv3.chg hc4 hx
  have hC4 := hC3.trans (hc4.mono (fun k _ e => Or.inr e))
  clear hro3 hh3 hv3 hC3 hc4
  have hfit : 0 + X2.length ≤ (splice cur p X1).length := by rw [length_splice _ _ _ (by omega)]; omega
  have hfin : ∀ w5, Ro w5 g 3 (splice (splice cur p X1) 0 X2) → Chg w4 w5 (fun k => k = g) → ∃ c2, w5.cell? ⟨b, 2, none⟩ = some (.int .i64 c2) ∧ c2 = (l.length : Int) ∧ (∀ i, w5.frozen? ⟨b, i, none⟩ = false) ∧ Rg (w5.setCell ⟨b, 2, none⟩ (.int .i64 ((l.length : Int) + (m : Int)))) 3 b g bnd f (l ++ k) ∧ Chg w1 (w5.setCell ⟨b, 2, none⟩ (.int .i64 ((l.length : Int) + (m : Int)))) (two b g) := by
    intro w5 hro5 hc5
    have hh5 := hh4.chg hc5 hbg
    have hh6 := hh5.count (l.length + m)
    have hc6 := setCell_chg w5 b 2 (.int .i64 ((l.length + m : Nat) : Int))
    rw [show ((l.length + m : Nat) : Int) = (l.length : Int) + (m : Int) by omega] at hh6 hc6
    refine ⟨_, hh5.c2, rfl, hh5.fz, ⟨hh6.c0, hh6.c1, ?_, hh6.fz, ⟨_, hro5.chg hc6 (Ne.symm hbg), hput⟩, htop, hone, hbg⟩, (hC4.trans (hc5.mono (fun k _ e => Or.inr e))).trans (hc6.mono (fun k _ e => Or.inl e))⟩
    rw [hh6.c2, List.length_append, hkl]
  have hi1 : (0 : Int) ≤ (a : Int) := by omega
  have hi3 : (a : Int) ≤ (m : Int) := by omega
  have hi4 : (m : Int) ≤ (c : Int) := by omega
  rcases hxs with rfl | ⟨xb, xf, rfl⟩
  · have hc0 := hv4.nil rfl
    obtain rfl : c = 0 := hc0
    obtain rfl : m = 0 := by omega
    obtain rfl : a = 0 := by omega
    obtain rfl : X2 = [] := List.eq_nil_of_length_eq_zero (by omega)
    clear hX2 ho2 hg2
    go_wp2_with (refine wpList_copy_ro _ rfl (.tmp 35) (.tmp 38) 30 rfl 3 Try.underlying30 size1 rfl rfl g 0 _ hro4 [] rfl (fun hp => absurd hp (by decide)) hfit (by simp) ?_)
    intro w5 hro5 hc5 hsz5
    obtain ⟨c2, k2, rfl, kf, hR, hC⟩ := hfin w5 hro5 hc5
    clear hfin hro5 hc5 hro4 hh4 hv4 hC4
    go_wp2
    go_ret
    exact ⟨rfl, hR, hC⟩
  · by_cases hca : c = a
    · subst hca
      obtain rfl : m = c := by omega
      obtain rfl : X2 = [] := List.eq_nil_of_length_eq_zero (by omega)
      clear hX2 ho2 hg2
      go_wp2_with (refine wpList_copy_ro _ rfl (.tmp 35) (.tmp 38) 30 rfl 3 Try.underlying30 size1 rfl rfl g 0 _ hro4 [] (by show 0 = min _ _; omega) (fun hp => absurd hp (by decide)) hfit (by simp) ?_)
      intro w5 hro5 hc5 hsz5
      obtain ⟨c2, k2, rfl, kf, hR, hC⟩ := hfin w5 hro5 hc5
      clear hfin hro5 hc5 hro4 hh4 hv4 hC4
      go_wp2
      go_ret
      exact ⟨rfl, hR, hC⟩
    · go_wp2_with (refine wpList_copy_ro _ rfl (.tmp 35) (.tmp 38) 30 rfl 3 Try.underlying30 size1 rfl rfl g 0 _ hro4 X2 (by rw [hX2]; exact (Nat.min_self _).symm) (fun hp => ⟨rfl, _, rfl, fun j v hj => by
        rw [Addr.add_lit, Nat.add_assoc]; exact hv4.at (hg2 j v hj)⟩) hfit ho2 ?_)
      intro w5 hro5 hc5 hsz5
      obtain ⟨c2, k2, rfl, kf, hR, hC⟩ := hfin w5 hro5 hc5
      clear hfin hro5 hc5 hro4 hh4 hv4 hC4
      go_wp2
      go_ret
      exact ⟨rfl, hR, hC⟩

set_option maxRecDepth 100000 in
set_option maxHeartbeats 400000 in
theorem drop_low (w : World) (b g bnd f : Nat) (n : Int) (l : List Value) (h : Rg w 3 b g bnd f l) (hn : n < 0) :
    Calls Try.prog 23 #[.pointer (some ⟨b, 0, none⟩), .int .i64 n] w fun e w' => e = .returned (.tuple #[.slice none 0 0, .int .i64 2]) ∧ w' = w := by
  go_enter Try.func23, Try.ntmps23
  go_wp2_with fail
  refine (there_yes _ b g bnd f l h).mono ?_
  rintro e w1 ⟨rfl, rfl⟩
  go_wp2
  go_ret2
  exact ⟨rfl, rfl⟩

set_option maxRecDepth 100000 in
set_option maxHeartbeats 400000 in
theorem drop_far (w : World) (b g bnd f : Nat) (n : Int) (l : List Value) (h : Rg w 3 b g bnd f l) (hn : (l.length : Int) < n) :
    Calls Try.prog 23 #[.pointer (some ⟨b, 0, none⟩), .int .i64 n] w fun e w' => e = .returned (.tuple #[.slice none 0 0, .int .i64 4]) ∧ w' = w := by
  have h2 := h.c2
  have hd : decide (n < 0) = false := by simp; omega
  have hd2 : decide (n > (l.length : Int)) = true := by simp; omega
  go_enter Try.func23, Try.ntmps23
  go_wp2_with fail
  refine (there_yes _ b g bnd f l h).mono ?_
  rintro e w1 ⟨rfl, rfl⟩
  go_wp2
  go_ret2
  exact ⟨rfl, rfl⟩

set_option maxRecDepth 100000 in
set_option maxHeartbeats 400000 in
theorem drop_any (w : World) (b g bnd f n : Nat) (l : List Value) (h : Rg w 3 b g bnd f l) (hn : n ≤ l.length) :
    Calls Try.prog 23 #[.pointer (some ⟨b, 0, none⟩), .int .i64 n] w fun e w' => ∃ o, e = .returned (.tuple #[.slice (some ⟨o, 0, none⟩) n n, .int .i64 0]) ∧ Ro w' o 3 (l.take n) ∧ w.heap.size ≤ o ∧ Rg w' 3 b g bnd ((f + n) % bnd) (l.drop n) ∧ Chg w w' (two b g) := by
  have h2 := h.c2
  have hd : decide ((n : Int) < 0) = false := by simp
  have hd2 : decide ((n : Int) > (l.length : Int)) = false := by simp; omega
  have hb := h.lt
  have hg := h.glt
  go_enter Try.func23, Try.ntmps23
  go_wp2_with fail
  refine (there_yes _ b g bnd f l h).mono ?_
  rintro e w1 ⟨rfl, rfl⟩
  go_wp2_with fail
  refine (begin_any _ b g bnd f n l h hn).mono ?_
  rintro e w2 ⟨o, rfl, hro, ho, hgw2⟩
  have hr2 := h.grown hgw2
  clear h h2
  go_wp2_with fail
  refine (leave_any _ b g bnd f n l hr2 hn).mono ?_
  rintro e w3 ⟨rfl, hr3, hc3⟩
  have hro3 := hro.chg hc3 (by rintro (e | e) <;> omega)
  have hC := (Chg.of_grown hgw2 (two b g)).trans hc3
  clear hr2 hro hgw2 hc3
  go_wp2
  go_ret2
  exact ⟨o, rfl, hro3, ho, hr3, hC⟩

set_option maxRecDepth 100000 in
set_option maxHeartbeats 400000 in
theorem list_any (w : World) (b g bnd f : Nat) (l : List Value) (h : Rg w 3 b g bnd f l) :
    Calls Try.prog 15 #[.pointer (some ⟨b, 0, none⟩)] w fun e w' => ∃ o, e = .returned (.slice (some ⟨o, 0, none⟩) l.length l.length) ∧ Ro w' o 3 l ∧ w.heap.size ≤ o ∧ w.grownBy w' none := by
  have h2 := h.c2
  go_enter Try.func15, Try.ntmps15
  go_wp2_with fail
  refine (there_yes _ b g bnd f l h).mono ?_
  rintro e w1 ⟨rfl, rfl⟩
  go_wp2_with fail
  refine (begin_any _ b g bnd f l.length l h (Nat.le_refl _)).mono ?_
  rw [List.take_length]
  rintro e w2 ⟨o, rfl, hro, ho, hgw2⟩
  clear h h2
  go_wp2
  go_ret
  exact ⟨o, rfl, hro, ho, hgw2⟩

set_option maxRecDepth 100000 in
set_option maxHeartbeats 400000 in
theorem clear_any (w : World) (b g bnd f : Nat) (l : List Value) (h : Rg w 3 b g bnd f l) :
    Calls Try.prog 35 #[.pointer (some ⟨b, 0, none⟩)] w fun e w' => ∃ o, e = .returned (.slice (some ⟨o, 0, none⟩) l.length l.length) ∧ Ro w' o 3 l ∧ w.heap.size ≤ o ∧ (∃ f', Rg w' 3 b g bnd f' []) ∧ Chg w w' (two b g) := by
  go_enter Try.func35, Try.ntmps35
  go_wp2_with fail
  refine (len_any _ b g bnd f l h).mono ?_
  rintro e w1 ⟨rfl, rfl⟩
  go_wp2_with fail
  refine (drop_any _ b g bnd f l.length l h (Nat.le_refl _)).mono ?_
  rw [List.take_length, List.drop_length]
  rintro e w2 ⟨o, rfl, hro, ho, hr, hc⟩
  clear h
  go_wp2
  go_ret
  exact ⟨o, rfl, hro, ho, ⟨_, hr⟩, hc⟩

set_option maxRecDepth 100000 in
set_option maxHeartbeats 400000 in
theorem peek_out (w : World) (b g bnd f : Nat) (n : Int) (l : List Value) (h : Rg w 3 b g bnd f l) (hn : n < 0 ∨ (l.length : Int) ≤ n) :
    Calls Try.prog 25 #[.pointer (some ⟨b, 0, none⟩), .int .i64 n] w fun e w' => e = .returned (.tuple #[(.int .i64 0), .int .i64 4]) ∧ w' = w := by
  have h2 := h.c2
  by_cases h3 : n < 0
  · have hd : decide (n < 0) = true := by simpa using h3
    go_enter Try.func25, Try.ntmps25
    go_wp2_with fail
    refine (there_yes _ b g bnd f l h).mono ?_
    rintro e w1 ⟨rfl, rfl⟩
    go_wp2
    go_ret2
    exact ⟨rfl, rfl⟩
  · have hd : decide (n < 0) = false := by simpa using h3
    have hd2 : decide (n ≥ (l.length : Int)) = true := by simp; omega
    go_enter Try.func25, Try.ntmps25
    go_wp2_with fail
    refine (there_yes _ b g bnd f l h).mono ?_
    rintro e w1 ⟨rfl, rfl⟩
    go_wp2
    go_ret2
    exact ⟨rfl, rfl⟩

set_option maxRecDepth 100000 in
set_option maxHeartbeats 400000 in
theorem peek_any (w : World) (b g bnd f n : Nat) (l : List Value) (u : Value) (h : Rg w 3 b g bnd f l) (hn : l[n]? = some u) :
    Calls Try.prog 25 #[.pointer (some ⟨b, 0, none⟩), .int .i64 n] w fun e w' => e = .returned (.tuple #[u, .int .i64 0]) ∧ w.grownBy w' none := by
  have h2 := h.c2
  have h0 := h.c0
  have hlt : n < l.length := (List.getElem?_eq_some_iff.1 hn).1
  have hlen := h.len
  have htop := h.top
  have hf := h.fst
  have hd : decide ((n : Int) < 0) = false := by simp
  have hd2 : decide ((n : Int) ≥ (l.length : Int)) = false := by simp; omega
  obtain ⟨cur, hro, hrm⟩ := h.row
  obtain ⟨p, hp⟩ : ∃ p, p = (f + n) % bnd := ⟨_, rfl⟩
  have hpb : p < bnd := by rw [hp]; exact Nat.mod_lt _ (by omega)
  have hu : w.cell? ⟨g, p, none⟩ = some u := by rw [hro.cell, hp, hrm.item n hlt, hn]
  have HP : Hid (p = (f + n) % bnd) := hp
  have hone : u.oneCell' = true := h.one u (List.mem_of_getElem? hn)
  have hi1 : (0 : Int) ≤ (p : Int) := by omega
  have hi2 : (p : Int) < (bnd : Int) := by omega
  have hh := h.hd
  clear hp hrm hn
  go_enter Try.func25, Try.ntmps25
  go_wp2_with fail
  refine (there_yes _ b g bnd f l h).mono ?_
  rintro e w1 ⟨rfl, rfl⟩
  have hcall : ∀ q, Calls Try.prog 45 #[.pointer (some ⟨b, 0, none⟩), .int .i64 n] (w1.drewN q) fun e w' => e = .returned (.int .i64 p) ∧ w' = w1.drewN q := by
    intro q
    rw [HP.out]
    exact place_any _ b g bnd f n _ (hh.chg (Chg.of_grown (grown_drewN w1 q none) (fun _ => False)) (fun e => e)) hf htop (by omega)
  clear h hh hro
  go_wp2_with fail
  go_quiet ((go_at_call 45; exact Calls.quiet_of_same (hcall _)))
  go_wp2
  go_ret2
  exact ⟨rfl, grown_drewN _ _ none⟩

end Ri
end Go.Proofs.Ytabnpgmkccmneaa
