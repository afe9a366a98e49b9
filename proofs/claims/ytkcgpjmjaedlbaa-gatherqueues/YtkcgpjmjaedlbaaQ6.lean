/-
  The walks of the queue of calls: Put, Drop.
-/
import Derived.Test.YtkcgpjmjaedlbaaQ5
namespace Go.Proofs.Ytkcgpjmjaedlbaa
open Go.RowKit
set_option linter.unusedVariables false
/-- Calls that a slice shows. -/
structure Vc (w : World) (ao : Option Addr) (n cap : Nat) (l : List Cl) : Prop where
  len : l.length = n
  room : n ≤ cap
  top : cap ≤ maxLen
  nil : ao = none → cap = 0
  cells : ∀ a, ao = some a → ∀ j u, (ccells l)[j]? = some u → w.cell? (a.add j) = some u
theorem Vc.chg {w w' : World} {ao : Option Addr} {n cap : Nat} {l : List Cl} {S : Nat → Prop} (h : Vc w ao n cap l) (hc : Chg w w' S) (hn : ∀ a, ao = some a → ¬ S a.block) : Vc w' ao n cap l :=
  ⟨h.len, h.room, h.top, h.nil, fun a ha j u hu => hc.cell (h.cells a ha j u hu) (by rw [add_block]; exact hn a ha)⟩
theorem Vc.grown {w w' : World} {ao : Option Addr} {n cap : Nat} {l : List Cl} (h : Vc w ao n cap l) (hg : w.grownBy w' none) : Vc w' ao n cap l :=
  h.chg (Chg.of_grown hg (fun _ => False)) (fun _ _ e => e)
theorem Vc.addr {w : World} {ao : Option Addr} {n cap : Nat} {l : List Cl} (h : Vc w ao n cap l) (hn : 0 < n) : ∃ b o, ao = some ⟨b, o, none⟩ ∧ b < w.heap.size := by
  cases ao with
  | none => have := h.nil rfl; have := h.room; omega
  | some a =>
    have hl : 0 < (ccells l).length := by rw [ccells_len, h.len]; omega
    have h0 := h.cells a rfl 0 (ccells l)[0] (by simp [hl])
    have h1 : a.add 0 = a := by simp [Addr.add]
    rw [h1] at h0
    have h2 := World.block_lt_of_cell? w a h0
    obtain ⟨b, o, sp⟩ := a
    cases sp with
    | none => exact ⟨b, o, rfl, h2⟩
    | some q => simp only [World.cell?, Option.isSome_some, if_true] at h0; split at h0 <;> cases h0
theorem Vc.at {w : World} {b o n cap : Nat} {l : List Cl} (h : Vc w (some ⟨b, o, none⟩) n cap l) {j : Nat} {u : Value} (hj : (ccells l)[j]? = some u) : w.cell? ⟨b, o + j, none⟩ = some u := by
  have := h.cells _ rfl j u hj
  rw [Addr.add_lit] at this
  exact this
namespace Rq

set_option maxRecDepth 100000 in
set_option maxHeartbeats 400000 in
theorem put_full (w : World) (b g bnd f m c : Nat) (xo : Option Addr) (l : List Cl) (h : Rg w b g bnd f l) (hm : bnd - l.length < m) :
    Calls Try.prog 36 #[.pointer (some ⟨b, 0, none⟩), .slice xo m c] w fun e w' => e = .returned (.int .i64 6) ∧ w.grownBy w' none := by
  have hlen := h.len
  have htop := h.top
  have h2 := h.c2
  have hd : decide ((m : Int) > (bnd : Int) - (l.length : Int)) = true := by simp; omega
  go_enter Try.func36, Try.ntmps36
  go_wp2_with fail
  refine (there_yes _ b g bnd f _ h.hd h.pos).mono ?_
  rintro e w1 ⟨rfl, rfl⟩
  go_wp2_with fail
  go_quiet ((go_at_call 49; exact Calls.quiet_of_same (bound_any _ b g bnd f _ (h.grown (grown_drewN _ _ none)).hd h.pos)))
  go_wp2
  go_ret
  exact ⟨rfl, grown_drewN _ _ none⟩

set_option maxRecDepth 100000 in
set_option maxHeartbeats 400000 in
theorem put_any (w : World) (b g bnd f m c : Nat) (xo : Option Addr) (l k : List Cl) (h : Rg w b g bnd f l) (hv : Vc w xo m c k) (hm : l.length + m ≤ bnd) (hx : ∀ a, xo = some a → a.block ≠ g) (hxs : xo = none ∨ ∃ xb xf, xo = some ⟨xb, xf, none⟩) :
    Calls Try.prog 36 #[.pointer (some ⟨b, 0, none⟩), .slice xo m c] w fun e w' => e = .returned (.int .i64 0) ∧ Rg w' b g bnd f (l ++ k) ∧ Chg w w' (two b g) := by
  have hlen := h.len
  have htop := h.top
  have hf := h.fst
  have h2 := h.c2
  have hd : decide ((m : Int) > (bnd : Int) - (l.length : Int)) = false := by simp; omega
  go_enter Try.func36, Try.ntmps36
  go_wp2_with fail
  refine (there_yes _ b g bnd f _ h.hd h.pos).mono ?_
  rintro e w1 ⟨rfl, rfl⟩
  go_wp2_with fail
  go_quiet ((go_at_call 49; exact Calls.quiet_of_same (bound_any _ b g bnd f _ (h.grown (grown_drewN _ _ none)).hd h.pos)))
  have hgw := grown_drewN w1 nq none
  have hA := h.grown hgw
  have hvA := hv.grown hgw
  clear h hv h2
  generalize w1.drewN nq = w2 at *
  obtain ⟨cur, hro, hrm⟩ := hA.row
  have hbg := hA.ne
  have hcl := hrm.size
  have hkl := hvA.len
  have hmc := hvA.room
  obtain ⟨p, hp⟩ : ∃ p, p = (f + l.length) % bnd := ⟨_, rfl⟩
  obtain ⟨a, ha⟩ : ∃ a, a = min m (bnd - p) := ⟨_, rfl⟩
  have hput := hrm.put (k := k) (by omega) p a hp (by rw [hkl]; exact ha)
  have hpb : p < bnd := by rw [hp]; exact Nat.mod_lt _ (by omega)
  have HP : Hid (p = (f + l.length) % bnd) := hp
  have HA : Hid (a = min m (bnd - p)) := ha
  have ha1 : a ≤ m := by omega
  have ha2 : a ≤ bnd - p := by omega
  clear hp ha
  have hX1 : (k.take a).length = a := by simp; omega
  have hX2 : (k.drop a).length = m - a := by simp; omega
  have hg1 : ∀ j u, (ccells (k.take a))[j]? = some u → (ccells k)[j]? = some u := fun j u hu => by
    have hj : j < a * 5 := by have := (List.getElem?_eq_some_iff.1 hu).1; rw [ccells_len, hX1] at this; exact this
    rw [← ccells_take, List.getElem?_take_of_lt hj] at hu; exact hu
  have hg2 : ∀ j u, (ccells (k.drop a))[j]? = some u → (ccells k)[a * 5 + j]? = some u := fun j u hu => by rw [← ccells_drop, List.getElem?_drop] at hu; exact hu
  generalize k.take a = X1 at *
  generalize k.drop a = X2 at *
  have hh := hA.hd
  have h2 := hh.c2
  clear hA
  go_wp2_with fail
  refine (places_any _ b g bnd f l.length m _ p a hh hf htop hlen (by omega) HP HA).mono ?_
  rintro e w3 ⟨rfl, hgw3⟩
  have hro3 := hro.grown hgw3
  have hh3 := hh.chg (Chg.of_grown hgw3 (fun _ => False)) (fun e => e)
  have hv3 := hvA.grown hgw3
  have hC3 : Chg w1 w3 (two b g) := (Chg.of_grown hgw _).trans (Chg.of_grown hgw3 _)
  clear hro hh hvA hgw hgw3 h2 HP HA
  go_wp2_with (refine wpList_copy5 _ rfl (.tmp 32) (.tmp 33) rfl rfl rfl g p cur hro3 X1 (by rw [hX1]; exact (Nat.min_eq_right ha1).symm) (fun hp => ⟨rfl, by
    obtain ⟨xb, xf, rfl, hxb⟩ := hv3.addr (by omega)
    exact ⟨_, rfl, fun j v hj => hv3.cells _ rfl j v (hg1 j v hj)⟩⟩) (by omega) ?_)
  intro w4 hro4 hc4 hsz4
  have hh4 := hh3.chg hc4 hbg
  have hv4 := hv3.chg hc4 hx
  have hC4 := hC3.trans (hc4.mono (fun k _ e => Or.inr e))
  clear hro3 hh3 hv3 hC3 hc4
  have hfit : 0 + X2.length ≤ (splc cur p X1).length := by rw [splc_len _ _ _ (by omega)]; omega
  have hfin : ∀ w5, Ro5 w5 g (splc (splc cur p X1) 0 X2) → Chg w4 w5 (fun k => k = g) → ∃ c2, w5.cell? ⟨b, 2, none⟩ = some (.int .i64 c2) ∧ c2 = (l.length : Int) ∧ (∀ i, w5.frozen? ⟨b, i, none⟩ = false) ∧ Rg (w5.setCell ⟨b, 2, none⟩ (.int .i64 ((l.length : Int) + (m : Int)))) b g bnd f (l ++ k) ∧ Chg w1 (w5.setCell ⟨b, 2, none⟩ (.int .i64 ((l.length : Int) + (m : Int)))) (two b g) := by
    intro w5 hro5 hc5
    have hh5 := hh4.chg hc5 hbg
    have hh6 := hh5.count (l.length + m)
    have hc6 := setCell_chg w5 b 2 (.int .i64 ((l.length + m : Nat) : Int))
    rw [show ((l.length + m : Nat) : Int) = (l.length : Int) + (m : Int) by omega] at hh6 hc6
    refine ⟨_, hh5.c2, rfl, hh5.fz, ⟨hh6.c0, hh6.c1, ?_, hh6.fz, ⟨_, hro5.chg hc6 (Ne.symm hbg), hput⟩, htop, hbg⟩, (hC4.trans (hc5.mono (fun k _ e => Or.inr e))).trans (hc6.mono (fun k _ e => Or.inl e))⟩
    rw [hh6.c2, List.length_append, hkl]
  have hi1 : (0 : Int) ≤ (a : Int) := by omega
  have hi3 : (a : Int) ≤ (m : Int) := by omega
  have hi4 : (m : Int) ≤ (c : Int) := by omega
  rcases hxs with rfl | ⟨xb, xf, rfl⟩
  · have hc0 := hv4.nil rfl
    obtain rfl : c = 0 := hc0
    obtain rfl : m = 0 := by omega
    obtain rfl : a = 0 := by omega
    obtain rfl : X2 = [] := List.eq_nil_of_length_eq_zero (by omega)
    clear hX2 hg2
    go_wp2_with (refine wpList_copy5 _ rfl (.tmp 35) (.tmp 38) rfl rfl rfl g 0 _ hro4 [] rfl (fun hp => absurd hp (by decide)) hfit ?_)
    intro w5 hro5 hc5 hsz5
    obtain ⟨c2, k2, rfl, kf, hR, hC⟩ := hfin w5 hro5 hc5
    clear hfin hro5 hc5 hro4 hh4 hv4 hC4
    go_wp2
    go_ret
    exact ⟨rfl, hR, hC⟩
  · by_cases hca : c = a
    · subst hca
      obtain rfl : m = c := by omega
      obtain rfl : X2 = [] := List.eq_nil_of_length_eq_zero (by omega)
      clear hX2 hg2
      go_wp2_with (refine wpList_copy5 _ rfl (.tmp 35) (.tmp 38) rfl rfl rfl g 0 _ hro4 [] (by show 0 = min _ _; omega) (fun hp => absurd hp (by decide)) hfit ?_)
      intro w5 hro5 hc5 hsz5
      obtain ⟨c2, k2, rfl, kf, hR, hC⟩ := hfin w5 hro5 hc5
      clear hfin hro5 hc5 hro4 hh4 hv4 hC4
      go_wp2
      go_ret
      exact ⟨rfl, hR, hC⟩
    · go_wp2_with (refine wpList_copy5 _ rfl (.tmp 35) (.tmp 38) rfl rfl rfl g 0 _ hro4 X2 (by rw [hX2]; exact (Nat.min_self _).symm) (fun hp => ⟨rfl, _, rfl, fun j v hj => by
        rw [Addr.add_lit, Nat.add_assoc]; exact hv4.at (hg2 j v hj)⟩) hfit ?_)
      intro w5 hro5 hc5 hsz5
      obtain ⟨c2, k2, rfl, kf, hR, hC⟩ := hfin w5 hro5 hc5
      clear hfin hro5 hc5 hro4 hh4 hv4 hC4
      go_wp2
      go_ret
      exact ⟨rfl, hR, hC⟩

set_option maxRecDepth 100000 in
set_option maxHeartbeats 400000 in
theorem drop_low (w : World) (b g bnd f : Nat) (n : Int) (l : List Cl) (h : Rg w b g bnd f l) (hn : n < 0) :
    Calls Try.prog 45 #[.pointer (some ⟨b, 0, none⟩), .int .i64 n] w fun e w' => e = .returned (.tuple #[.slice none 0 0, .int .i64 2]) ∧ w' = w := by
  go_enter Try.func45, Try.ntmps45
  go_wp2_with fail
  refine (there_yes _ b g bnd f _ h.hd h.pos).mono ?_
  rintro e w1 ⟨rfl, rfl⟩
  go_wp2
  go_ret2
  exact ⟨rfl, rfl⟩

set_option maxRecDepth 100000 in
set_option maxHeartbeats 400000 in
theorem drop_far (w : World) (b g bnd f : Nat) (n : Int) (l : List Cl) (h : Rg w b g bnd f l) (hn : (l.length : Int) < n) :
    Calls Try.prog 45 #[.pointer (some ⟨b, 0, none⟩), .int .i64 n] w fun e w' => e = .returned (.tuple #[.slice none 0 0, .int .i64 4]) ∧ w' = w := by
  have h2 := h.c2
  have hd : decide (n < 0) = false := by simp; omega
  have hd2 : decide (n > (l.length : Int)) = true := by simp; omega
  go_enter Try.func45, Try.ntmps45
  go_wp2_with fail
  refine (there_yes _ b g bnd f _ h.hd h.pos).mono ?_
  rintro e w1 ⟨rfl, rfl⟩
  go_wp2
  go_ret2
  exact ⟨rfl, rfl⟩

set_option maxRecDepth 100000 in
set_option maxHeartbeats 400000 in
theorem drop_any (w : World) (b g bnd f n : Nat) (l : List Cl) (h : Rg w b g bnd f l) (hn : n ≤ l.length) :
    Calls Try.prog 45 #[.pointer (some ⟨b, 0, none⟩), .int .i64 n] w fun e w' => ∃ o, e = .returned (.tuple #[.slice (some ⟨o, 0, none⟩) n n, .int .i64 0]) ∧ Ro5 w' o (l.take n) ∧ w.heap.size ≤ o ∧ Rg w' b g bnd ((f + n) % bnd) (l.drop n) ∧ Chg w w' (two b g) := by
  have h2 := h.c2
  have hd : decide ((n : Int) < 0) = false := by simp
  have hd2 : decide ((n : Int) > (l.length : Int)) = false := by simp; omega
  have hb := h.lt
  have hg := h.glt
  go_enter Try.func45, Try.ntmps45
  go_wp2_with fail
  refine (there_yes _ b g bnd f _ h.hd h.pos).mono ?_
  rintro e w1 ⟨rfl, rfl⟩
  go_wp2_with fail
  refine (begin_any _ b g bnd f n l h hn).mono ?_
  rintro e w2 ⟨o, rfl, hro, ho, hgw2⟩
  have hr2 := h.grown hgw2
  clear h h2
  go_wp2_with fail
  refine (leave_any _ b g bnd f n l hr2 hn).mono ?_
  rintro e w3 ⟨rfl, hr3, hc3⟩
  have hro3 := hro.chg hc3 (by rintro (e | e) <;> omega)
  have hC := (Chg.of_grown hgw2 (two b g)).trans hc3
  clear hr2 hro hgw2 hc3
  go_wp2
  go_ret2
  exact ⟨o, rfl, hro3, ho, hr3, hC⟩

end Rq
end Go.Proofs.Ytkcgpjmjaedlbaa
