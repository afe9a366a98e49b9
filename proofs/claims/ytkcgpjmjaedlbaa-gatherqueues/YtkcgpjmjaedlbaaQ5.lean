/-
  The walks of the queue of calls: begin, leave, New.
-/
import Derived.Test.YtkcgpjmjaedlbaaQ4
import Derived.Handy
namespace Go.Proofs.Ytkcgpjmjaedlbaa
open Go.RowKit
set_option linter.unusedVariables false
namespace Rq

theorem splc_two (Z X1 X2 : List Cl) (a : Nat) (h1 : X1.length = a) (hZ : Z.length = a + X2.length) : splc (splc Z 0 X1) a X2 = X1 ++ X2 := by
  subst h1
  unfold splc
  rw [List.append_assoc, List.append_assoc]
  simp only [List.take_zero, List.nil_append, Nat.zero_add]
  have e1 : List.drop (X1.length + X2.length) X1 = [] := List.drop_eq_nil_of_le (by omega)
  have e2 : List.drop (X1.length + (X1.length + X2.length - X1.length)) Z = [] := List.drop_eq_nil_of_le (by omega)
  rw [List.take_left' rfl, List.drop_append, List.drop_drop, e1, e2]
  simp

set_option maxRecDepth 100000 in
set_option maxHeartbeats 400000 in
theorem begin_any (w : World) (b g bnd f n : Nat) (l : List Cl) (h : Rg w b g bnd f l) (hn : n ≤ l.length) :
    Calls Try.prog 54 #[.pointer (some ⟨b, 0, none⟩), .int .i64 n] w fun e w' => ∃ o, e = .returned (.slice (some ⟨o, 0, none⟩) n n) ∧ Ro5 w' o (l.take n) ∧ w.heap.size ≤ o ∧ w.grownBy w' none := by
  obtain ⟨cur, hro, hrm⟩ := h.row
  have hf := h.fst
  have hlen := h.len
  have htop := h.top
  obtain ⟨a, ha⟩ : ∃ a, a = min n (bnd - f) := ⟨_, rfl⟩
  have hbeg := hrm.begin n a hn ha
  have hcl := hrm.size
  have ha1 : a ≤ n := by omega
  have ha2 : a ≤ bnd - f := by omega
  have HA : Hid (a = min n (bnd - f)) := ha
  have hP : Hid (f = (f + 0) % bnd) := by show _ = _; rw [Nat.add_zero, Nat.mod_eq_of_lt hf]
  have hx1 : ((cur.drop f).take a).length = a := by simp; omega
  have hx2 : (cur.take (n - a)).length = n - a := by simp; omega
  have HB : Hid ((cur.drop f).take a ++ cur.take (n - a) = l.take n) := hbeg
  have hg1 : ∀ j u, (ccells ((cur.drop f).take a))[j]? = some u → (ccells cur)[f * 5 + j]? = some u := fun j u hu => by
    have hj : j < a * 5 := by have := (List.getElem?_eq_some_iff.1 hu).1; rw [ccells_len, hx1] at this; exact this
    rw [← ccells_take, ← ccells_drop, List.getElem?_take_of_lt hj, List.getElem?_drop] at hu; exact hu
  have hg2 : ∀ j u, (ccells (cur.take (n - a)))[j]? = some u → (ccells cur)[j]? = some u := fun j u hu => by
    have hj : j < (n - a) * 5 := by have := (List.getElem?_eq_some_iff.1 hu).1; rw [ccells_len, hx2] at this; exact this
    rw [← ccells_take, List.getElem?_take_of_lt hj] at hu; exact hu
  generalize (cur.drop f).take a = X1 at *
  generalize cur.take (n - a) = X2 at *
  clear ha hbeg
  have hglt := hro.lt
  have hhd := h.hd
  clear h
  go_enter Try.func54, Try.ntmps54
  go_wp2_with fail
  refine (places_any _ b g bnd f 0 n _ f a hhd hf htop (by omega) (by omega) hP HA).mono ?_
  rintro e w1 ⟨rfl, hgw1⟩
  have hro1 := hro.grown hgw1
  have hs1 := hgw1.size
  go_wp2_with (at_make; refine wpList_make5 _ rfl _ _ rfl n rfl rfl (by omega) ?_)
  intro w2 hro2 hgw2 hlt2
  have hror := hro1.grown hgw2
  have hs2 := hgw2.size
  go_wp2_with (refine wpList_copy5 _ rfl (.tmp 17) (.tmp 18) rfl rfl rfl _ 0 _ hro2 X1 (by rw [hx1]; exact (Nat.min_eq_left ha1).symm) (fun hp => ⟨rfl, _, rfl, fun j v hv => by rw [Addr.add_lit, hror.cell]; exact hg1 j v hv⟩) (by simp; omega) ?_)
  intro w3 hro3 hc3 hsz3
  have hror3 := hror.chg hc3 (by omega)
  have hi1 : (0 : Int) ≤ (a : Int) := by omega
  have hi3 : (a : Int) ≤ (n : Int) := by omega
  have hfin : ∀ w4, Ro5 w4 w1.heap.size (splc (splc (List.replicate n Cl.zero) 0 X1) a X2) → Chg w3 w4 (fun k => k = w1.heap.size) → Ro5 w4 w1.heap.size (l.take n) ∧ w.grownBy w4 none := by
    intro w4 hro4 hc4
    refine ⟨by rw [splc_two _ _ _ _ hx1 (by rw [hx2]; simp; omega), HB.out] at hro4; exact hro4, ?_⟩
    have hcA : Chg w w4 (fun k => k = w1.heap.size) := (((Chg.of_grown hgw1 _).trans (Chg.of_grown hgw2 _)).trans hc3).trans hc4
    exact hcA.grown (fun k hk e => by omega)
  by_cases han : n = a
  · subst han
    obtain rfl : X2 = [] := List.eq_nil_of_length_eq_zero (by omega)
    have hnn : n - n = 0 := by omega
    rw [hnn]
    clear hx2 hg2
    go_wp2_with (refine wpList_copy5 _ rfl (.tmp 22) (.tmp 23) rfl rfl rfl _ n _ hro3 [] rfl (fun hp => absurd hp (by decide)) (by rw [splc_len _ _ _ (by simp; omega), List.length_replicate]; exact Nat.le_refl _) ?_)
    intro w4 hro4 hc4 hsz4
    obtain ⟨hA, hB⟩ := hfin w4 hro4 hc4
    clear hfin hro4 hc4 hro3 hc3 hror3 hror hro2
    go_wp2
    go_ret
    exact ⟨_, rfl, hA, hs1, hB⟩
  · go_wp2_with (refine wpList_copy5 _ rfl (.tmp 22) (.tmp 23) rfl rfl rfl _ a _ hro3 X2 (by rw [hx2]; exact (Nat.min_self _).symm) (fun hp => ⟨by simp, _, rfl, fun j v hv => by rw [Addr.add_lit, Nat.zero_add, hror3.cell]; exact hg2 j v hv⟩) (by rw [splc_len _ _ _ (by simp; omega), List.length_replicate, hx2]; omega) ?_)
    intro w4 hro4 hc4 hsz4
    obtain ⟨hA, hB⟩ := hfin w4 hro4 hc4
    clear hfin hro4 hc4 hro3 hc3 hror3 hror hro2
    go_wp2
    go_ret
    exact ⟨_, rfl, hA, hs1, hB⟩

set_option maxRecDepth 100000 in
set_option maxHeartbeats 400000 in
theorem leave_any (w : World) (b g bnd f n : Nat) (l : List Cl) (h : Rg w b g bnd f l) (hn : n ≤ l.length) :
    Calls Try.prog 55 #[.pointer (some ⟨b, 0, none⟩), .int .i64 n] w fun e w' => e = .returned (.tuple #[]) ∧ Rg w' b g bnd ((f + n) % bnd) (l.drop n) ∧ Chg w w' (two b g) := by
  obtain ⟨cur, hro, hrm⟩ := h.row
  have hf := h.fst
  have hlen := h.len
  have htop := h.top
  have hbg := h.ne
  obtain ⟨a, ha⟩ : ∃ a, a = min n (bnd - f) := ⟨_, rfl⟩
  have hlv := hrm.leave n a Cl.zero hn ha
  have hcl := hrm.size
  have ha1 : a ≤ n := by omega
  have ha2 : a ≤ bnd - f := by omega
  have HA : Hid (a = min n (bnd - f)) := ha
  have hP : Hid (f = (f + 0) % bnd) := by show _ = _; rw [Nat.add_zero, Nat.mod_eq_of_lt hf]
  clear ha
  have hglt := hro.lt
  have hhd := h.hd
  clear h
  go_enter Try.func55, Try.ntmps55
  go_wp2_with fail
  refine (places_any _ b g bnd f 0 n _ f a hhd hf htop (by omega) (by omega) hP HA).mono ?_
  rintro e w1 ⟨rfl, hgw1⟩
  have hro1 := hro.grown hgw1
  have hh1 := hhd.chg (Chg.of_grown hgw1 (fun _ => False)) (fun e => e)
  go_wp2_with (refine wpList_clear5 _ rfl (.tmp 12) rfl rfl g f cur hro1 (fun _ => rfl) (by omega) ?_)
  intro w2 hro2 hc2 hsz2
  have hh2 := hh1.chg hc2 hbg
  go_wp2_with (refine wpList_clear5 _ rfl (.tmp 13) rfl rfl g 0 _ hro2 (fun _ => rfl) (by rw [splc_len _ _ _ (by simp; omega)]; omega) ?_)
  intro w3 hro3 hc3 hsz3
  have hh3 := hh2.chg hc3 hbg
  have hC3 : Chg w w3 (two b g) := (Chg.of_grown hgw1 _).trans ((hc2.mono (fun k _ e => Or.inr e)).trans (hc3.mono (fun k _ e => Or.inr e)))
  clear hro1 hro2 hc2 hc3 hh1 hh2 hro hhd hgw1 hsz2 hsz3
  go_wp2_with fail
  refine (place_any _ b g bnd f n _ hh3 hf htop (by omega)).mono ?_
  rintro e w3 ⟨rfl, rfl⟩
  obtain ⟨f', hf'⟩ : ∃ f', f' = (f + n) % bnd := ⟨_, rfl⟩
  rw [← hf'] at hlv ⊢
  have HF : Hid (f' = (f + n) % bnd) := hf'
  clear hf'
  have hh4 := hh3.first f'
  have hh5 := hh4.count (l.length - n)
  have hc4 := setCell_chg w3 b 1 (.int .i64 f')
  have hc5 := setCell_chg (w3.setCell ⟨b, 1, none⟩ (.int .i64 f')) b 2 (.int .i64 ((l.length - n : Nat) : Int))
  have hC5 := (hC3.trans (hc4.mono (fun k _ e => Or.inl e))).trans (hc5.mono (fun k _ e => Or.inl e))
  have hro5 := (hro3.chg hc4 (Ne.symm hbg)).chg hc5 (Ne.symm hbg)
  have k1 := hh3.c1
  have kf := hh3.fz
  have k2 := hh4.c2
  have hsub : (l.length : Int) - (n : Int) = ((l.length - n : Nat) : Int) := by omega
  clear hc4 hc5
  go_wp2
  go_returns
  rw [← HF.out]
  refine ⟨rfl, ⟨hh5.c0, hh5.c1, by rw [List.length_drop]; exact hh5.c2, hh5.fz, ⟨_, hro5, hlv⟩, htop, hbg⟩, hC5⟩

set_option maxRecDepth 100000 in
set_option maxHeartbeats 400000 in
theorem new_no (w : World) (k : Int) (hk : k < 1 ∨ 256 < k) :
    Calls Try.prog 35 #[.int .i64 k] w fun e w' => e = .returned (.tuple #[.pointer none, .int .i64 2]) ∧ w' = w := by
  by_cases h1 : k < 1
  · have h2 : decide (k < 1) = true := by simpa using h1
    go_enter Try.func35, Try.ntmps35
    go_wp2
    go_ret2
    exact ⟨rfl, rfl⟩
  · have h2 : decide (k < 1) = false := by simpa using h1
    have h3 : decide (k > 256) = true := by simp; omega
    go_enter Try.func35, Try.ntmps35
    go_wp2
    go_ret2
    exact ⟨rfl, rfl⟩

set_option maxRecDepth 100000 in
set_option maxHeartbeats 400000 in
theorem new_any (w : World) (bnd : Nat) (h0 : 1 ≤ bnd) (h1 : bnd ≤ 256) :
    Calls Try.prog 35 #[.int .i64 bnd] w fun e w' => ∃ b g, e = .returned (.tuple #[.pointer (some ⟨b, 0, none⟩), .int .i64 0]) ∧ Rg w' b g bnd 0 [] ∧ w.heap.size ≤ b ∧ w.heap.size ≤ g ∧ w.grownBy w' none := by
  have h2 : decide ((bnd : Int) < 1) = false := by simp; omega
  have h3 : decide ((bnd : Int) > 256) = false := by simp; omega
  go_enter Try.func35, Try.ntmps35
  go_wp2_with (at_make; refine wpList_make5 _ rfl _ _ rfl bnd rfl rfl (by omega) ?_)
  intro w1 hro1 hg1 hs1
  go_wp2
  go_ret2
  have hc2 : Chg w1 (w1.alloc (.cells #[.slice (some ⟨w.heap.size, 0, none⟩) bnd bnd, .int .i64 0, .int .i64 0] 88)) (fun _ => False) := Chg.of_grown (World.grownBy_alloc w1 _ none) _
  have hne : w1.heap.size ≠ w.heap.size := by omega
  refine ⟨w1.heap.size, w.heap.size, rfl, ⟨by simp, by simp, by simp, fun i => by unfold World.frozen?; rw [heap_alloc_new]; simp, ⟨_, hro1.chg hc2 (fun e => e), by simp, by omega, by omega, by simp, fun i hi => by simp at hi⟩, h1, hne⟩, by omega, Nat.le_refl _, (Chg.of_grown hg1 (fun _ => False)).trans hc2 |>.grown (fun _ _ e => e)⟩

end Rq
end Go.Proofs.Ytkcgpjmjaedlbaa
