/-
  ask: the walks, call by call.
-/
import Derived.Test.YtabnpgmkccmneaaQ4
namespace Go.Proofs.Ytabnpgmkccmneaa
open Go.RowKit Go.Shelf
set_option linter.unusedVariables false

/-- Both queues, apart, with the same in them. -/
structure As (w : World) (b g rb bnd f : Nat) (lo : Option Addr) (n c : Nat) (L : List Int) : Prop where
  r : Rg w 3 b g bnd f (L.map (.int .i64))
  d : Rw w rb bnd lo n c L
  ap : rb ≠ b ∧ rb ≠ g ∧ ∀ a, lo = some a → a.block ≠ b ∧ a.block ≠ g
  lo : ∀ a, lo = some a → a.block < w.heap.size

theorem As.grown {w w' : World} {b g rb bnd f : Nat} {lo : Option Addr} {n c : Nat} {L : List Int} (h : As w b g rb bnd f lo n c L) (hg : w.grownBy w' none) : As w' b g rb bnd f lo n c L := ⟨h.r.grown hg, h.d.grown hg, h.ap, fun a ha => Nat.lt_of_lt_of_le (h.lo a ha) hg.size⟩

/-- The three blocks that may turn. -/
def three (b g rb k : Nat) : Prop := k = b ∨ k = g ∨ k = rb

/-- Behind a call of ask. -/
def Done (w w' : World) (b g rb bnd : Nat) (lo : Option Addr) : Prop := ∃ f' lo' n' c' L', As w' b g rb bnd f' lo' n' c' L' ∧ (∀ a, lo' = some a → lo = some a ∨ w.heap.size ≤ a.block) ∧ Chg w w' (three b g rb)

theorem two_three {w w' : World} {b g : Nat} (h : Chg w w' (two b g)) (rb : Nat) : Chg w w' (three b g rb) := h.mono (fun k _ e => by rcases e with e | e; exact Or.inl e; exact Or.inr (Or.inl e))
theorem one_three {w w' : World} {rb : Nat} (h : Chg w w' (fun k => k = rb)) (b g : Nat) : Chg w w' (three b g rb) := h.mono (fun k _ e => Or.inr (Or.inr e))
/-- A new block of ours may turn too. -/
theorem Chg.new {w w1 w' : World} {S : Nat → Prop} {g : Nat} (h : Chg w w1 S) (h2 : Chg w1 w' (fun k => k = g)) (hg : w.heap.size ≤ g) : Chg w w' S :=
  ⟨h2.os.trans h.os, h2.tape.trans h.tape, h2.output.trans h.output, Nat.le_trans h.size h2.size, fun k hk hn => (h2.block k (Nat.lt_of_lt_of_le hk h.size) (by omega)).trans (h.block k hk hn)⟩

/-- The argument's box. -/
theorem box4 (w : World) (v0 v1 v2 v3 : Value) (t : TypeId) : (w.alloc (.cells #[v0, v1, v2, v3] t)).cell? ⟨w.heap.size, 0, none⟩ = some v0 ∧ (w.alloc (.cells #[v0, v1, v2, v3] t)).cell? ⟨w.heap.size, 1, none⟩ = some v1 ∧ (w.alloc (.cells #[v0, v1, v2, v3] t)).cell? ⟨w.heap.size, 2, none⟩ = some v2 ∧ (w.alloc (.cells #[v0, v1, v2, v3] t)).cell? ⟨w.heap.size, 3, none⟩ = some v3 := by simp

set_option maxRecDepth 100000 in
set_option maxHeartbeats 1000000 in
theorem ask_else (w : World) (b g rb bnd f : Nat) (lo : Option Addr) (n c : Nat) (L : List Int) (h : As w b g rb bnd f lo n c L) (xo : Option Addr) (m cx : Nat) (K N M : Int) (hK : K < 0 ∨ 7 < K) :
    Calls Try.prog 10 #[.pointer (some ⟨b, 0, none⟩), .pointer (some ⟨rb, 0, none⟩), .agg #[.int .i64 K, .int .i64 N, .int .i64 M, .slice xo m cx]] w fun e w' => e = .returned (.bool true) ∧ Done w w' b g rb bnd lo := by
  have hga := World.grownBy_alloc w (.cells #[.int .i64 K, .int .i64 N, .int .i64 M, .slice xo m cx] 36) none
  obtain ⟨q0, q1, q2, q3⟩ := box4 w (.int .i64 K) (.int .i64 N) (.int .i64 M) (.slice xo m cx) 36
  have hA := h.grown hga
  have hlr := h.r.lt
  have hlg := h.r.glt
  have hlrb := h.d.lt
  have hnl := h.d.len
  obtain ⟨ap1, ap2, ap3⟩ := h.ap
  have hlo := h.lo
  have hs1 := hga.size
  have e0 : (K == 0) = false := by simp; omega
  have e1 : (K == 1) = false := by simp; omega
  have e2 : (K == 2) = false := by simp; omega
  have e3 : (K == 3) = false := by simp; omega
  have e4 : (K == 4) = false := by simp; omega
  have e5 : (K == 5) = false := by simp; omega
  have e6 : (K == 6) = false := by simp; omega
  have e7 : (K == 7) = false := by simp; omega
  go_enter Try.func10, Try.ntmps10
  go_wp2
  go_ret
  exact ⟨rfl, f, lo, n, c, L, hA, fun a ha => Or.inl ha, Chg.of_grown hga _⟩

set_option maxRecDepth 100000 in
set_option maxHeartbeats 1000000 in
theorem ask_list (w : World) (b g rb bnd f : Nat) (lo : Option Addr) (n c : Nat) (L : List Int) (h : As w b g rb bnd f lo n c L) (xo : Option Addr) (m cx : Nat) (K N M : Int) (hK : K = 5) :
    Calls Try.prog 10 #[.pointer (some ⟨b, 0, none⟩), .pointer (some ⟨rb, 0, none⟩), .agg #[.int .i64 K, .int .i64 N, .int .i64 M, .slice xo m cx]] w fun e w' => e = .returned (.bool true) ∧ Done w w' b g rb bnd lo := by
  have hga := World.grownBy_alloc w (.cells #[.int .i64 K, .int .i64 N, .int .i64 M, .slice xo m cx] 36) none
  obtain ⟨q0, q1, q2, q3⟩ := box4 w (.int .i64 K) (.int .i64 N) (.int .i64 M) (.slice xo m cx) 36
  have hA := h.grown hga
  have hlr := h.r.lt
  have hlg := h.r.glt
  have hlrb := h.d.lt
  have hnl := h.d.len
  obtain ⟨ap1, ap2, ap3⟩ := h.ap
  have hlo := h.lo
  have hs1 := hga.size
  subst hK
  go_enter Try.func10, Try.ntmps10
  go_wp2_with (go_at_call 15; refine (Ri.list_any _ b g bnd f _ hA.r).mono ?_)
  rintro e w2 ⟨o, rfl, hro, ho, hg2⟩
  have hg02 := grown_trans hga hg2 (by simp)
  have hB := h.grown hg02
  have k0 := hB.d.c0
  have hvl := hro.shows hB.r.one (by rw [List.length_map, hnl]; have h8 := hB.d.le; have h9 := hB.d.top; unfold maxLen; omega)
  rw [List.length_map, hnl] at hvl
  simp only [List.length_map, hnl]
  have hs2 := hg02.size
  clear hA q0 q1 q2 q3
  go_wp2_with (first | (go_at_call 14; refine (same_yes _ _ _ n _ _ L hvl hB.d.vs (by have h8 := hB.d.le; have h9 := hB.d.top; omega)).mono ?_))
  rintro e w3 ⟨rfl, hg3⟩
  have hro3 := hro.grown hg3
  have hC := hB.grown hg3
  clear hB k0 hvl hro
  go_wp2_with (go_at_call 32; refine (spoil_any _ o n n _ hro3 (by rw [List.length_map, hnl]; exact Nat.le_refl _) (by have h8 := hC.d.le; have h9 := hC.d.top; omega)).mono ?_; rintro e w4 ⟨rfl, hc4⟩)
  go_ret
  have hD : As w4 b g rb bnd f lo n c L := ⟨hC.r.chg hc4 (by omega) (by omega), hC.d.chg hc4 (by omega) (fun a ha e => by have h8 := hlo a ha; omega), hC.ap, fun a ha => by have h8 := hlo a ha; have h9 := hg02.size; have h7 := hg3.size; have h6 := hc4.size; omega⟩
  exact ⟨rfl, f, lo, n, c, L, hD, fun a ha => Or.inl ha, (Chg.of_grown (grown_trans hg02 hg3 (by simp)) _).new hc4 (by omega)⟩

set_option maxRecDepth 100000 in
set_option maxHeartbeats 1000000 in
theorem ask_clear (w : World) (b g rb bnd f : Nat) (lo : Option Addr) (n c : Nat) (L : List Int) (h : As w b g rb bnd f lo n c L) (xo : Option Addr) (m cx : Nat) (K N M : Int) (hK : K = 6) :
    Calls Try.prog 10 #[.pointer (some ⟨b, 0, none⟩), .pointer (some ⟨rb, 0, none⟩), .agg #[.int .i64 K, .int .i64 N, .int .i64 M, .slice xo m cx]] w fun e w' => e = .returned (.bool true) ∧ Done w w' b g rb bnd lo := by
  have hga := World.grownBy_alloc w (.cells #[.int .i64 K, .int .i64 N, .int .i64 M, .slice xo m cx] 36) none
  obtain ⟨q0, q1, q2, q3⟩ := box4 w (.int .i64 K) (.int .i64 N) (.int .i64 M) (.slice xo m cx) 36
  have hA := h.grown hga
  have hlr := h.r.lt
  have hlg := h.r.glt
  have hlrb := h.d.lt
  have hnl := h.d.len
  obtain ⟨ap1, ap2, ap3⟩ := h.ap
  have hlo := h.lo
  have hs1 := hga.size
  subst hK
  go_enter Try.func10, Try.ntmps10
  go_wp2_with (go_at_call 35; refine (Ri.clear_any _ b g bnd f _ hA.r).mono ?_)
  rintro e w2 ⟨o, rfl, hro, ho, ⟨f2, hr2⟩, hc2⟩
  have hB := hA.d.chg hc2 (by rintro (e | e) <;> omega) (fun a ha => by rintro (e | e); exact (ap3 a ha).1 e; exact (ap3 a ha).2 e)
  have k0 := hB.c0
  have hle := hB.le
  have htop := hB.top
  simp only [List.length_map, hnl]
  have hs2 := hc2.size
  have hol := hro.lt
  clear hA q0 q1 q2 q3
  go_wp2_with (go_at_call 34; refine (refDrop_any _ rb bnd lo n c L hB n (Nat.le_refl _)).mono ?_)
  rintro e w3 ⟨rfl, ⟨lo3, c3, hd3, hlo3⟩, hc3⟩
  rw [Nat.sub_self, List.drop_of_length_le (by omega)] at hd3
  have hro3 := hro.chg hc3 (by omega)
  have hr3 := hr2.chg hc3 (by omega) (by omega)
  have hvl := hro3.shows (fun u hu => by obtain ⟨x, _, rfl⟩ := List.mem_map.1 hu; rfl) (by rw [List.length_map, hnl]; unfold maxLen; omega)
  rw [List.length_map, hnl] at hvl
  have hv3 := hB.vs.chg hc3 (fun a ha e => hB.ap a ha e)
  have hs3 := hc3.size
  clear k0 hro hr2
  go_wp2_with (first | (go_at_call 8; refine (num_any _ _).mono ?_; rintro e w' ⟨rfl, hw'⟩; replace hw' := hw'.symm; subst hw') | (go_at_call 14; refine (same_yes _ _ _ n _ _ L hvl hv3 (by omega)).mono ?_))
  rintro e w4 ⟨rfl, hg4⟩
  have hro4 := hro3.grown hg4
  have hs4 := hg4.size
  clear hvl hv3 hro3
  go_wp2_with (go_at_call 32; refine (spoil_any _ o n n _ hro4 (by rw [List.length_map, hnl]; exact Nat.le_refl _) (by omega)).mono ?_; rintro e w5 ⟨rfl, hc5⟩)
  go_ret
  have hr4 := hr3.grown hg4
  have hd4 := hd3.grown hg4
  have hs5 := hc5.size
  have hbo : ∀ a, lo3 = some a → a.block ≠ o ∧ a.block < w3.heap.size := fun a ha => by
    have h8 := hlo3 a ha
    exact ⟨by omega, h8.2⟩
  have hD : As w5 b g rb bnd f2 lo3 0 c3 [] := ⟨hr4.chg hc5 (by omega) (by omega), hd4.chg hc5 (by omega) (fun a ha e => (hbo a ha).1 e), ⟨ap1, ap2, fun a ha => by have := hlo3 a ha; omega⟩, fun a ha => by have := (hbo a ha).2; omega⟩
  exact ⟨rfl, f2, lo3, 0, c3, [], hD, fun a ha => Or.inr (by have := hlo3 a ha; omega), ((((Chg.of_grown hga _).trans (two_three hc2 rb)).trans (one_three hc3 b g)).trans (Chg.of_grown hg4 _)).new hc5 (by omega)⟩

set_option maxRecDepth 100000 in
set_option maxHeartbeats 1000000 in
theorem ask_drop_no (w : World) (b g rb bnd f : Nat) (lo : Option Addr) (n c : Nat) (L : List Int) (h : As w b g rb bnd f lo n c L) (xo : Option Addr) (m cx : Nat) (K N M : Int) (hK : K = 3) (hN : N < 0 ∨ (n : Int) < N) :
    Calls Try.prog 10 #[.pointer (some ⟨b, 0, none⟩), .pointer (some ⟨rb, 0, none⟩), .agg #[.int .i64 K, .int .i64 N, .int .i64 M, .slice xo m cx]] w fun e w' => e = .returned (.bool true) ∧ Done w w' b g rb bnd lo := by
  have hga := World.grownBy_alloc w (.cells #[.int .i64 K, .int .i64 N, .int .i64 M, .slice xo m cx] 36) none
  obtain ⟨q0, q1, q2, q3⟩ := box4 w (.int .i64 K) (.int .i64 N) (.int .i64 M) (.slice xo m cx) 36
  have hA := h.grown hga
  have hlr := h.r.lt
  have hlg := h.r.glt
  have hlrb := h.d.lt
  have hnl := h.d.len
  obtain ⟨ap1, ap2, ap3⟩ := h.ap
  have hlo := h.lo
  have hs1 := hga.size
  subst hK
  have hml : ((L.map (Value.int .i64)).length : Int) = (n : Int) := by rw [List.length_map, hnl]
  by_cases hN0 : N < 0
  · have heq := same_yes
    go_enter Try.func10, Try.ntmps10
    go_wp2_with (first | (go_at_call 8; refine (num_any _ _).mono ?_; rintro e w' ⟨rfl, hw'⟩; replace hw' := hw'.symm; subst hw') | (go_at_call 23; refine (Ri.drop_low _ b g bnd f N _ hA.r hN0).mono ?_; rintro e w' ⟨rfl, hw'⟩; replace hw' := hw'.symm; subst hw') | (go_at_call 34; refine (refDrop_low _ rb N hN0).mono ?_; rintro e w' ⟨rfl, hw'⟩; replace hw' := hw'.symm; subst hw') | (go_at_call 32; refine (spoil_none _ none 0).mono ?_; rintro e w' ⟨rfl, hw'⟩; replace hw' := hw'.symm; subst hw') | (go_at_call 14; refine (same_yes _ none none 0 0 0 [] (Vs.empty _) (Vs.empty _) (by omega)).mono ?_; rintro e w4 ⟨rfl, hg4⟩))
    go_ret
    exact ⟨rfl, f, lo, n, c, L, hA.grown hg4, fun a ha => Or.inl ha, Chg.of_grown (grown_trans hga hg4 (by simp)) _⟩
  · have hN1 : (n : Int) < N := by omega
    go_enter Try.func10, Try.ntmps10
    go_wp2_with (first | (go_at_call 8; refine (num_any _ _).mono ?_; rintro e w' ⟨rfl, hw'⟩; replace hw' := hw'.symm; subst hw') | (go_at_call 23; refine (Ri.drop_far _ b g bnd f N _ hA.r (by omega)).mono ?_; rintro e w' ⟨rfl, hw'⟩; replace hw' := hw'.symm; subst hw') | (go_at_call 34; refine (refDrop_far _ rb bnd lo n c L hA.d N hN1).mono ?_; rintro e w' ⟨rfl, hw'⟩; replace hw' := hw'.symm; subst hw') | (go_at_call 32; refine (spoil_none _ none 0).mono ?_; rintro e w' ⟨rfl, hw'⟩; replace hw' := hw'.symm; subst hw') | (go_at_call 14; refine (same_yes _ none none 0 0 0 [] (Vs.empty _) (Vs.empty _) (by omega)).mono ?_; rintro e w4 ⟨rfl, hg4⟩))
    go_ret
    exact ⟨rfl, f, lo, n, c, L, hA.grown hg4, fun a ha => Or.inl ha, Chg.of_grown (grown_trans hga hg4 (by simp)) _⟩

set_option maxRecDepth 100000 in
set_option maxHeartbeats 1000000 in
theorem ask_drop (w : World) (b g rb bnd f : Nat) (lo : Option Addr) (n c : Nat) (L : List Int) (h : As w b g rb bnd f lo n c L) (xo : Option Addr) (m cx : Nat) (K : Int) (k : Nat) (M : Int) (hK : K = 3) (hk : k ≤ n) :
    Calls Try.prog 10 #[.pointer (some ⟨b, 0, none⟩), .pointer (some ⟨rb, 0, none⟩), .agg #[.int .i64 K, .int .i64 k, .int .i64 M, .slice xo m cx]] w fun e w' => e = .returned (.bool true) ∧ Done w w' b g rb bnd lo := by
  have hga := World.grownBy_alloc w (.cells #[.int .i64 K, .int .i64 k, .int .i64 M, .slice xo m cx] 36) none
  obtain ⟨q0, q1, q2, q3⟩ := box4 w (.int .i64 K) (.int .i64 k) (.int .i64 M) (.slice xo m cx) 36
  have hA := h.grown hga
  have hlr := h.r.lt
  have hlg := h.r.glt
  have hlrb := h.d.lt
  have hnl := h.d.len
  obtain ⟨ap1, ap2, ap3⟩ := h.ap
  have hlo := h.lo
  have hs1 := hga.size
  subst hK
  have hle := h.d.le
  have htop := h.d.top
  go_enter Try.func10, Try.ntmps10
  go_wp2_with (go_at_call 23; refine (Ri.drop_any _ b g bnd f k _ hA.r (by rw [List.length_map, hnl]; exact hk)).mono ?_)
  rintro e w2 ⟨o, rfl, hro, ho, hr2, hc2⟩
  rw [← List.map_take] at hro
  rw [← List.map_drop] at hr2
  have hB := hA.d.chg hc2 (by rintro (e | e) <;> omega) (fun a ha => by rintro (e | e); exact (ap3 a ha).1 e; exact (ap3 a ha).2 e)
  have p1 := hc2.cell q1 (by rintro (e | e) <;> (simp at e; omega))
  have hs2 := hc2.size
  have hol := hro.lt
  clear hA q0 q1 q2 q3
  go_wp2_with (go_at_call 34; refine (refDrop_any _ rb bnd lo n c L hB k hk).mono ?_)
  rintro e w3 ⟨rfl, ⟨lo3, c3, hd3, hlo3⟩, hc3⟩
  have hro3 := hro.chg hc3 (by omega)
  have hr3 := hr2.chg hc3 (by omega) (by omega)
  have hkl : (L.take k).length = k := by rw [List.length_take]; omega
  have hvl := hro3.shows (fun u hu => by obtain ⟨x, _, rfl⟩ := List.mem_map.1 hu; rfl) (by rw [List.length_map, hkl]; unfold maxLen; omega)
  rw [List.length_map, hkl] at hvl
  have hv3 : Vs w3 lo k c ((L.take k).map (.int .i64)) := by
    have h8 := hB.vs.chg hc3 (fun a ha e => hB.ap a ha e)
    have hrm := h8.room
    refine ⟨by rw [List.length_map, hkl], by omega, h8.top, h8.nil, fun u hu => by obtain ⟨x, _, rfl⟩ := List.mem_map.1 hu; rfl, fun a ha j u hu => h8.cells a ha j u ?_⟩
    rw [List.map_take, List.getElem?_take] at hu
    split at hu
    · exact hu
    · cases hu
  have hs3 := hc3.size
  clear p1 hro hr2
  go_wp2_with (first | (go_at_call 8; refine (num_any _ _).mono ?_; rintro e w' ⟨rfl, hw'⟩; replace hw' := hw'.symm; subst hw') | (go_at_call 14; refine (same_yes _ _ _ k _ _ (L.take k) hvl hv3 (by omega)).mono ?_))
  rintro e w4 ⟨rfl, hg4⟩
  have hro4 := hro3.grown hg4
  have hs4 := hg4.size
  clear hvl hv3 hro3
  go_wp2_with (first | (go_at_call 8; refine (num_any _ _).mono ?_; rintro e w' ⟨rfl, hw'⟩; replace hw' := hw'.symm; subst hw') | (go_at_call 32; refine (spoil_any _ o k k _ hro4 (by rw [List.length_map, hkl]; exact Nat.le_refl _) (by omega)).mono ?_; rintro e w5 ⟨rfl, hc5⟩))
  go_ret
  have hr4 := hr3.grown hg4
  have hd4 := hd3.grown hg4
  have hs5 := hc5.size
  have hD : As w5 b g rb bnd _ lo3 (n - k) c3 (L.drop k) := ⟨hr4.chg hc5 (by omega) (by omega), hd4.chg hc5 (by omega) (fun a ha e => by have h8 := hlo3 a ha; omega), ⟨ap1, ap2, fun a ha => by have := hlo3 a ha; omega⟩, fun a ha => by have := hlo3 a ha; omega⟩
  exact ⟨rfl, _, lo3, n - k, c3, L.drop k, hD, fun a ha => Or.inr (by have := hlo3 a ha; omega), ((((Chg.of_grown hga _).trans (two_three hc2 rb)).trans (one_three hc3 b g)).trans (Chg.of_grown hg4 _)).new hc5 (by omega)⟩

set_option maxRecDepth 100000 in
set_option maxHeartbeats 1000000 in
theorem ask_take_no (w : World) (b g rb bnd f : Nat) (lo : Option Addr) (n c : Nat) (L : List Int) (h : As w b g rb bnd f lo n c L) (xo : Option Addr) (m cx : Nat) (K N M : Int) (hK : K = 2) (hn : n = 0) :
    Calls Try.prog 10 #[.pointer (some ⟨b, 0, none⟩), .pointer (some ⟨rb, 0, none⟩), .agg #[.int .i64 K, .int .i64 N, .int .i64 M, .slice xo m cx]] w fun e w' => e = .returned (.bool true) ∧ Done w w' b g rb bnd lo := by
  have hga := World.grownBy_alloc w (.cells #[.int .i64 K, .int .i64 N, .int .i64 M, .slice xo m cx] 36) none
  obtain ⟨q0, q1, q2, q3⟩ := box4 w (.int .i64 K) (.int .i64 N) (.int .i64 M) (.slice xo m cx) 36
  have hA := h.grown hga
  have hlr := h.r.lt
  have hlg := h.r.glt
  have hlrb := h.d.lt
  have hnl := h.d.len
  obtain ⟨ap1, ap2, ap3⟩ := h.ap
  have hlo := h.lo
  have hs1 := hga.size
  subst hK
  subst hn
  obtain rfl : L = [] := List.eq_nil_of_length_eq_zero hnl
  go_enter Try.func10, Try.ntmps10
  go_wp2_with (first | (go_at_call 8; refine (num_any _ _).mono ?_; rintro e w' ⟨rfl, hw'⟩; replace hw' := hw'.symm; subst hw') | (go_at_call 33; refine (Ri.take_none _ b g bnd f hA.r).mono ?_; rintro e w' ⟨rfl, hw'⟩; replace hw' := hw'.symm; subst hw') | (go_at_call 34; refine (refDrop_far _ rb bnd lo 0 c [] hA.d 1 (by decide)).mono ?_; rintro e w' ⟨rfl, hw'⟩; replace hw' := hw'.symm; subst hw'))
  go_ret
  exact ⟨rfl, f, lo, 0, c, [], hA, fun a ha => Or.inl ha, Chg.of_grown hga _⟩

set_option maxRecDepth 100000 in
set_option maxHeartbeats 1000000 in
theorem ask_take (w : World) (b g rb bnd f : Nat) (lo : Option Addr) (n c : Nat) (L : List Int) (h : As w b g rb bnd f lo n c L) (xo : Option Addr) (m cx : Nat) (K N M : Int) (hK : K = 2) (hn : 0 < n) :
    Calls Try.prog 10 #[.pointer (some ⟨b, 0, none⟩), .pointer (some ⟨rb, 0, none⟩), .agg #[.int .i64 K, .int .i64 N, .int .i64 M, .slice xo m cx]] w fun e w' => e = .returned (.bool true) ∧ Done w w' b g rb bnd lo := by
  have hga := World.grownBy_alloc w (.cells #[.int .i64 K, .int .i64 N, .int .i64 M, .slice xo m cx] 36) none
  obtain ⟨q0, q1, q2, q3⟩ := box4 w (.int .i64 K) (.int .i64 N) (.int .i64 M) (.slice xo m cx) 36
  have hA := h.grown hga
  have hlr := h.r.lt
  have hlg := h.r.glt
  have hlrb := h.d.lt
  have hnl := h.d.len
  obtain ⟨ap1, ap2, ap3⟩ := h.ap
  have hlo := h.lo
  have hs1 := hga.size
  subst hK
  obtain ⟨z, L2, rfl⟩ : ∃ z L2, L = z :: L2 := by
    cases L with
    | nil => simp at hnl; omega
    | cons z L2 => exact ⟨z, L2, rfl⟩
  go_enter Try.func10, Try.ntmps10
  go_wp2_with (go_at_call 33; refine (Ri.take_any _ b g bnd f _ _ hA.r).mono ?_)
  rintro e w2 ⟨rfl, hr2, hc2⟩
  have hB := hA.d.chg hc2 (by rintro (e | e) <;> omega) (fun a ha => by rintro (e | e); exact (ap3 a ha).1 e; exact (ap3 a ha).2 e)
  have hs2 := hc2.size
  clear hA q0 q1 q2 q3
  go_wp2_with (go_at_call 34; refine (refDrop_any _ rb bnd lo n c _ hB 1 (by omega)).mono ?_)
  rintro e w3 ⟨rfl, ⟨lo3, c3, hd3, hlo3⟩, hc3⟩
  have hr3 := hr2.chg hc3 (by omega) (by omega)
  have hv3 := hB.vs.chg hc3 (fun a ha e => hB.ap a ha e)
  obtain ⟨lb, lf, hla, _⟩ := hv3.addr hn
  have hs3 := hc3.size
  have hD : As w3 b g rb bnd _ lo3 (n - 1) c3 L2 := ⟨hr3, hd3, ⟨ap1, ap2, fun a ha => by have := hlo3 a ha; omega⟩, fun a ha => (hlo3 a ha).2⟩
  have hC : Chg w w3 (three b g rb) := ((Chg.of_grown hga _).trans (two_three hc2 rb)).trans (one_three hc3 b g)
  subst hla
  have kz := hv3.at (j := 0) (u := .int .i64 z) (by simp)
  rw [Nat.add_zero] at kz
  clear hB hr2 hr3 hd3 hv3 hc2 hc3 h
  go_wp2_with (go_at_call 8; refine (num_any _ _).mono ?_; rintro e w' ⟨rfl, hw'⟩; replace hw' := hw'.symm; subst hw')
  go_ret
  exact ⟨rfl, _, lo3, n - 1, c3, L2, hD, fun a ha => Or.inr (by have := hlo3 a ha; omega), hC⟩

end Go.Proofs.Ytabnpgmkccmneaa
