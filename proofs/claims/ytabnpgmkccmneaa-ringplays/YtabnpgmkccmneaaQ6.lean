/-
  ask: Peek and All.
-/
import Derived.Test.YtabnpgmkccmneaaQ5
import Derived.Deep.RegionHeld3
namespace Go.Proofs.Ytabnpgmkccmneaa
open Go.RowKit Go.Shelf
set_option linter.unusedVariables false

set_option maxRecDepth 100000 in
set_option maxHeartbeats 1000000 in
theorem ask_peek_no (w : World) (b g rb bnd f : Nat) (lo : Option Addr) (n c : Nat) (L : List Int) (h : As w b g rb bnd f lo n c L) (xo : Option Addr) (m cx : Nat) (K N M : Int) (hK : K = 4) (hN : N < 0 ∨ (n : Int) ≤ N) :
    Calls Try.prog 10 #[.pointer (some ⟨b, 0, none⟩), .pointer (some ⟨rb, 0, none⟩), .agg #[.int .i64 K, .int .i64 N, .int .i64 M, .slice xo m cx]] w fun e w' => e = .returned (.bool true) ∧ Done w w' b g rb bnd lo := by
  have hga := World.grownBy_alloc w (.cells #[.int .i64 K, .int .i64 N, .int .i64 M, .slice xo m cx] 36) none
  obtain ⟨q0, q1, q2, q3⟩ := box4 w (.int .i64 K) (.int .i64 N) (.int .i64 M) (.slice xo m cx) 36
  have hA := h.grown hga
  have hlr := h.r.lt
  have hlg := h.r.glt
  have hlrb := h.d.lt
  have hnl := h.d.len
  obtain ⟨ap1, ap2, ap3⟩ := h.ap
  have hlo := h.lo
  have hs1 := hga.size
  subst hK
  have k0 := hA.d.c0
  by_cases hN0 : N < 0
  · have d0 : decide (N < 0) = true := by simpa using hN0
    go_enter Try.func10, Try.ntmps10
    go_wp2_with (go_at_call 25; refine (Ri.peek_out _ b g bnd f N _ hA.r (Or.inl hN0)).mono ?_; rintro e w' ⟨rfl, hw'⟩; replace hw' := hw'.symm; subst hw')
    go_quiet (fail)
    have hg4 := grown_drewN (w.alloc (.cells #[.int .i64 4, .int .i64 N, .int .i64 M, .slice xo m cx] 36)) nq none
    go_wp2_with (go_at_call 8; refine (num_any _ _).mono ?_; rintro e w' ⟨rfl, hw'⟩; replace hw' := hw'.symm; subst hw')
    go_ret
    exact ⟨rfl, f, lo, n, c, L, hA.grown hg4, fun a ha => Or.inl ha, Chg.of_grown (grown_trans hga hg4 (by simp)) _⟩
  · have d0 : decide (N < 0) = false := by simpa using hN0
    have d1 : decide (N ≥ (n : Int)) = true := by simp; omega
    go_enter Try.func10, Try.ntmps10
    go_wp2_with (go_at_call 25; refine (Ri.peek_out _ b g bnd f N _ hA.r (Or.inr (by rw [List.length_map, hnl]; omega))).mono ?_; rintro e w' ⟨rfl, hw'⟩; replace hw' := hw'.symm; subst hw')
    go_quiet (fail)
    have hg4 := grown_drewN (w.alloc (.cells #[.int .i64 4, .int .i64 N, .int .i64 M, .slice xo m cx] 36)) nq none
    go_wp2_with (go_at_call 8; refine (num_any _ _).mono ?_; rintro e w' ⟨rfl, hw'⟩; replace hw' := hw'.symm; subst hw')
    go_ret
    exact ⟨rfl, f, lo, n, c, L, hA.grown hg4, fun a ha => Or.inl ha, Chg.of_grown (grown_trans hga hg4 (by simp)) _⟩

set_option maxRecDepth 100000 in
set_option maxHeartbeats 1000000 in
theorem ask_peek (w : World) (b g rb bnd f : Nat) (lo : Option Addr) (n c : Nat) (L : List Int) (h : As w b g rb bnd f lo n c L) (xo : Option Addr) (m cx : Nat) (K : Int) (k : Nat) (M : Int) (hK : K = 4) (hk : k < n) :
    Calls Try.prog 10 #[.pointer (some ⟨b, 0, none⟩), .pointer (some ⟨rb, 0, none⟩), .agg #[.int .i64 K, .int .i64 k, .int .i64 M, .slice xo m cx]] w fun e w' => e = .returned (.bool true) ∧ Done w w' b g rb bnd lo := by
  have hga := World.grownBy_alloc w (.cells #[.int .i64 K, .int .i64 k, .int .i64 M, .slice xo m cx] 36) none
  obtain ⟨q0, q1, q2, q3⟩ := box4 w (.int .i64 K) (.int .i64 k) (.int .i64 M) (.slice xo m cx) 36
  have hA := h.grown hga
  have hlr := h.r.lt
  have hlg := h.r.glt
  have hlrb := h.d.lt
  have hnl := h.d.len
  obtain ⟨ap1, ap2, ap3⟩ := h.ap
  have hlo := h.lo
  have hs1 := hga.size
  subst hK
  obtain ⟨z, hz⟩ : ∃ z, L[k]? = some z := ⟨_, List.getElem?_eq_getElem (by omega)⟩
  have hmz : (L.map (Value.int .i64))[k]? = some (.int .i64 z) := by rw [List.getElem?_map, hz]; rfl
  have d0 : decide ((k : Int) < 0) = false := by simp
  have d1 : decide (n ≤ k) = false := by simp; omega
  obtain ⟨lb, lf, hla, _⟩ := h.d.vs.addr (by omega)
  subst hla
  go_enter Try.func10, Try.ntmps10
  go_wp2_with (go_at_call 25; refine (Ri.peek_any _ b g bnd f k _ _ hA.r hmz).mono ?_)
  rintro e w2 ⟨rfl, hg2⟩
  have hB := hA.grown hg2
  have p1 := hg2.cell q1 (by simp)
  have k0 := hB.d.c0
  have kz := hB.d.vs.at hmz
  have hG2 := grown_trans hga hg2 (by simp)
  clear hA q0 q1 q2 q3 hmz hz
  go_wp2_with fail
  go_quiet (fail)
  have hg3 := grown_drewN w2 nq none
  have hC := hB.grown hg3
  have p1 := hg3.cell p1 (by simp)
  have k0 := hg3.cell k0 (by simp)
  have kz := hg3.cell kz (by simp)
  have hG3 := grown_trans hG2 hg3 (by simp)
  clear hB hG2 hg2 hg3
  generalize w2.drewN nq = w3 at *
  go_wp2_with fail
  go_quiet ((go_at_call 8; exact Calls.quiet_of_same (num_any _ _)))
  have hg4 := grown_drewN w3 nq none
  go_wp2
  go_ret
  exact ⟨rfl, f, _, n, c, L, hC.grown hg4, fun a ha => Or.inl ha, Chg.of_grown (grown_trans hG3 hg4 (by simp)) _⟩

set_option maxRecDepth 100000 in
set_option maxHeartbeats 1000000 in
theorem ask_all (w : World) (b g rb bnd f : Nat) (lo : Option Addr) (n c : Nat) (L : List Int) (h : As w b g rb bnd f lo n c L) (xo : Option Addr) (m cx : Nat) (K N M : Int) (hK : K = 7) :
    Calls Try.prog 10 #[.pointer (some ⟨b, 0, none⟩), .pointer (some ⟨rb, 0, none⟩), .agg #[.int .i64 K, .int .i64 N, .int .i64 M, .slice xo m cx]] w fun e w' => e = .returned (.bool true) ∧ Done w w' b g rb bnd lo := by
  have hga := World.grownBy_alloc w (.cells #[.int .i64 K, .int .i64 N, .int .i64 M, .slice xo m cx] 36) none
  obtain ⟨q0, q1, q2, q3⟩ := box4 w (.int .i64 K) (.int .i64 N) (.int .i64 M) (.slice xo m cx) 36
  have hA := h.grown hga
  have hlr := h.r.lt
  have hlg := h.r.glt
  have hlrb := h.d.lt
  have hnl := h.d.len
  obtain ⟨ap1, ap2, ap3⟩ := h.ap
  have hlo := h.lo
  have hs1 := hga.size
  subst hK
  have hle := h.d.le
  have htop := h.d.top
  go_enter Try.func10, Try.ntmps10
  go_wp2_with (go_at_call 24; refine (Ri.all_any _ b g bnd f _ hA.r).mono ?_)
  rintro e w2 ⟨c2, o2, rfl, hsq, ho2, hc2, hg2⟩
  have hB := hA.grown hg2
  have p2 := hg2.cell q2 (by simp)
  have k0 := hB.d.c0
  have hG2 := grown_trans hga hg2 (by simp)
  have hvs := hB.d.vs
  have hcl : c2 < w2.heap.size := World.block_lt_of_cell? w2 _ hsq.box
  have hll : ∀ a, lo = some a → a.block < w2.heap.size := fun a ha => by have h8 := hlo a ha; have h9 := hG2.size; omega
  have HG : Hid (∀ W, w2.grownBy W none → ∀ lv, Calls Try.prog 36 #[.func (.func 44) #[] #[.pointer (some ⟨c2, 0, none⟩)], .slice lo n c, .int .i64 lv] W fun e w' => e = .returned (.bool true) ∧ W.grownBy w' none) := by
    intro W hg lv
    exact goes_any W c2 o2 L lo n c lv (hsq.chg (Chg.of_grown hg (fun _ => False)) (fun e => e) (fun e => e)) (hvs.grown hg) (by omega) (by have := hg.size; omega) (fun a ha => by have h8 := hll a ha; have h9 := hg.size; omega)
  have hgd : w2.grownBy w2.drew none := grown_drewN w2 1 none
  have j0 : w2.drew.cell? ⟨rb, 0, none⟩ = _ := hgd.cell k0 (by simp)
  have j2 : w2.drew.cell? ⟨w.heap.size, 2, none⟩ = _ := hgd.cell p2 (by simp)
  have tok : True := trivial
  clear hA q0 q1 q2 q3 hsq hvs hll
  go_wp2_with fail
  go_region_held3 (fun w' => w'.cell? ⟨rb, 0, none⟩ = some (.slice lo n c) ∧ w'.cell? ⟨w.heap.size, 2, none⟩ = some (.int .i64 M)) (first | exact ⟨k0, p2⟩ | exact ⟨j0, j2⟩ | exact ⟨m0, m2⟩ | exact ⟨n0, n2⟩)
    ((first
      | (have _t := tok; go_at_call 36; refine (HG.out _ hgd M).mono ?_; rintro e w4 ⟨rfl, hg4⟩; clear tok; have hg24 := grown_trans hgd hg4 (by simp); have m0 := hg24.cell k0 (by simp); have m2 := hg24.cell p2 (by simp))
      | (go_at_call 36; refine (HG.out _ hg24 0).mono ?_; rintro e w5 ⟨rfl, hg5⟩; have hg25 := grown_trans hg24 hg5 (by simp); have n0 := hg25.cell k0 (by simp); have n2 := hg25.cell p2 (by simp))))
  go_wp2
  go_ret
  exact ⟨rfl, f, lo, n, c, L, hB.grown hg25, fun a ha => Or.inl ha, Chg.of_grown (grown_trans hG2 hg25 (by simp)) _⟩

end Go.Proofs.Ytabnpgmkccmneaa
