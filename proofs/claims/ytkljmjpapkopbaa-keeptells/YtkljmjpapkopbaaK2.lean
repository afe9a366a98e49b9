/-
  The document's reason.
-/
import Derived.Test.YtkljmjpapkopbaaM2
import Derived.Test.YtkljmjpapkopbaaD0
namespace Go.Proofs.Ytkljmjpapkopbaa
open Go.RowKit
set_option linter.unusedVariables false

set_option maxRecDepth 100000 in
set_option maxHeartbeats 8000000 in
theorem reason_any {w : World} (r : Ru) (now : Int) (so : Option Addr) (n sc : Nat) (l : List Pc) (hP : Ps w so n l) (he : refE r now l = 0) (hroom : n ≤ sc) (k : Nat) (p : Pc) (hp : l[k]? = some p) :
    Calls Try.prog 30 #[.agg #[.int .i64 r.by', .int .i64 r.age, .int .i64 r.pcs, .int .i64 r.bel], .int .i64 now, .slice so n sc, .int .i64 (k : Int)] w fun e w' => e = .returned (.int .i64 (whyR r now p (l.drop (k + 1)) : Int)) ∧ w.grownBy w' none := by
  obtain ⟨z1, z2, z3, z4, z5⟩ := refE_zero he
  obtain ⟨b0, b1, a0, a1, s0, s1, e0, e1⟩ := ok_yes z1
  obtain ⟨n0, n1⟩ := inB_yes z2
  have hlen := hP.len
  have hkl : k < l.length := (List.getElem?_eq_some_iff.1 hp).1
  obtain ⟨-, -, -, -, t0, t1⟩ := may_yes (z5 p (List.mem_of_getElem? hp))
  obtain ⟨g, o, rfl, hcs⟩ := hP.pl (by omega)
  have hcell : Hid (∀ W, w.grownBy W none → ∀ j q, l[j]? = some q → W.cell? ⟨g, o + j * 3, none⟩ = some (.int .i64 q.b) ∧ W.cell? ⟨g, o + j * 3 + 1, none⟩ = some (.int .i64 q.n) ∧ W.cell? ⟨g, o + j * 3 + 2, none⟩ = some (.int .i64 q.t)) := fun W hg j q hq => by
    obtain ⟨u1, u2, u3⟩ := hcs j q hq
    exact ⟨hg.cell u1 (by simp), hg.cell u2 (by simp), hg.cell u3 (by simp)⟩
  obtain ⟨k1, hk1⟩ : ∃ k1, k + 1 = k1 := ⟨_, rfl⟩
  have f0 : (k : Int) + 1 = (k1 : Int) := by omega
  have hn4 : n ≤ 4096 := by omega
  have hk4 : k1 ≤ 4096 := by omega
  have j0 : (k1 : Int) ≤ (n : Int) := by omega
  have j2 : (n : Int) ≤ (sc : Int) := by omega
  have j3 : (0 : Int) ≤ (k1 : Int) := by omega
  have i1 : (0 : Int) ≤ (k : Int) := by omega
  have i2 : (k : Int) < (n : Int) := by omega
  have ga := alloc_grown w (.cells #[.int .i64 r.by', .int .i64 r.age, .int .i64 r.pcs, .int .i64 r.bel] 23)
  have hB : Rb (w.alloc (.cells #[.int .i64 r.by', .int .i64 r.age, .int .i64 r.pcs, .int .i64 r.bel] 23)) w.heap.size r := heap_alloc_new w _
  have hpk : Hid (l[k]? = some p) := hp
  have hkn : k1 ≤ n := by omega
  rw [hk1]
  by_cases hz : k1 = n
  · have hW : Hid (whyR r now p (l.drop k1) = 4) := by show _ = _; rw [List.drop_eq_nil_of_le (by omega)]; rfl
    have f2 : ((n - k1 : Nat) : Int) = 0 := by omega
    have f3 : n - k1 = 0 := by omega
    have f4 : (k1 : Int) = (n : Int) := by omega
    clear hp hcs hkl z3 z4 z5
    by_cases hs : sc = k1
    · have hs2 : sc - k1 = 0 := by omega
      clear hz hkn hk1
      go_enter Try.func30, Try.ntmps30
      go_wp2
      go_ret
      exact ⟨ret_int (by first | (rw [hW.out]; done) | (rw [hW.out]; rfl) | simp [hW.out]), ga⟩
    · clear hz hkn hk1
      go_enter Try.func30, Try.ntmps30
      go_wp2
      go_ret
      exact ⟨ret_int (by first | (rw [hW.out]; done) | (rw [hW.out]; rfl) | simp [hW.out]), ga⟩
  · obtain ⟨q, hq⟩ : ∃ q, l[k1]? = some q := ⟨_, List.getElem?_eq_getElem (by omega)⟩
    have hqk : Hid (l[k1]? = some q) := hq
    have hdr : Hid (l.drop k1 = q :: l.drop (k1 + 1)) := drop_cons hq
    have hml : Hid ((q :: l.drop (k1 + 1)).length = n - k1) := by show _ = _; rw [← hdr.out]; simp; omega
    have j1 : ¬ sc = k1 := by omega
    have hm0 : 0 < n - k1 := by omega
    have hm4 : n - k1 ≤ 4096 := by omega
    have hPd : Hid (∀ W, w.grownBy W none → Ps W (some ⟨g, o + k1 * 3, none⟩) (n - k1) (l.drop k1)) := fun W hg => (hP.grown hg).drop k1 hkn
    have hmay : Hid (∀ x ∈ l.drop k1, x.may = true) := fun x hx => z5 x (List.mem_of_mem_drop hx)
    have hsum := sumB_le (l := l.drop k1) hmay.out
    have hS0 := hsum.1
    have hS1 : sumB (l.drop k1) ≤ 68719476736 := by have h9 := hsum.2; rw [show (l.drop k1).length = n - k1 by rw [hdr.out]; exact hml.out] at h9; omega
    have hwhy : Hid (whyR r now p (l.drop k1) = if r.bel < q.b then 5 else if 0 < r.by' ∧ r.by' ≤ sumB (l.drop k1) then 1 else if 0 < r.age ∧ r.age < now - p.t then 2 else if 0 < r.pcs ∧ r.pcs ≤ ((n - k1 : Nat) : Int) then 3 else 0) := by
      show _ = _
      rw [← hml.out, hdr.out]; rfl
    obtain ⟨x0, x1, x2, x3⟩ := hB.cs
    obtain ⟨q0c, -, -⟩ := hcell.out _ ga k1 q hq
    obtain ⟨y0, y1, y2⟩ := hcell.out _ ga k p hp
    clear hp hq hcs hz hkl z3 z4 z5 hk1 hsum hdr hkn
    have f5 : ¬ (n - k1 = 0) := by omega
    have f6 : decide (n - k1 = 0) = false := by simp; omega
    have f7 : ((n - k1 : Nat) == 0) = false := by simp; omega
    have f8 : (((n - k1 : Nat) : Int) == 0) = false := by simp; omega
    have f9 : decide (n ≤ k1) = false := by simp; omega
    go_enter Try.func30, Try.ntmps30
    go_wp2_with fail
    have hG1 := ga
    clear f5 f6 f7 f8 f9 hP
    generalize w.alloc (.cells #[.int .i64 r.by', .int .i64 r.age, .int .i64 r.pcs, .int .i64 r.bel] 23) = w1 at *
    generalize w.heap.size = bx at *
    have hB1 := hB
    clear hB ga
    have hrb : Hid (∀ W, w.grownBy W none → Calls Try.prog 17 #[.slice (some ⟨g, o + k1 * 3, none⟩) (n - k1) (sc - k1)] W fun e w' => e = .returned (.int .i64 (sumB (l.drop k1))) ∧ w' = W) := fun W hg => rbytes_any _ (n - k1) (sc - k1) _ (hPd.out W hg) hm4 hmay.out
    clear hPd hmay hml
    generalize n - k1 = m at *
    generalize sumB (l.drop k1) = S at *
    have i3 : (0 : Int) < (m : Int) := by omega
    by_cases h0 : r.bel < q.b
    · have g0 : decide (r.bel < q.b) = true := by simpa using h0
      have hW : Hid (whyR r now p (l.drop k1) = 5) := by show _ = _; rw [hwhy.out, if_pos (by omega)]
      clear hwhy h0
      go_quiet (fail)
      have hG2 := grown_trans hG1 (grown_drewN w1 nq none) (by simp)
      have hB2 := hB1.grown (grown_drewN w1 nq none)
      clear x0 x1 x2 x3 y0 y1 y2 q0c
      generalize w1.drewN nq = w2 at *
      clear hG1 hB1
      obtain ⟨x0, x1, x2, x3⟩ := hB2.cs
      obtain ⟨y0, y1, y2⟩ := hcell.out w2 hG2 k p hpk.out
      obtain ⟨q0c, -, -⟩ := hcell.out w2 hG2 k1 q hqk.out
      go_wp2
      go_ret
      exact ⟨ret_int (by first | (rw [hW.out]; done) | (rw [hW.out]; rfl) | simp [hW.out]), hG2⟩
    · have g0 : decide (r.bel < q.b) = false := by simpa using h0
      go_quiet (fail)
      have hG2 := grown_trans hG1 (grown_drewN w1 nq none) (by simp)
      have hB2 := hB1.grown (grown_drewN w1 nq none)
      clear x0 x1 x2 x3 y0 y1 y2 q0c
      generalize w1.drewN nq = w2 at *
      clear hG1 hB1
      obtain ⟨x0, x1, x2, x3⟩ := hB2.cs
      obtain ⟨y0, y1, y2⟩ := hcell.out w2 hG2 k p hpk.out
      obtain ⟨q0c, -, -⟩ := hcell.out w2 hG2 k1 q hqk.out
      by_cases h1 : 0 < r.by'
      · have g1 : decide (0 < r.by') = true := by simpa using h1
        by_cases h2 : r.by' ≤ S
        · have g2 : decide (r.by' ≤ S) = true := by simpa using h2
          have hW : Hid (whyR r now p (l.drop k1) = 1) := by show _ = _; rw [hwhy.out, if_neg (by omega), if_pos (by omega)]
          clear hwhy h1 h2
          go_wp2_with fail
          go_quiet ((go_at_call 17; exact Calls.quiet_of_same (hrb.out _ (by first | exact hG2 | exact grown_trans hG2 (grown_drewN _ _ none) (by simp) | exact grown_trans hG2 (grown_drew _ none) (by simp)))))
          have hG3 := grown_trans hG2 (grown_drewN w2 nq none) (by simp)
          have hB3 := hB2.grown (grown_drewN w2 nq none)
          clear x0 x1 x2 x3 y0 y1 y2 q0c
          generalize w2.drewN nq = w3 at *
          clear hG2 hB2
          obtain ⟨x0, x1, x2, x3⟩ := hB3.cs
          obtain ⟨y0, y1, y2⟩ := hcell.out w3 hG3 k p hpk.out
          obtain ⟨q0c, -, -⟩ := hcell.out w3 hG3 k1 q hqk.out
          go_wp2
          go_ret
          exact ⟨ret_int (by first | (rw [hW.out]; done) | (rw [hW.out]; rfl) | simp [hW.out]), hG3⟩
        · have g2 : decide (r.by' ≤ S) = false := by simpa using h2
          go_wp2_with fail
          go_quiet ((go_at_call 17; exact Calls.quiet_of_same (hrb.out _ (by first | exact hG2 | exact grown_trans hG2 (grown_drewN _ _ none) (by simp) | exact grown_trans hG2 (grown_drew _ none) (by simp)))))
          have hG3 := grown_trans hG2 (grown_drewN w2 nq none) (by simp)
          have hB3 := hB2.grown (grown_drewN w2 nq none)
          clear x0 x1 x2 x3 y0 y1 y2 q0c
          generalize w2.drewN nq = w3 at *
          clear hG2 hB2
          obtain ⟨x0, x1, x2, x3⟩ := hB3.cs
          obtain ⟨y0, y1, y2⟩ := hcell.out w3 hG3 k p hpk.out
          obtain ⟨q0c, -, -⟩ := hcell.out w3 hG3 k1 q hqk.out
          by_cases h3 : 0 < r.age
          · have g3 : decide (0 < r.age) = true := by simpa using h3
            by_cases h4 : r.age < now - p.t
            · have g4 : decide (r.age < now - p.t) = true := by simpa using h4
              have hW : Hid (whyR r now p (l.drop k1) = 2) := by show _ = _; rw [hwhy.out, if_neg (by omega), if_neg (by omega), if_pos (by omega)]
              clear hwhy h3 h4
              go_wp2_with fail
              go_quiet (fail)
              have hG4 := grown_trans hG3 (grown_drewN w3 nq none) (by simp)
              have hB4 := hB3.grown (grown_drewN w3 nq none)
              clear x0 x1 x2 x3 y0 y1 y2 q0c
              generalize w3.drewN nq = w4 at *
              clear hG3 hB3
              obtain ⟨x0, x1, x2, x3⟩ := hB4.cs
              obtain ⟨y0, y1, y2⟩ := hcell.out w4 hG4 k p hpk.out
              obtain ⟨q0c, -, -⟩ := hcell.out w4 hG4 k1 q hqk.out
              go_wp2
              go_ret
              exact ⟨ret_int (by first | (rw [hW.out]; done) | (rw [hW.out]; rfl) | simp [hW.out]), hG4⟩
            · have g4 : decide (r.age < now - p.t) = false := by simpa using h4
              go_wp2_with fail
              go_quiet (fail)
              have hG4 := grown_trans hG3 (grown_drewN w3 nq none) (by simp)
              have hB4 := hB3.grown (grown_drewN w3 nq none)
              clear x0 x1 x2 x3 y0 y1 y2 q0c
              generalize w3.drewN nq = w4 at *
              clear hG3 hB3
              obtain ⟨x0, x1, x2, x3⟩ := hB4.cs
              obtain ⟨y0, y1, y2⟩ := hcell.out w4 hG4 k p hpk.out
              obtain ⟨q0c, -, -⟩ := hcell.out w4 hG4 k1 q hqk.out
              by_cases h5 : 0 < r.pcs
              · have g5 : decide (0 < r.pcs) = true := by simpa using h5
                by_cases h6 : r.pcs ≤ (m : Int)
                · have g6 : decide (r.pcs ≤ (m : Int)) = true := by simpa using h6
                  have hW : Hid (whyR r now p (l.drop k1) = 3) := by show _ = _; rw [hwhy.out, if_neg (by omega), if_neg (by omega), if_neg (by omega), if_pos (by omega)]
                  clear hwhy h5 h6
                  go_wp2
                  go_ret
                  exact ⟨ret_int (by first | (rw [hW.out]; done) | (rw [hW.out]; rfl) | simp [hW.out]), hG4⟩
                · have g6 : decide (r.pcs ≤ (m : Int)) = false := by simpa using h6
                  have hW : Hid (whyR r now p (l.drop k1) = 0) := by show _ = _; rw [hwhy.out, if_neg (by omega), if_neg (by omega), if_neg (by omega), if_neg (by omega)]
                  clear hwhy h5 h6
                  go_wp2
                  go_ret
                  exact ⟨ret_int (by first | (rw [hW.out]; done) | (rw [hW.out]; rfl) | simp [hW.out]), hG4⟩
              · have g5 : decide (0 < r.pcs) = false := by simpa using h5
                have hW : Hid (whyR r now p (l.drop k1) = 0) := by show _ = _; rw [hwhy.out, if_neg (by omega), if_neg (by omega), if_neg (by omega), if_neg (by omega)]
                clear hwhy h5
                go_wp2
                go_ret
                exact ⟨ret_int (by first | (rw [hW.out]; done) | (rw [hW.out]; rfl) | simp [hW.out]), hG4⟩
          · have g3 : decide (0 < r.age) = false := by simpa using h3
            go_wp2_with fail
            go_quiet (fail)
            have hG4 := grown_trans hG3 (grown_drewN w3 nq none) (by simp)
            have hB4 := hB3.grown (grown_drewN w3 nq none)
            clear x0 x1 x2 x3 y0 y1 y2 q0c
            generalize w3.drewN nq = w4 at *
            clear hG3 hB3
            obtain ⟨x0, x1, x2, x3⟩ := hB4.cs
            obtain ⟨y0, y1, y2⟩ := hcell.out w4 hG4 k p hpk.out
            obtain ⟨q0c, -, -⟩ := hcell.out w4 hG4 k1 q hqk.out
            by_cases h5 : 0 < r.pcs
            · have g5 : decide (0 < r.pcs) = true := by simpa using h5
              by_cases h6 : r.pcs ≤ (m : Int)
              · have g6 : decide (r.pcs ≤ (m : Int)) = true := by simpa using h6
                have hW : Hid (whyR r now p (l.drop k1) = 3) := by show _ = _; rw [hwhy.out, if_neg (by omega), if_neg (by omega), if_neg (by omega), if_pos (by omega)]
                clear hwhy h5 h6
                go_wp2
                go_ret
                exact ⟨ret_int (by first | (rw [hW.out]; done) | (rw [hW.out]; rfl) | simp [hW.out]), hG4⟩
              · have g6 : decide (r.pcs ≤ (m : Int)) = false := by simpa using h6
                have hW : Hid (whyR r now p (l.drop k1) = 0) := by show _ = _; rw [hwhy.out, if_neg (by omega), if_neg (by omega), if_neg (by omega), if_neg (by omega)]
                clear hwhy h5 h6
                go_wp2
                go_ret
                exact ⟨ret_int (by first | (rw [hW.out]; done) | (rw [hW.out]; rfl) | simp [hW.out]), hG4⟩
            · have g5 : decide (0 < r.pcs) = false := by simpa using h5
              have hW : Hid (whyR r now p (l.drop k1) = 0) := by show _ = _; rw [hwhy.out, if_neg (by omega), if_neg (by omega), if_neg (by omega), if_neg (by omega)]
              clear hwhy h5
              go_wp2
              go_ret
              exact ⟨ret_int (by first | (rw [hW.out]; done) | (rw [hW.out]; rfl) | simp [hW.out]), hG4⟩
      · have g1 : decide (0 < r.by') = false := by simpa using h1
        go_wp2_with fail
        go_quiet ((go_at_call 17; exact Calls.quiet_of_same (hrb.out _ (by first | exact hG2 | exact grown_trans hG2 (grown_drewN _ _ none) (by simp) | exact grown_trans hG2 (grown_drew _ none) (by simp)))))
        have hG3 := grown_trans hG2 (grown_drewN w2 nq none) (by simp)
        have hB3 := hB2.grown (grown_drewN w2 nq none)
        clear x0 x1 x2 x3 y0 y1 y2 q0c
        generalize w2.drewN nq = w3 at *
        clear hG2 hB2
        obtain ⟨x0, x1, x2, x3⟩ := hB3.cs
        obtain ⟨y0, y1, y2⟩ := hcell.out w3 hG3 k p hpk.out
        obtain ⟨q0c, -, -⟩ := hcell.out w3 hG3 k1 q hqk.out
        by_cases h3 : 0 < r.age
        · have g3 : decide (0 < r.age) = true := by simpa using h3
          by_cases h4 : r.age < now - p.t
          · have g4 : decide (r.age < now - p.t) = true := by simpa using h4
            have hW : Hid (whyR r now p (l.drop k1) = 2) := by show _ = _; rw [hwhy.out, if_neg (by omega), if_neg (by omega), if_pos (by omega)]
            clear hwhy h3 h4
            go_wp2_with fail
            go_quiet (fail)
            have hG4 := grown_trans hG3 (grown_drewN w3 nq none) (by simp)
            have hB4 := hB3.grown (grown_drewN w3 nq none)
            clear x0 x1 x2 x3 y0 y1 y2 q0c
            generalize w3.drewN nq = w4 at *
            clear hG3 hB3
            obtain ⟨x0, x1, x2, x3⟩ := hB4.cs
            obtain ⟨y0, y1, y2⟩ := hcell.out w4 hG4 k p hpk.out
            obtain ⟨q0c, -, -⟩ := hcell.out w4 hG4 k1 q hqk.out
            go_wp2
            go_ret
            exact ⟨ret_int (by first | (rw [hW.out]; done) | (rw [hW.out]; rfl) | simp [hW.out]), hG4⟩
          · have g4 : decide (r.age < now - p.t) = false := by simpa using h4
            go_wp2_with fail
            go_quiet (fail)
            have hG4 := grown_trans hG3 (grown_drewN w3 nq none) (by simp)
            have hB4 := hB3.grown (grown_drewN w3 nq none)
            clear x0 x1 x2 x3 y0 y1 y2 q0c
            generalize w3.drewN nq = w4 at *
            clear hG3 hB3
            obtain ⟨x0, x1, x2, x3⟩ := hB4.cs
            obtain ⟨y0, y1, y2⟩ := hcell.out w4 hG4 k p hpk.out
            obtain ⟨q0c, -, -⟩ := hcell.out w4 hG4 k1 q hqk.out
            by_cases h5 : 0 < r.pcs
            · have g5 : decide (0 < r.pcs) = true := by simpa using h5
              by_cases h6 : r.pcs ≤ (m : Int)
              · have g6 : decide (r.pcs ≤ (m : Int)) = true := by simpa using h6
                have hW : Hid (whyR r now p (l.drop k1) = 3) := by show _ = _; rw [hwhy.out, if_neg (by omega), if_neg (by omega), if_neg (by omega), if_pos (by omega)]
                clear hwhy h5 h6
                go_wp2
                go_ret
                exact ⟨ret_int (by first | (rw [hW.out]; done) | (rw [hW.out]; rfl) | simp [hW.out]), hG4⟩
              · have g6 : decide (r.pcs ≤ (m : Int)) = false := by simpa using h6
                have hW : Hid (whyR r now p (l.drop k1) = 0) := by show _ = _; rw [hwhy.out, if_neg (by omega), if_neg (by omega), if_neg (by omega), if_neg (by omega)]
                clear hwhy h5 h6
                go_wp2
                go_ret
                exact ⟨ret_int (by first | (rw [hW.out]; done) | (rw [hW.out]; rfl) | simp [hW.out]), hG4⟩
            · have g5 : decide (0 < r.pcs) = false := by simpa using h5
              have hW : Hid (whyR r now p (l.drop k1) = 0) := by show _ = _; rw [hwhy.out, if_neg (by omega), if_neg (by omega), if_neg (by omega), if_neg (by omega)]
              clear hwhy h5
              go_wp2
              go_ret
              exact ⟨ret_int (by first | (rw [hW.out]; done) | (rw [hW.out]; rfl) | simp [hW.out]), hG4⟩
        · have g3 : decide (0 < r.age) = false := by simpa using h3
          go_wp2_with fail
          go_quiet (fail)
          have hG4 := grown_trans hG3 (grown_drewN w3 nq none) (by simp)
          have hB4 := hB3.grown (grown_drewN w3 nq none)
          clear x0 x1 x2 x3 y0 y1 y2 q0c
          generalize w3.drewN nq = w4 at *
          clear hG3 hB3
          obtain ⟨x0, x1, x2, x3⟩ := hB4.cs
          obtain ⟨y0, y1, y2⟩ := hcell.out w4 hG4 k p hpk.out
          obtain ⟨q0c, -, -⟩ := hcell.out w4 hG4 k1 q hqk.out
          by_cases h5 : 0 < r.pcs
          · have g5 : decide (0 < r.pcs) = true := by simpa using h5
            by_cases h6 : r.pcs ≤ (m : Int)
            · have g6 : decide (r.pcs ≤ (m : Int)) = true := by simpa using h6
              have hW : Hid (whyR r now p (l.drop k1) = 3) := by show _ = _; rw [hwhy.out, if_neg (by omega), if_neg (by omega), if_neg (by omega), if_pos (by omega)]
              clear hwhy h5 h6
              go_wp2
              go_ret
              exact ⟨ret_int (by first | (rw [hW.out]; done) | (rw [hW.out]; rfl) | simp [hW.out]), hG4⟩
            · have g6 : decide (r.pcs ≤ (m : Int)) = false := by simpa using h6
              have hW : Hid (whyR r now p (l.drop k1) = 0) := by show _ = _; rw [hwhy.out, if_neg (by omega), if_neg (by omega), if_neg (by omega), if_neg (by omega)]
              clear hwhy h5 h6
              go_wp2
              go_ret
              exact ⟨ret_int (by first | (rw [hW.out]; done) | (rw [hW.out]; rfl) | simp [hW.out]), hG4⟩
          · have g5 : decide (0 < r.pcs) = false := by simpa using h5
            have hW : Hid (whyR r now p (l.drop k1) = 0) := by show _ = _; rw [hwhy.out, if_neg (by omega), if_neg (by omega), if_neg (by omega), if_neg (by omega)]
            clear hwhy h5
            go_wp2
            go_ret
            exact ⟨ret_int (by first | (rw [hW.out]; done) | (rw [hW.out]; rfl) | simp [hW.out]), hG4⟩
end Go.Proofs.Ytkljmjpapkopbaa
