/-
  The document's Check, Ordered and reason.
-/
import Derived.Test.YtkljmjpapkopbaaM2
import Derived.Test.YtkljmjpapkopbaaD0
namespace Go.Proofs.Ytkljmjpapkopbaa
open Go.RowKit
set_option linter.unusedVariables false

set_option maxRecDepth 100000 in
set_option maxHeartbeats 4000000 in
theorem rcheck_any (w : World) (r : Ru) : Calls Try.prog 14 #[r.val] w fun e w' => e = .returned (.int .i64 (argE r.ok)) ∧ w.grownBy w' none := by
  unfold Ru.val
  have ga := alloc_grown w (.cells #[.int .i64 r.by', .int .i64 r.age, .int .i64 r.pcs, .int .i64 r.bel] 23)
  by_cases h0 : r.by' < 0
  · have hM : Hid (argE r.ok = 2) := by
      show _ = _
      have : r.ok = false := by
        rw [Bool.eq_false_iff]
        intro h
        have := ok_yes h
        omega
      rw [this]; rfl
    have d0 : decide (r.by' < 0) = true := by simpa using h0
    clear h0
    go_enter Try.func14, Try.ntmps14
    go_wp2
    go_ret
    exact ⟨ret_int (by rw [hM.out]), ga⟩
  have d0 : decide (r.by' < 0) = false := by simpa using h0
  by_cases h1 : 9007199254740992 < r.by'
  · have hM : Hid (argE r.ok = 2) := by
      show _ = _
      have : r.ok = false := by
        rw [Bool.eq_false_iff]
        intro h
        have := ok_yes h
        omega
      rw [this]; rfl
    have d1 : decide (9007199254740992 < r.by') = true := by simpa using h1
    clear h0 h1
    go_enter Try.func14, Try.ntmps14
    go_wp2
    go_ret
    exact ⟨ret_int (by rw [hM.out]), ga⟩
  have d1 : decide (9007199254740992 < r.by') = false := by simpa using h1
  by_cases h2 : r.age < 0
  · have hM : Hid (argE r.ok = 2) := by
      show _ = _
      have : r.ok = false := by
        rw [Bool.eq_false_iff]
        intro h
        have := ok_yes h
        omega
      rw [this]; rfl
    have d2 : decide (r.age < 0) = true := by simpa using h2
    clear h0 h1 h2
    go_enter Try.func14, Try.ntmps14
    go_wp2
    go_ret
    exact ⟨ret_int (by rw [hM.out]), ga⟩
  have d2 : decide (r.age < 0) = false := by simpa using h2
  by_cases h3 : 9007199254740992 < r.age
  · have hM : Hid (argE r.ok = 2) := by
      show _ = _
      have : r.ok = false := by
        rw [Bool.eq_false_iff]
        intro h
        have := ok_yes h
        omega
      rw [this]; rfl
    have d3 : decide (9007199254740992 < r.age) = true := by simpa using h3
    clear h0 h1 h2 h3
    go_enter Try.func14, Try.ntmps14
    go_wp2
    go_ret
    exact ⟨ret_int (by rw [hM.out]), ga⟩
  have d3 : decide (9007199254740992 < r.age) = false := by simpa using h3
  by_cases h4 : r.pcs < 0
  · have hM : Hid (argE r.ok = 2) := by
      show _ = _
      have : r.ok = false := by
        rw [Bool.eq_false_iff]
        intro h
        have := ok_yes h
        omega
      rw [this]; rfl
    have d4 : decide (r.pcs < 0) = true := by simpa using h4
    clear h0 h1 h2 h3 h4
    go_enter Try.func14, Try.ntmps14
    go_wp2
    go_ret
    exact ⟨ret_int (by rw [hM.out]), ga⟩
  have d4 : decide (r.pcs < 0) = false := by simpa using h4
  by_cases h5 : 4096 < r.pcs
  · have hM : Hid (argE r.ok = 2) := by
      show _ = _
      have : r.ok = false := by
        rw [Bool.eq_false_iff]
        intro h
        have := ok_yes h
        omega
      rw [this]; rfl
    have d5 : decide (4096 < r.pcs) = true := by simpa using h5
    clear h0 h1 h2 h3 h4 h5
    go_enter Try.func14, Try.ntmps14
    go_wp2
    go_ret
    exact ⟨ret_int (by rw [hM.out]), ga⟩
  have d5 : decide (4096 < r.pcs) = false := by simpa using h5
  by_cases h6 : r.bel < 0
  · have hM : Hid (argE r.ok = 2) := by
      show _ = _
      have : r.ok = false := by
        rw [Bool.eq_false_iff]
        intro h
        have := ok_yes h
        omega
      rw [this]; rfl
    have d6 : decide (r.bel < 0) = true := by simpa using h6
    clear h0 h1 h2 h3 h4 h5 h6
    go_enter Try.func14, Try.ntmps14
    go_wp2
    go_ret
    exact ⟨ret_int (by rw [hM.out]), ga⟩
  have d6 : decide (r.bel < 0) = false := by simpa using h6
  by_cases h7 : 9007199254740992 < r.bel
  · have hM : Hid (argE r.ok = 2) := by
      show _ = _
      have : r.ok = false := by
        rw [Bool.eq_false_iff]
        intro h
        have := ok_yes h
        omega
      rw [this]; rfl
    have d7 : decide (9007199254740992 < r.bel) = true := by simpa using h7
    clear h0 h1 h2 h3 h4 h5 h6 h7
    go_enter Try.func14, Try.ntmps14
    go_wp2
    go_ret
    exact ⟨ret_int (by rw [hM.out]), ga⟩
  have d7 : decide (9007199254740992 < r.bel) = false := by simpa using h7
  have hM : Hid (argE r.ok = 0) := by
    show _ = _
    have : r.ok = true := by simp [Ru.ok, inB]; omega
    rw [this]; rfl
  clear h0 h1 h2 h3 h4 h5 h6 h7
  go_enter Try.func14, Try.ntmps14
  go_wp2
  go_ret
  exact ⟨ret_int (by rw [hM.out]), ga⟩

set_option maxRecDepth 100000 in
set_option maxHeartbeats 8000000 in
theorem rordered_any {w : World} (so : Option Addr) (n sc : Nat) (l : List Pc) (hP : Ps w so n l) :
    Calls Try.prog 16 #[.slice so n sc] w fun e w' => e = .returned (.int .i64 (ordE l)) ∧ w.grownBy w' none := by
  have hlen := hP.len
  by_cases hn : 4096 < n
  · have hM : Hid (ordE l = 3) := by show _ = _; unfold ordE; rw [hlen, if_pos hn]
    have d1 : decide ((4096 : Int) < (n : Int)) = true := by simp; omega
    go_enter Try.func16, Try.ntmps16
    go_wp2
    go_ret
    exact ⟨ret_int (by rw [hM.out]), grown_refl _ _⟩
  · have hM : Hid (ordE l = argE (ordR (-1) l)) := by show _ = _; unfold ordE; rw [hlen, if_neg hn]
    have d1 : decide ((4096 : Int) < (n : Int)) = false := by simp; omega
    go_enter Try.func16, Try.ntmps16
    go_wp2_with fail
    go_loopw [3] (fun v3 wr => ∃ (k : Nat) (z : Int), v3 = .int .i64 k ∧ k ≤ n ∧ Hid (ordR (-1) l = ordR z (l.drop k)) ∧ Hid (k = 0 ∧ z = -1 ∨ ∃ j p, k = j + 1 ∧ l[j]? = some p ∧ z = p.b) ∧ w.grownBy wr none) (fun v3 _ => n - (intOf v3).toNat)
    case atStart => exact ⟨0, -1, rfl, Nat.zero_le _, rfl, .inl ⟨rfl, rfl⟩, grown_refl _ _⟩
    case round =>
      obtain ⟨k, z, rfl, hk, hO, hz, hg⟩ := hrel
      by_cases hlt : k < n
      · have d2 : decide ((k : Int) < (n : Int)) = true := by simp; omega
        have d2' : decide (k < n) = true := by simpa using hlt
        obtain ⟨g, o, rfl, hcs⟩ := (hP.grown hg).pl (by omega)
        have hkl : k < l.length := by omega
        obtain ⟨p, hp⟩ : ∃ p, l[k]? = some p := ⟨_, List.getElem?_eq_getElem hkl⟩
        obtain ⟨c0, c1, c2⟩ := hcs k p hp
        have i1 : (0 : Int) ≤ (k : Int) := by omega
        have i2 : (k : Int) < (n : Int) := by omega
        have hO2 : Hid (ordR (-1) l = (p.may && decide (z < p.b) && ordR p.b (l.drop (k + 1)))) := by
          show _ = _; rw [hO.out, drop_cons hp]; rfl
        have hpb : Hid (l[k]? = some p) := hp
        clear hO hp hkl
        by_cases h0 : p.b < 0
        · have hM2 : Hid (argE (ordR (-1) l) = 2) := by
            show _ = _
            have : p.may = false := by
              rw [Bool.eq_false_iff]
              intro h
              have := may_yes h
              omega
            rw [hO2.out, this]; rfl
          have d10 : decide (p.b < 0) = true := by simpa using h0
          clear hO2 hz h0
          clear hcs hpb
          go_wp2_with fail
          go_quiet (fail)
          go_wp2
          go_ret
          exact ⟨ret_int (by rw [hM.out, hM2.out]), grown_trans hg (grown_drewN _ _ none) (by simp)⟩
        have d10 : decide (p.b < 0) = false := by simpa using h0
        by_cases h1 : 9007199254740992 < p.b
        · have hM2 : Hid (argE (ordR (-1) l) = 2) := by
            show _ = _
            have : p.may = false := by
              rw [Bool.eq_false_iff]
              intro h
              have := may_yes h
              omega
            rw [hO2.out, this]; rfl
          have d11 : decide (9007199254740992 < p.b) = true := by simpa using h1
          clear hO2 hz h0 h1
          clear hcs hpb
          go_wp2_with fail
          go_quiet (fail)
          go_wp2
          go_ret
          exact ⟨ret_int (by rw [hM.out, hM2.out]), grown_trans hg (grown_drewN _ _ none) (by simp)⟩
        have d11 : decide (9007199254740992 < p.b) = false := by simpa using h1
        by_cases h2 : p.n < 0
        · have hM2 : Hid (argE (ordR (-1) l) = 2) := by
            show _ = _
            have : p.may = false := by
              rw [Bool.eq_false_iff]
              intro h
              have := may_yes h
              omega
            rw [hO2.out, this]; rfl
          have d12 : decide (p.n < 0) = true := by simpa using h2
          clear hO2 hz h0 h1 h2
          clear hcs hpb
          go_wp2_with fail
          go_quiet (fail)
          go_wp2
          go_ret
          exact ⟨ret_int (by rw [hM.out, hM2.out]), grown_trans hg (grown_drewN _ _ none) (by simp)⟩
        have d12 : decide (p.n < 0) = false := by simpa using h2
        by_cases h3 : 16777216 < p.n
        · have hM2 : Hid (argE (ordR (-1) l) = 2) := by
            show _ = _
            have : p.may = false := by
              rw [Bool.eq_false_iff]
              intro h
              have := may_yes h
              omega
            rw [hO2.out, this]; rfl
          have d13 : decide (16777216 < p.n) = true := by simpa using h3
          clear hO2 hz h0 h1 h2 h3
          clear hcs hpb
          go_wp2_with fail
          go_quiet (fail)
          go_wp2
          go_ret
          exact ⟨ret_int (by rw [hM.out, hM2.out]), grown_trans hg (grown_drewN _ _ none) (by simp)⟩
        have d13 : decide (16777216 < p.n) = false := by simpa using h3
        by_cases h4 : p.t < 0
        · have hM2 : Hid (argE (ordR (-1) l) = 2) := by
            show _ = _
            have : p.may = false := by
              rw [Bool.eq_false_iff]
              intro h
              have := may_yes h
              omega
            rw [hO2.out, this]; rfl
          have d14 : decide (p.t < 0) = true := by simpa using h4
          clear hO2 hz h0 h1 h2 h3 h4
          clear hcs hpb
          go_wp2_with fail
          go_quiet (fail)
          go_wp2
          go_ret
          exact ⟨ret_int (by rw [hM.out, hM2.out]), grown_trans hg (grown_drewN _ _ none) (by simp)⟩
        have d14 : decide (p.t < 0) = false := by simpa using h4
        by_cases h5 : 9007199254740992 < p.t
        · have hM2 : Hid (argE (ordR (-1) l) = 2) := by
            show _ = _
            have : p.may = false := by
              rw [Bool.eq_false_iff]
              intro h
              have := may_yes h
              omega
            rw [hO2.out, this]; rfl
          have d15 : decide (9007199254740992 < p.t) = true := by simpa using h5
          clear hO2 hz h0 h1 h2 h3 h4 h5
          clear hcs hpb
          go_wp2_with fail
          go_quiet (fail)
          go_wp2
          go_ret
          exact ⟨ret_int (by rw [hM.out, hM2.out]), grown_trans hg (grown_drewN _ _ none) (by simp)⟩
        have d15 : decide (9007199254740992 < p.t) = false := by simpa using h5
        have hm : Hid (p.may = true) := by show _ = _; simp [Pc.may, inB]; omega
        rcases hz.out with ⟨hk0, hz0⟩ | ⟨j, q, hkj, hq, hzq⟩
        · have hO3 : Hid (ordR (-1) l = ordR p.b (l.drop (k + 1))) := by
            show _ = _; rw [hO2.out, hm.out]; simp [hz0]; omega
          have f0 : decide ((0 : Int) < (k : Int)) = false := by simp; omega
          have f1 : decide (0 < k) = false := by simp; omega
          clear hO2 hz h0 h1 h2 h3 h4 h5 hcs hm hk0 hz0
          go_wp2_with fail
          go_quiet (fail)
          go_wp2
          go_roundw
          case rel => exact ⟨k + 1, p.b, by go_num, by omega, hO3, .inr ⟨k, p, rfl, hpb.out, rfl⟩, grown_trans hg (grown_drewN _ _ none) (by simp)⟩
          case measure => simp [intOf]; omega
        · obtain ⟨s0, -, -⟩ := hcs j q hq
          have f0 : decide ((0 : Int) < (k : Int)) = true := by simp; omega
          have f1 : decide (0 < k) = true := by simp; omega
          have f2 : (k : Int) - 1 = (j : Int) := by omega
          have f3 : IntKind.i64.wrap ((k : Int) - 1) = (j : Int) := by rw [IntWalk.i64_in _ (by omega)]; omega
          have i3 : (0 : Int) ≤ (j : Int) := by omega
          have i4 : (j : Int) < (n : Int) := by omega
          by_cases hle : p.b ≤ q.b
          · have f4 : decide (p.b ≤ q.b) = true := by simpa using hle
            have hM2 : Hid (argE (ordR (-1) l) = 2) := by show _ = _; rw [hO2.out, hm.out, hzq]; simp [argE]; omega
            clear hO2 hz h0 h1 h2 h3 h4 h5 hm hq hzq hkj hle
            clear hcs hpb
            go_wp2_with fail
            go_quiet (fail)
            go_wp2
            go_ret
            exact ⟨ret_int (by rw [hM.out, hM2.out]), grown_trans hg (grown_drewN _ _ none) (by simp)⟩
          · have f4 : decide (p.b ≤ q.b) = false := by simpa using hle
            have hO3 : Hid (ordR (-1) l = ordR p.b (l.drop (k + 1))) := by
              show _ = _; rw [hO2.out, hm.out, hzq]; simp; omega
            clear hO2 hz h0 h1 h2 h3 h4 h5 hcs hm hq hzq hkj hle
            go_wp2_with fail
            go_quiet (fail)
            go_wp2
            go_roundw
            case rel => exact ⟨k + 1, p.b, by go_num, by omega, hO3, .inr ⟨k, p, rfl, hpb.out, rfl⟩, grown_trans hg (grown_drewN _ _ none) (by simp)⟩
            case measure => simp [intOf]; omega
      · have d2 : decide ((k : Int) < (n : Int)) = false := by simp; omega
        have hM2 : Hid (argE (ordR (-1) l) = 0) := by
          show _ = _
          rw [hO.out, List.drop_eq_nil_of_le (by omega)]; rfl
        clear hO hz
        go_wp2
        go_ret
        exact ⟨ret_int (by rw [hM.out, hM2.out]), hg⟩
end Go.Proofs.Ytkljmjpapkopbaa
