/-
  Pieces in order, their bytes; the program's, the document's; what a call refuses.
-/
import Derived.Test.YtkljmjpapkopbaaA1
namespace Go.Proofs.Ytkljmjpapkopbaa
open Go.RowKit
set_option linter.unusedVariables false

/-- Are the pieces in order, behind z? -/
def ordR : Int → List Pc → Bool
  | _, [] => true
  | z, p :: t => p.may && decide (z < p.b) && ordR p.b t
def ordE (l : List Pc) : Int := if 4096 < l.length then 3 else argE (ordR (-1) l)
def sumB : List Pc → Int
  | [] => 0
  | p :: t => p.n + sumB t
theorem ordR_mono {z : Int} : ∀ {l : List Pc}, ordR z l = true → ∀ p ∈ l, p.may = true
  | [], _, p, hp => by cases hp
  | q :: t, h, p, hp => by
    simp only [ordR, Bool.and_eq_true, decide_eq_true_eq] at h
    rcases List.mem_cons.1 hp with rfl | hp
    · exact h.1.1
    · exact ordR_mono h.2 p hp
theorem drop_cons {α : Type} {l : List α} {k : Nat} {p : α} (h : l[k]? = some p) : l.drop k = p :: l.drop (k + 1) := by
  obtain ⟨hk, rfl⟩ := List.getElem?_eq_some_iff.1 h
  exact List.drop_eq_getElem_cons hk
theorem sumB_le : ∀ {l : List Pc}, (∀ p ∈ l, p.may = true) → 0 ≤ sumB l ∧ sumB l ≤ 16777216 * (l.length : Int)
  | [], _ => by simp [sumB]
  | p :: t, h => by
    have h1 := sumB_le (l := t) fun q hq => h q (List.mem_cons_of_mem _ hq)
    have h2 := may_yes (h p (List.mem_cons_self ..))
    simp only [sumB, List.length_cons]
    omega
theorem sumB_take {l : List Pc} {k : Nat} {p : Pc} (h : l[k]? = some p) : sumB (l.take (k + 1)) = sumB (l.take k) + p.n := by
  induction l generalizing k with
  | nil => simp at h
  | cons q t ih =>
    cases k with
    | zero => simp at h; subst h; simp [sumB]
    | succ k =>
      simp at h
      have := ih h
      simp only [List.take_succ_cons, sumB]
      omega

set_option maxRecDepth 100000 in
set_option maxHeartbeats 1000000 in
theorem ordered_any {w : World} (so : Option Addr) (n sc : Nat) (l : List Pc) (hP : Ps w so n l) :
    Calls Try.prog 15 #[.slice so n sc] w fun e w' => e = .returned (.int .i64 (ordE l)) ∧ w.grownBy w' none := by
  have hlen := hP.len
  by_cases hn : 4096 < n
  · have hM : Hid (ordE l = 3) := by show _ = _; unfold ordE; rw [hlen, if_pos hn]
    have d1 : decide ((4096 : Int) < (n : Int)) = true := by simp; omega
    go_enter Try.func15, Try.ntmps15
    go_wp2
    go_ret
    exact ⟨ret_int (by rw [hM.out]), grown_refl _ _⟩
  · have hM : Hid (ordE l = argE (ordR (-1) l)) := by show _ = _; unfold ordE; rw [hlen, if_neg hn]
    have d1 : decide ((4096 : Int) < (n : Int)) = false := by simp; omega
    go_enter Try.func15, Try.ntmps15
    go_wp2_with fail
    go_loopw [3, 11] (fun v3 v11 wr => ∃ (k : Nat) (z : Int), v11 = .int .i64 k ∧ v3 = .int .i64 z ∧ k ≤ n ∧ Hid (ordR (-1) l = ordR z (l.drop k)) ∧ w.grownBy wr none) (fun _ v11 _ => n - (intOf v11).toNat)
    case atStart => exact ⟨0, -1, rfl, rfl, Nat.zero_le _, rfl, grown_refl _ _⟩
    case round =>
      obtain ⟨k, z, rfl, rfl, hk, hO, hg⟩ := hrel
      by_cases hlt : k < n
      · have d2 : decide ((k : Int) < (n : Int)) = true := by simp; omega
        obtain ⟨g, o, rfl, hcs⟩ := (hP.grown hg).pl (by omega)
        have hkl : k < l.length := by omega
        obtain ⟨p, hp⟩ : ∃ p, l[k]? = some p := ⟨_, List.getElem?_eq_getElem hkl⟩
        obtain ⟨c0, c1, c2⟩ := hcs k p hp
        have i1 : (0 : Int) ≤ (k : Int) := by omega
        have i2 : (k : Int) < (n : Int) := by omega
        have hO2 : Hid (ordR (-1) l = (p.may && decide (z < p.b) && ordR p.b (l.drop (k + 1)))) := by
          show _ = _; rw [hO.out, drop_cons hp]; rfl
        have ga := alloc_grown wr (.cells #[.int .i64 p.b, .int .i64 p.n, .int .i64 p.t] 29)
        have hma := may_any (wr.alloc (.cells #[.int .i64 p.b, .int .i64 p.n, .int .i64 p.t] 29)) p
        unfold Pc.val at hma
        have k9 := heap_alloc_new wr (.cells #[.int .i64 p.b, .int .i64 p.n, .int .i64 p.t] 29)
        clear hO hcs hp
        cases hm : p.may
        · have hM2 : Hid (argE (ordR (-1) l) = 2) := by show _ = _; rw [hO2.out, hm]; rfl
          rw [hm] at hma
          clear hm
          go_wp2_with fail
          refine hma.mono ?_
          rintro e w2 ⟨rfl, hg2⟩
          have hG := grown_trans (grown_trans hg ga (by simp)) hg2 (by simp)
          go_wp2
          go_ret
          exact ⟨ret_int (by rw [hM.out, hM2.out]), hG⟩
        · rw [hm] at hma
          by_cases hz : z < p.b
          · have d3 : decide (p.b ≤ z) = false := by simp; omega
            have hO3 : Hid (ordR (-1) l = ordR p.b (l.drop (k + 1))) := by show _ = _; rw [hO2.out, hm]; simp [hz]
            clear hm
            go_wp2_with fail
            refine hma.mono ?_
            rintro e w2 ⟨rfl, hg2⟩
            have hG := grown_trans (grown_trans hg ga (by simp)) hg2 (by simp)
            have c9 : w2.cell? ⟨wr.heap.size, 0, none⟩ = some (.int .i64 p.b) := hg2.cell (cell_of (i := 0) (v := .int .i64 p.b) k9 rfl) (by simp)
            go_wp2
            go_roundw
            case rel => exact ⟨k + 1, p.b, by go_num, rfl, by omega, hO3, hG⟩
            case measure => simp [intOf]; omega
          · have d3 : decide (p.b ≤ z) = true := by simp; omega
            have hM2 : Hid (argE (ordR (-1) l) = 2) := by show _ = _; rw [hO2.out, hm]; simp [hz, argE]
            clear hm
            go_wp2_with fail
            refine hma.mono ?_
            rintro e w2 ⟨rfl, hg2⟩
            have hG := grown_trans (grown_trans hg ga (by simp)) hg2 (by simp)
            have c9 : w2.cell? ⟨wr.heap.size, 0, none⟩ = some (.int .i64 p.b) := hg2.cell (cell_of (i := 0) (v := .int .i64 p.b) k9 rfl) (by simp)
            go_wp2
            go_ret
            exact ⟨ret_int (by rw [hM.out, hM2.out]), hG⟩
      · have d2 : decide ((k : Int) < (n : Int)) = false := by simp; omega
        have hM2 : Hid (argE (ordR (-1) l) = 0) := by
          show _ = _
          rw [hO.out, List.drop_eq_nil_of_le (by omega)]; rfl
        clear hO
        go_wp2
        go_ret
        exact ⟨ret_int (by rw [hM.out, hM2.out]), hg⟩

set_option maxRecDepth 100000 in
set_option maxHeartbeats 1000000 in
theorem rbytes_any {w : World} (so : Option Addr) (n sc : Nat) (l : List Pc) (hP : Ps w so n l) (hn : n ≤ 4096) (hmay : ∀ p ∈ l, p.may = true) :
    Calls Try.prog 17 #[.slice so n sc] w fun e w' => e = .returned (.int .i64 (sumB l)) ∧ w' = w := by
  have hlen := hP.len
  go_enter Try.func17, Try.ntmps17
  go_wp2_with fail
  go_loopw [3, 4] (fun v3 v4 wr => ∃ (k : Nat) (z : Int), v4 = .int .i64 k ∧ v3 = .int .i64 z ∧ k ≤ n ∧ Hid (z = sumB (l.take k)) ∧ wr = w) (fun _ v4 _ => n - (intOf v4).toNat)
  case atStart => exact ⟨0, 0, rfl, rfl, Nat.zero_le _, rfl, rfl⟩
  case round =>
    obtain ⟨k, z, rfl, rfl, hk, hO, rfl⟩ := hrel
    by_cases hlt : k < n
    · have d2 : decide ((k : Int) < (n : Int)) = true := by simp; omega
      obtain ⟨g, o, rfl, hcs⟩ := hP.pl (by omega)
      have hkl : k < l.length := by omega
      obtain ⟨p, hp⟩ : ∃ p, l[k]? = some p := ⟨_, List.getElem?_eq_getElem hkl⟩
      obtain ⟨c0, c1, c2⟩ := hcs k p hp
      have i1 : (0 : Int) ≤ (k : Int) := by omega
      have i2 : (k : Int) < (n : Int) := by omega
      have hs := sumB_take hp
      have hb := sumB_le (l := l.take k) fun q hq => hmay q (List.mem_of_mem_take hq)
      have hpm := may_yes (hmay p (List.mem_of_getElem? hp))
      have hl2 : (l.take k).length ≤ n := by simp; omega
      have hO2 : Hid (z + p.n = sumB (l.take (k + 1))) := by show _ = _; rw [hs, hO.out]
      have z0 : 0 ≤ z := by have := hO.out; omega
      have z1 : z ≤ 16777216 * 4096 := by have := hO.out; omega
      have p0 : 0 ≤ p.n := by omega
      have p1 : p.n ≤ 16777216 := by omega
      clear hO hcs hp hs hb hpm hl2
      go_wp2
      go_roundw
      case rel => exact ⟨k + 1, z + p.n, by go_num, by go_num, by omega, hO2, trivial⟩
      case measure => simp [intOf]; omega
    · have d2 : decide ((k : Int) < (n : Int)) = false := by simp; omega
      have hM2 : Hid (z = sumB l) := by
        show _ = _
        rw [hO.out, List.take_of_length_le (by omega)]
      clear hO
      go_wp2
      go_ret
      exact ⟨ret_int (by rw [hM2.out]), rfl⟩

theorem ordE_zero {l : List Pc} (h : ordE l = 0) : l.length ≤ 4096 ∧ ordR (-1) l = true ∧ ∀ p ∈ l, p.may = true := by
  unfold ordE at h
  split at h
  · cases h
  · cases ho : ordR (-1) l with
    | false => rw [ho] at h; cases h
    | true => exact ⟨by omega, rfl, ordR_mono ho⟩

set_option maxRecDepth 100000 in
set_option maxHeartbeats 1000000 in
theorem bytes_any {w : World} (so : Option Addr) (n sc : Nat) (l : List Pc) (hP : Ps w so n l) :
    Calls Try.prog 11 #[.slice so n sc] w fun e w' => e = .returned (.tuple #[.int .i64 (if ordE l = 0 then sumB l else 0), .int .i64 (ordE l)]) ∧ w.grownBy w' none := by
  have hlen := hP.len
  have hor := ordered_any so n sc l hP
  by_cases he : ordE l = 0
  · obtain ⟨hn, -, hmay⟩ := ordE_zero he
    rw [he] at hor
    rw [he, if_pos rfl]
    clear he
    go_enter Try.func11, Try.ntmps11
    go_wp2_with fail
    refine hor.mono ?_
    rintro e w1 ⟨rfl, hg1⟩
    clear hor
    go_wp2_with fail
    go_loopw [5, 15] (fun v5 v15 wr => ∃ (k : Nat) (z : Int), v15 = .int .i64 k ∧ v5 = .int .i64 z ∧ k ≤ n ∧ Hid (z = sumB (l.take k)) ∧ w.grownBy wr none) (fun _ v15 _ => n - (intOf v15).toNat)
    case atStart => exact ⟨0, 0, rfl, rfl, Nat.zero_le _, rfl, hg1⟩
    case round =>
      obtain ⟨k, z, rfl, rfl, hk, hO, hg⟩ := hrel
      by_cases hlt : k < n
      · have d2 : decide ((k : Int) < (n : Int)) = true := by simp; omega
        obtain ⟨g, o, rfl, hcs⟩ := (hP.grown hg).pl (by omega)
        have hkl : k < l.length := by omega
        obtain ⟨p, hp⟩ : ∃ p, l[k]? = some p := ⟨_, List.getElem?_eq_getElem hkl⟩
        obtain ⟨c0, c1, c2⟩ := hcs k p hp
        have i1 : (0 : Int) ≤ (k : Int) := by omega
        have i2 : (k : Int) < (n : Int) := by omega
        have hs := sumB_take hp
        have hb := sumB_le (l := l.take k) fun q hq => hmay q (List.mem_of_mem_take hq)
        have hpm := may_yes (hmay p (List.mem_of_getElem? hp))
        have hl2 : (l.take k).length ≤ n := by simp; omega
        have hO2 : Hid (z + p.n = sumB (l.take (k + 1))) := by show _ = _; rw [hs, hO.out]
        have z0 : 0 ≤ z := by have := hO.out; omega
        have z1 : z ≤ 16777216 * 4096 := by have := hO.out; omega
        have p0 : 0 ≤ p.n := by omega
        have p1 : p.n ≤ 16777216 := by omega
        have ga := grown_trans hg (alloc_grown wr (.cells #[.int .i64 p.b, .int .i64 p.n, .int .i64 p.t] 29)) (by simp)
        clear hO hcs hp hs hb hpm hl2
        go_wp2
        go_roundw
        case rel => exact ⟨k + 1, z + p.n, by go_num, by go_num, by omega, hO2, ga⟩
        case measure => simp [intOf]; omega
      · have d2 : decide ((k : Int) < (n : Int)) = false := by simp; omega
        have hM2 : Hid (z = sumB l) := by
          show _ = _
          rw [hO.out, List.take_of_length_le (by omega)]
        clear hO
        go_wp2
        go_ret2
        exact ⟨by rw [hM2.out]; rfl, hg⟩
  · rw [if_neg he]
    have d1 : (ordE l == 0) = false := by simpa using he
    clear he
    generalize ordE l = E at *
    go_enter Try.func11, Try.ntmps11
    go_wp2_with fail
    refine hor.mono ?_
    rintro e w1 ⟨rfl, hg1⟩
    clear hor
    go_wp2
    go_ret2
    exact ⟨rfl, hg1⟩

/-- What all calls with a rule and a time refuse. -/
def refE (r : Ru) (now : Int) (l : List Pc) : Int := if r.ok = false ∨ inB now 9007199254740992 = false then 2 else ordE l

set_option maxRecDepth 100000 in
set_option maxHeartbeats 1000000 in
theorem refused_any {w : World} (r : Ru) (now : Int) (so : Option Addr) (n sc : Nat) (l : List Pc) (hP : Ps w so n l) :
    Calls Try.prog 23 #[r.val, .int .i64 now, .slice so n sc] w fun e w' => e = .returned (.int .i64 (refE r now l)) ∧ w.grownBy w' none := by
  have ga := alloc_grown w (.cells #[.int .i64 r.by', .int .i64 r.age, .int .i64 r.pcs, .int .i64 r.bel] 23)
  have hck := check_any (w.alloc (.cells #[.int .i64 r.by', .int .i64 r.age, .int .i64 r.pcs, .int .i64 r.bel] 23)) r
  unfold Ru.val at *
  cases h1 : r.ok
  · have hM : Hid (refE r now l = 2) := by show _ = _; unfold refE; rw [if_pos (Or.inl h1)]
    rw [h1] at hck
    clear h1
    unfold argE at hck
    simp only [Bool.false_eq_true, if_false] at hck
    go_enter Try.func23, Try.ntmps23
    go_wp2_with fail
    refine hck.mono ?_
    rintro e w1 ⟨rfl, hg1⟩
    have hG := grown_trans ga hg1 (by simp)
    go_wp2
    go_ret
    exact ⟨ret_int (by rw [hM.out]), hG⟩
  · rw [h1] at hck
    unfold argE at hck
    simp only [if_true] at hck
    cases h2 : inB now 9007199254740992
    · have hM : Hid (refE r now l = 2) := by show _ = _; unfold refE; rw [if_pos (Or.inr h2)]
      clear h1
      go_enter Try.func23, Try.ntmps23
      go_wp2_with fail
      refine hck.mono ?_
      rintro e w1 ⟨rfl, hg1⟩
      have hwi := within_any w1 now 9007199254740992
      rw [h2] at hwi
      clear h2
      have hG := grown_trans ga hg1 (by simp)
      go_wp2_with fail
      refine hwi.mono ?_
      rintro e w2 ⟨rfl, rfl⟩
      go_wp2
      go_ret
      exact ⟨ret_int (by rw [hM.out]), hG⟩
    · have hM : Hid (refE r now l = ordE l) := by show _ = _; unfold refE; rw [if_neg (by simp [h1, h2])]
      clear h1
      go_enter Try.func23, Try.ntmps23
      go_wp2_with fail
      refine hck.mono ?_
      rintro e w1 ⟨rfl, hg1⟩
      have hwi := within_any w1 now 9007199254740992
      rw [h2] at hwi
      clear h2
      have hG := grown_trans ga hg1 (by simp)
      have hor := ordered_any so n sc l (hP.grown hG)
      go_wp2_with fail
      refine hwi.mono ?_
      rintro e w2 ⟨rfl, rfl⟩
      go_wp2_with fail
      refine hor.mono ?_
      rintro e w3 ⟨rfl, hg3⟩
      have hG3 := grown_trans hG hg3 (by simp)
      go_wp2
      go_ret
      exact ⟨ret_int (by rw [hM.out]), hG3⟩
end Go.Proofs.Ytkljmjpapkopbaa
