/-
  Lists of records: SameAll, the document's, Large: the walks.
-/
import Derived.Test.YtlfgikhjcimppabB1
import Derived.Deep.RegionHeld3
namespace Go.Proofs.Ytlfgikhjcimppab
open Go.RowKit
set_option linter.unusedVariables false

/-- What the records of a list are. -/
def ds (l : List Rc) : List Dr := l.map Rc.d
theorem sameB_iff (r q : Rc) : sameB r q = true ↔ r.d = q.d := by
  unfold sameB Rc.d
  simp
/-- Are they the same, one by one? -/
def sameAllB (l k : List Rc) : Bool := decide (ds l = ds k)
theorem ds_len (l : List Rc) : (ds l).length = l.length := by simp [ds]
theorem same_not {l k : List Rc} {i : Nat} (h1 : i < l.length) (h2 : i < k.length) (h : sameB l[i] k[i] = false) : sameAllB l k = false := by
  unfold sameAllB
  rw [decide_eq_false_iff_not]
  intro e
  have h3 : (ds l)[i]? = (ds k)[i]? := by rw [e]
  simp only [ds, List.getElem?_map, List.getElem?_eq_getElem h1, List.getElem?_eq_getElem h2, Option.map_some, Option.some.injEq] at h3
  rw [(sameB_iff _ _).2 h3] at h
  cases h
theorem same_step {l k : List Rc} {i : Nat} (h1 : i < l.length) (h2 : i < k.length) (h : sameB l[i] k[i] = true) (hp : ds (l.take i) = ds (k.take i)) : ds (l.take (i + 1)) = ds (k.take (i + 1)) := by
  rw [List.take_succ_eq_append_getElem h1, List.take_succ_eq_append_getElem h2]
  unfold ds at *
  rw [List.map_append, List.map_append, hp]
  simp [(sameB_iff _ _).1 h]
theorem same_len {l k : List Rc} (h : l.length ≠ k.length) : sameAllB l k = false := by
  unfold sameAllB
  rw [decide_eq_false_iff_not]
  intro e
  exact h (by rw [← ds_len l, ← ds_len k, e])
theorem Rs.at {w : World} {b o n cap : Nat} {l : List Rc} (h : Rs w (some ⟨b, o, none⟩) n cap l) {j : Nat} (hj : j < l.length) :
    w.cell? ⟨b, o + j * 3, none⟩ = some (.int .i64 (l[j]).t) ∧ w.cell? ⟨b, o + j * 3 + 1, none⟩ = some (.slice (l[j]).ko (l[j]).kn (l[j]).kc) ∧ w.cell? ⟨b, o + j * 3 + 2, none⟩ = some (.slice (l[j]).vo (l[j]).vn (l[j]).vc) ∧ Rk w l[j] := by
  obtain ⟨h1, h2, h3⟩ := h.cells b o rfl j l[j] (by simp [hj])
  exact ⟨h1, h2, h3, h.shows _ (List.getElem_mem hj)⟩
set_option maxRecDepth 100000 in
set_option maxHeartbeats 4000000 in
theorem rsameAll_any (w : World) (ao bo : Option Addr) (n m cap cap2 : Nat) (l k : List Rc) (ha : Rs w ao n cap l) (hb : Rs w bo m cap2 k) :
    Calls Try.prog 26 #[.slice ao n cap, .slice bo m cap2] w fun e w' => e = .returned (.bool (sameAllB l k)) ∧ w.grownBy w' none := by
  have hl1 := ha.len
  have hl2 := hb.len
  have ht1 := Nat.le_trans ha.room ha.top
  by_cases hnm : n = m
  · subst hnm
    have hne : ((n : Int) != (n : Int)) = false := by simp
    go_enter Try.func26, Try.ntmps26
    go_wp2_with fail
    go_loopw [5, 6] (fun i' _ wr => ∃ i : Nat, i ≤ n ∧ i' = .int .i64 i ∧ Hid (ds (l.take i) = ds (k.take i)) ∧ w.grownBy wr none) (fun i' _ _ => n - (intOf i').toNat)
    case atStart => exact ⟨0, Nat.zero_le _, rfl, (by simp : ds (l.take 0) = ds (k.take 0)), grown_refl _ _⟩
    case round =>
      obtain ⟨i, hi, rfl, hp, hg⟩ := hrel
      by_cases hlt : i < n
      · obtain ⟨b, o, rfl, hbl⟩ := ha.addr (by omega)
        obtain ⟨c, q, rfl, hcl⟩ := hb.addr (by omega)
        have h1 : i < l.length := by omega
        have h2 : i < k.length := by omega
        obtain ⟨a1, a2, a3, ak⟩ := (ha.grown hg).at h1
        obtain ⟨b1, b2, b3, bk⟩ := (hb.grown hg).at h2
        have hN : Hid (sameB l[i] k[i] = false → sameAllB l k = false) := same_not h1 h2
        have hS : Hid (sameB l[i] k[i] = true → ds (l.take (i + 1)) = ds (k.take (i + 1))) := fun h => same_step h1 h2 h hp.out
        have hd : decide ((i : Int) < (n : Int)) = true := by simp; omega
        generalize l[i] = x at *
        generalize k[i] = y at *
        have hcall : ∀ W, wr.grownBy W none → Calls Try.prog 35 #[.agg #[.int .i64 x.t, .slice x.ko x.kn x.kc, .slice x.vo x.vn x.vc], .agg #[.int .i64 y.t, .slice y.ko y.kn y.kc, .slice y.vo y.vn y.vc]] W fun e w' => e = .returned (.bool (sameB x y)) ∧ W.grownBy w' none := fun W hW => rsame_any W x y (ak.grown hW) (bk.grown hW)
        clear hp ak bk
        generalize sameB x y = B at *
        go_wp2_with fail
        go_region_held3 (fun w' => w'.cell? ⟨b, o + i * 3, none⟩ = some (.int .i64 x.t) ∧ w'.cell? ⟨b, o + i * 3 + 1, none⟩ = some (.slice x.ko x.kn x.kc) ∧ w'.cell? ⟨b, o + i * 3 + 2, none⟩ = some (.slice x.vo x.vn x.vc) ∧ w'.cell? ⟨c, q + i * 3, none⟩ = some (.int .i64 y.t) ∧ w'.cell? ⟨c, q + i * 3 + 1, none⟩ = some (.slice y.ko y.kn y.kc) ∧ w'.cell? ⟨c, q + i * 3 + 2, none⟩ = some (.slice y.vo y.vn y.vc)) (first | exact ⟨a1, a2, a3, b1, b2, b3⟩ | exact ⟨m1, m2, m3, n1, n2, n3⟩)
          ((go_at_call 35; refine (hcall _ (grown_drewN wr 1 none)).mono ?_; rintro e w2 ⟨rfl, hg2⟩; have hgd : wr.grownBy w2 none := grown_trans (grown_drewN wr 1 none) hg2 (by simp); have m1 := hgd.cell a1 (by simp); have m2 := hgd.cell a2 (by simp); have m3 := hgd.cell a3 (by simp); have n1 := hgd.cell b1 (by simp); have n2 := hgd.cell b2 (by simp); have n3 := hgd.cell b3 (by simp)))
        have hG := grown_trans hg hgd (by simp)
        clear a1 a2 a3 b1 b2 b3 m1 m2 m3 n1 n2 n3 hg2 hgd hcall
        cases B
        · go_wp2
          go_ret
          exact ⟨ret_bool (by rw [hN.out (by simp)]), hG⟩
        · go_wp2
          go_roundw
          case rel => exact ⟨i + 1, by omega, by go_num, hS.out (by simp), hG⟩
          case measure => simp [intOf]; omega
      · obtain rfl : i = n := by omega
        have hd : decide ((i : Int) < (i : Int)) = false := by simp
        have hE : Hid (sameAllB l k = true) := by
          have h9 := hp.out
          rw [List.take_of_length_le (by omega), List.take_of_length_le (by omega)] at h9
          exact (decide_eq_true h9 : _)
        go_wp2
        go_ret
        exact ⟨ret_bool (by rw [hE.out]), hg⟩
  · have hne : ((n : Int) != (m : Int)) = true := by simp; omega
    have hE : Hid (sameAllB l k = false) := same_len (by omega)
    go_enter Try.func26, Try.ntmps26
    go_wp2
    go_ret
    exact ⟨ret_bool (by rw [hE.out]), grown_refl _ _⟩
/-- More than is worked out in a statement. -/
def largeB (most : Nat) (l : List Rc) : Bool := decide (most < l.length) || l.any fun r => decide (9000 < r.kn) || decide (9000 < r.vn)
set_option maxRecDepth 100000 in
set_option maxHeartbeats 2000000 in
theorem large_any (w : World) (most : Nat) (ao : Option Addr) (n cap : Nat) (l : List Rc) (ha : Rs w ao n cap l) :
    Calls Try.prog 4 #[.int .i64 most, .slice ao n cap] w fun e w' => e = .returned (.bool (largeB most l)) ∧ w' = w := by
  have hl1 := ha.len
  have ht1 := Nat.le_trans ha.room ha.top
  by_cases hbig : most < n
  · have hE : Hid (largeB most l = true) := by show _ = _; unfold largeB; simp [hl1, hbig]
    go_enter Try.func4, Try.ntmps4
    go_wp2
    go_ret
    exact ⟨ret_bool (by rw [hE.out]), rfl⟩
  · go_enter Try.func4, Try.ntmps4
    go_wp2_with fail
    go_loop [5] (fun i' => ∃ i : Nat, i ≤ n ∧ i' = .int .i64 i ∧ Hid (((l.take i).any fun r => decide (9000 < r.kn) || decide (9000 < r.vn)) = false)) (fun i' => n - (intOf i').toNat)
    case atStart => exact ⟨0, Nat.zero_le _, rfl, (by simp : ((l.take 0).any fun r => decide (9000 < r.kn) || decide (9000 < r.vn)) = false)⟩
    case round =>
      obtain ⟨i, hi, rfl, hp⟩ := hrel
      by_cases hlt : i < n
      · obtain ⟨b, o, rfl, hbl⟩ := ha.addr (by omega)
        have h1 : i < l.length := by omega
        obtain ⟨a1, a2, a3, ak⟩ := ha.at h1
        have hd : decide ((i : Int) < (n : Int)) = true := by simp; omega
        have hY : Hid (9000 < (l[i]).kn ∨ 9000 < (l[i]).vn → largeB most l = true) := fun h => by
          unfold largeB
          rw [Bool.or_eq_true]
          right
          rw [List.any_eq_true]
          exact ⟨l[i], List.getElem_mem h1, by rcases h with h | h <;> simp [h]⟩
        have hS : Hid (¬ 9000 < (l[i]).kn → ¬ 9000 < (l[i]).vn → ((l.take (i + 1)).any fun r => decide (9000 < r.kn) || decide (9000 < r.vn)) = false) := fun g1 g2 => by
          rw [List.take_succ_eq_append_getElem h1, List.any_append, hp.out]
          simp; omega
        have hkr := ak.key.room
        have hvr := ak.value.room
        have hkb := ak.kb
        have hvb := ak.vb
        clear hp ak a1
        generalize l[i] = x at *
        by_cases hk : 9000 < x.kn
        · have hkd : decide (9000 < x.kn) = true := by simpa using hk
          go_wp2
          go_ret
          exact ⟨ret_bool (by rw [hY.out (Or.inl hk)]), rfl⟩
        · have hkd : decide (9000 < x.kn) = false := by simpa using hk
          by_cases hv : 9000 < x.vn
          · have hvd : decide (9000 < x.vn) = true := by simpa using hv
            go_wp2
            go_ret
            exact ⟨ret_bool (by rw [hY.out (Or.inr hv)]), rfl⟩
          · have hvd : decide (9000 < x.vn) = false := by simpa using hv
            go_wp2
            go_round
            case rel => exact ⟨i + 1, by omega, by go_num, hS.out hk hv⟩
            case measure => simp [intOf]; omega
      · obtain rfl : i = n := by omega
        have hd : decide ((i : Int) < (i : Int)) = false := by simp
        have hE : Hid (largeB most l = false) := by
          have h9 := hp.out
          rw [List.take_of_length_le (by omega)] at h9
          show _ = _
          unfold largeB
          rw [h9]
          simp; omega
        go_wp2
        go_ret
        exact ⟨ret_bool (by rw [hE.out]), rfl⟩
end Go.Proofs.Ytlfgikhjcimppab
