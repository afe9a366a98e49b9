/-
  The document's Same: the walk.
-/
import Derived.Test.YtkcgpjmjaedlbaaM1
namespace Go.Proofs.Ytkcgpjmjaedlbaa
open Go.RowKit
set_option linter.unusedVariables false

/-- Are they the same, one by one? -/
def sameAllB (l k : List Rc) : Bool := decide (ds l = ds k)
theorem same_not {l k : List Rc} {i : Nat} (h1 : i < l.length) (h2 : i < k.length) (h : (l[i]).d ≠ (k[i]).d) : sameAllB l k = false := by
  unfold sameAllB
  rw [decide_eq_false_iff_not]
  intro e
  have h3 : (ds l)[i]? = (ds k)[i]? := by rw [e]
  simp only [ds, List.getElem?_map, List.getElem?_eq_getElem h1, List.getElem?_eq_getElem h2, Option.map_some, Option.some.injEq] at h3
  exact h h3
theorem same_step {l k : List Rc} {i : Nat} (h1 : i < l.length) (h2 : i < k.length) (h : (l[i]).d = (k[i]).d) (hp : ds (l.take i) = ds (k.take i)) : ds (l.take (i + 1)) = ds (k.take (i + 1)) := by
  rw [List.take_succ_eq_append_getElem h1, List.take_succ_eq_append_getElem h2]
  unfold ds at *
  rw [List.map_append, List.map_append, hp]
  simp [h]
theorem same_len {l k : List Rc} (h : l.length ≠ k.length) : sameAllB l k = false := by
  unfold sameAllB
  rw [decide_eq_false_iff_not]
  intro e
  exact h (by rw [← ds_len l, ← ds_len k, e])

set_option maxRecDepth 100000 in
set_option maxHeartbeats 8000000 in
theorem rsame_any (w : World) (ao bo : Option Addr) (n m cap cap2 : Nat) (l k : List Rc) (ha : Rs w ao n cap l) (hb : Rs w bo m cap2 k) :
    Calls Try.prog 20 #[.slice ao n cap, .slice bo m cap2] w fun e w' => e = .returned (.bool (sameAllB l k)) ∧ w.grownBy w' none := by
  have hl1 := ha.len
  have hl2 := hb.len
  have ht1 := Nat.le_trans ha.room ha.top
  by_cases hnm : n = m
  · subst hnm
    have hne : ((n : Int) != (n : Int)) = false := by simp
    go_enter Try.func20, Try.ntmps20
    go_wp2_with fail
    go_loopw [5] (fun i' wr => ∃ i : Nat, i ≤ n ∧ i' = .int .i64 i ∧ Hid (ds (l.take i) = ds (k.take i)) ∧ w.grownBy wr none) (fun i' _ => n - (intOf i').toNat)
    case atStart => exact ⟨0, Nat.zero_le _, rfl, (by simp : ds (l.take 0) = ds (k.take 0)), grown_refl _ _⟩
    case round =>
      obtain ⟨i, hi, rfl, hp, hg⟩ := hrel
      by_cases hlt : i < n
      · obtain ⟨b, o, rfl, hbl⟩ := ha.addr (by omega)
        obtain ⟨c, q, rfl, hcl⟩ := hb.addr (by omega)
        have h1 : i < l.length := by omega
        have h2 : i < k.length := by omega
        obtain ⟨a1, a2, a3, ak⟩ := (ha.grown hg).at h1
        obtain ⟨b1, b2, b3, bk⟩ := (hb.grown hg).at h2
        have hN : Hid ((l[i]).d ≠ (k[i]).d → sameAllB l k = false) := same_not h1 h2
        have hS : Hid ((l[i]).d = (k[i]).d → ds (l.take (i + 1)) = ds (k.take (i + 1))) := fun h => same_step h1 h2 h hp.out
        have hd : decide ((i : Int) < (n : Int)) = true := by simp; omega
        clear hp
        generalize l[i] = x at *
        generalize k[i] = y at *
        have s1 := fun j => run_string_bs (P := Try.prog) (wr.drewN j) 79 9 5 Try.underlying79 Try.underlying5 Try.underlying9 (ak.key.grown (grown_drewN wr j none))
        have s2 := fun j => run_string_bs (P := Try.prog) (wr.drewN j) 79 9 5 Try.underlying79 Try.underlying5 Try.underlying9 (bk.key.grown (grown_drewN wr j none))
        have s3 := fun j => run_string_bs (P := Try.prog) (wr.drewN j) 79 9 5 Try.underlying79 Try.underlying5 Try.underlying9 (ak.value.grown (grown_drewN wr j none))
        have s4 := fun j => run_string_bs (P := Try.prog) (wr.drewN j) 79 9 5 Try.underlying79 Try.underlying5 Try.underlying9 (bk.value.grown (grown_drewN wr j none))
        have i1 : (0 : Int) ≤ (i : Int) := by omega
        have i2 : (i : Int) < (n : Int) := by omega
        clear ak bk
        by_cases ht : x.t = y.t
        · have e1 : (x.t != y.t) = false := by simpa using ht
          by_cases hk : x.k = y.k
          · have e2 : (x.k == y.k) = true := by simpa using hk
            by_cases hv : x.v = y.v
            · have e3 : (x.v == y.v) = true := by simpa using hv
              have hE := hS.out (by unfold Rc.d; rw [ht, hk, hv])
              clear hN hS
              go_wp2_with fail
              go_big_quiet (fail)
              go_wp2
              go_roundw
              case rel => exact ⟨i + 1, by omega, by go_num, hE, grown_trans hg (grown_drewN wr _ none) (by simp)⟩
              case measure => simp [intOf]; omega
            · have e3 : (x.v == y.v) = false := by simpa using hv
              have hE := hN.out (fun e => hv (congrArg (fun d => d.2.2) e))
              clear hN hS
              go_wp2_with fail
              go_big_quiet (fail)
              go_wp2
              go_ret
              exact ⟨ret_bool (by rw [hE]), grown_trans hg (grown_drewN wr _ none) (by simp)⟩
          · have e2 : (x.k == y.k) = false := by simpa using hk
            have hE := hN.out (fun e => hk (congrArg (fun d => d.2.1) e))
            clear hN hS s3 s4
            go_wp2_with fail
            go_big_quiet (fail)
            go_wp2
            go_ret
            exact ⟨ret_bool (by rw [hE]), grown_trans hg (grown_drewN wr _ none) (by simp)⟩
        · have e1 : (x.t != y.t) = true := by simpa using ht
          have hE := hN.out (fun e => ht (congrArg Prod.fst e))
          clear hN hS s1 s2 s3 s4
          go_wp2_with fail
          go_big_quiet (fail)
          go_wp2
          go_ret
          exact ⟨ret_bool (by rw [hE]), grown_trans hg (grown_drewN wr _ none) (by simp)⟩
      · obtain rfl : i = n := by omega
        have hd : decide ((i : Int) < (i : Int)) = false := by simp
        have hE : Hid (sameAllB l k = true) := by
          have h9 := hp.out
          rw [List.take_of_length_le (by omega), List.take_of_length_le (by omega)] at h9
          exact (decide_eq_true h9 : _)
        go_wp2
        go_ret
        exact ⟨ret_bool (by rw [hE.out]), hg⟩
  · have hne : ((n : Int) != (m : Int)) = true := by simp; omega
    have hE : Hid (sameAllB l k = false) := same_len (by omega)
    go_enter Try.func20, Try.ntmps20
    go_wp2
    go_ret
    exact ⟨ret_bool (by rw [hE.out]), grown_refl _ _⟩
end Go.Proofs.Ytkcgpjmjaedlbaa
