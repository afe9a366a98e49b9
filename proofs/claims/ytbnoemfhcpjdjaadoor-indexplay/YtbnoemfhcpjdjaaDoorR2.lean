/-
  The document's Find and At.
-/
import Derived.Test.YtbnoemfhcpjdjaaDoorR1
import Derived.Test.YtbnoemfhcpjdjaaDoorN1
namespace Go.Proofs.YtbnoemfhcpjdjaaDoor
open Go.RowKit
set_option linter.unusedVariables false

theorem last_none {pB : Sd → Bool} {l : List Sd} (h : ∀ j (hj : j < l.length), pB l[j] = true) : lastR pB l = (⟨0, 0⟩, false) := by
  have : cnt pB l = 0 := by
    unfold cnt
    rw [List.countP_eq_zero]
    intro a ha
    obtain ⟨j, hj, rfl⟩ := List.mem_iff_getElem.1 ha
    simp [h j hj]
  unfold lastR
  rw [if_pos this]
theorem last_some {pB : Sd → Bool} {l : List Sd} (hs : Srt l) (hp : ∀ s t : Sd, s.o < t.o → s.p < t.p → pB s = true → pB t = true) {k : Nat} (hk : k < l.length) (h0 : pB l[k] = false) (h : ∀ j (hj : j < l.length), k + 1 ≤ j → pB l[j] = true) : lastR pB l = (l[k], true) := by
  have e : l = l.take k ++ l[k] :: l.drop (k + 1) := by simp
  have h1 : ∀ u ∈ l.take k, pB u = false := by
    intro u hu
    obtain ⟨j, hj, rfl⟩ := List.mem_iff_getElem.1 hu
    have hj2 : j < k := by simp at hj; omega
    rw [List.getElem_take]
    have h9 := (List.pairwise_iff_getElem.1 hs) j k (by omega) hk hj2
    cases hq : pB l[j] with
    | false => rfl
    | true => rw [hp _ _ h9.1 h9.2 hq] at h0; cases h0
  have h2 : ∀ u ∈ l.drop (k + 1), pB u = true := by
    intro u hu
    obtain ⟨j, hj, rfl⟩ := List.mem_iff_getElem.1 hu
    rw [List.getElem_drop]
    exact h _ _ (by omega)
  have hc : cnt pB l = k + 1 := by
    have h3 := cnt_mid h1 h2 h0
    rw [← e] at h3
    rw [h3]
    simp
    omega
  unfold lastR
  rw [if_neg (by omega), hc]
  simp [ahead, hk]

set_option maxRecDepth 100000 in
set_option maxHeartbeats 4000000 in
theorem rfind_any {w : World} {base b st : Nat} {l : List Sd} {ro : Option Addr} {rc : Nat} (hx : Rx w b st ro l.length rc) (hs : Sw w base ro l.length rc l) (hsrt : Srt l) (hl : l.length ≤ 80000) (n : Int) (hb : n < 9223372036854775808) :
    Calls Tryd.prog 13 #[.pointer (some ⟨b, 0, none⟩), .int .i64 n] w fun e w' => e = .returned (.tuple #[(findR n l).1.val, .bool (findR n l).2]) ∧ w.grownBy w' none := by
  obtain ⟨x, y, v, hR⟩ : ∃ x y v, Hid (findR n l = (⟨x, y⟩, v)) := ⟨(findR n l).1.o, (findR n l).1.p, (findR n l).2, rfl⟩
  rw [hR.out]
  unfold Sd.val
  simp only
  have hgA := alloc_grown w (.cells #[.int .i64 0, .int .i64 0] 33)
  have c1 := hgA.cell hx.c1 (by simp)
  have hS := Sb.new w 0 0
  go_enter Tryd.func13, Tryd.ntmps13
  go_wp2_with fail
  generalize hW : w.alloc (.cells #[.int .i64 0, .int .i64 0] 33) = W at *
  go_loop [6] (fun v6 => ∃ k : Nat, v6 = .int .i64 ((k : Int) - 1) ∧ k ≤ l.length ∧ Hid (∀ j (hj : j < l.length), k ≤ j → n < l[j].o)) (fun v6 => (intOf v6 + 1).toNat)
  case atStart => exact ⟨l.length, rfl, Nat.le_refl _, (fun j hj h => by omega : ∀ j (hj : j < l.length), l.length ≤ j → n < l[j].o)⟩
  case round =>
    obtain ⟨k, rfl, hk, hall⟩ := hrel
    rcases Nat.eq_zero_or_pos k with rfl | hpos
    · have hR2 : findR n l = (⟨0, 0⟩, false) := last_none (fun j hj => by have := hall.out j hj (Nat.zero_le _); simp; omega)
      obtain ⟨⟨rfl, rfl⟩, rfl⟩ : (x = 0 ∧ y = 0) ∧ v = false := by
        have := hR.out.symm.trans hR2
        simpa using this
      have f0 := hS.fz 0
      have f1 := hS.fz 1
      have hw := hS.set 0 0
      have hgw : w.grownBy _ none := ((Chg.of_grown hgA _).trans (set2_chg W w.heap.size (.int .i64 0) (.int .i64 0))).grown (fun k hk e => by omega)
      have d0 := hS.c0
      have d1 := hS.c1
      have v0 := hw.c0
      have v1 := hw.c1
      clear hw hR2 hR
      go_wp2
      exact bodyPost_ret (v := .tuple #[.agg #[.int .i64 0, .int .i64 0], .bool false]) (by simp [results, Tryd.results13, go_sem, v0, v1]) rfl ⟨rfl, hgw⟩
    · obtain ⟨k, rfl⟩ : ∃ j, k = j + 1 := ⟨k - 1, by omega⟩
      have hlt : k < l.length := hk
      obtain ⟨g, rfl, -, -⟩ := hs.addr (by omega)
      have hget : l[k]? = some l[k] := List.getElem?_eq_getElem hlt
      have q0 : w.cell? ⟨g, k * 2, none⟩ = some (.int .i64 l[k].o) := by rw [show k * 2 = k * 2 + 0 from rfl, hs.at hget 0 (by omega)]; simp [Sd.cells]
      have q1 : w.cell? ⟨g, k * 2 + 1, none⟩ = some (.int .i64 l[k].p) := by rw [hs.at hget 1 (by omega)]; simp [Sd.cells]
      replace q0 := hgA.cell q0 (by simp)
      replace q1 := hgA.cell q1 (by simp)
      have ek : ((k + 1 : Nat) : Int) - 1 = (k : Int) := by omega
      rw [ek]
      clear ek
      by_cases hle : l[k].o ≤ n
      · have hR2 : findR n l = (l[k], true) := last_some hsrt (fun s t h1 h2 h3 => by simp at h3 ⊢; omega) hlt (by simp; omega) (fun j hj h => by have := hall.out j hj (by omega); simp; omega)
        obtain ⟨hxy, rfl⟩ : l[k] = ⟨x, y⟩ ∧ v = true := by
          have := hR2.symm.trans hR.out
          simpa [eq_comm] using this
        rw [hxy] at q0 q1 hle
        simp only at q0 q1 hle
        have f0 := hS.fz 0
        have f1 := hS.fz 1
        have hw := hS.set x y
        have hgw : w.grownBy _ none := ((Chg.of_grown hgA _).trans (set2_chg W w.heap.size (.int .i64 x) (.int .i64 y))).grown (fun k hk e => by omega)
        have d0 := hS.c0
        have d1 := hS.c1
        have v0 := hw.c0
        have v1 := hw.c1
        clear hw hR hR2 hxy hget
        go_wp2
        exact bodyPost_ret (v := .tuple #[.agg #[.int .i64 x, .int .i64 y], .bool true]) (by simp [results, Tryd.results13, go_sem, v0, v1]) rfl ⟨rfl, hgw⟩
      · have hall2 : Hid (∀ j (hj : j < l.length), k ≤ j → n < l[j].o) := (fun j hj h => by
          rcases Nat.lt_or_eq_of_le h with h | rfl
          · exact hall.out j hj h
          · omega : ∀ j (hj : j < l.length), k ≤ j → n < l[j].o)
        clear hall
        go_wp2
        go_round
        case rel => exact ⟨k, by go_num, by omega, hall2⟩
        case measure => simp [intOf]

set_option maxRecDepth 100000 in
set_option maxHeartbeats 4000000 in
theorem rat_any {w : World} {base b st : Nat} {l : List Sd} {ro : Option Addr} {rc : Nat} (hx : Rx w b st ro l.length rc) (hs : Sw w base ro l.length rc l) (hsrt : Srt l) (hl : l.length ≤ 80000) (n : Int) (hb : n < 9223372036854775808) :
    Calls Tryd.prog 15 #[.pointer (some ⟨b, 0, none⟩), .int .i64 n] w fun e w' => e = .returned (.tuple #[(atR n l).1.val, .bool (atR n l).2]) ∧ w.grownBy w' none := by
  obtain ⟨x, y, v, hR⟩ : ∃ x y v, Hid (atR n l = (⟨x, y⟩, v)) := ⟨(atR n l).1.o, (atR n l).1.p, (atR n l).2, rfl⟩
  rw [hR.out]
  unfold Sd.val
  simp only
  have hgA := alloc_grown w (.cells #[.int .i64 0, .int .i64 0] 33)
  have c1 := hgA.cell hx.c1 (by simp)
  have hS := Sb.new w 0 0
  go_enter Tryd.func15, Tryd.ntmps15
  go_wp2_with fail
  generalize hW : w.alloc (.cells #[.int .i64 0, .int .i64 0] 33) = W at *
  go_loop [6] (fun v6 => ∃ k : Nat, v6 = .int .i64 ((k : Int) - 1) ∧ k ≤ l.length ∧ Hid (∀ j (hj : j < l.length), k ≤ j → n < l[j].p)) (fun v6 => (intOf v6 + 1).toNat)
  case atStart => exact ⟨l.length, rfl, Nat.le_refl _, (fun j hj h => by omega : ∀ j (hj : j < l.length), l.length ≤ j → n < l[j].p)⟩
  case round =>
    obtain ⟨k, rfl, hk, hall⟩ := hrel
    rcases Nat.eq_zero_or_pos k with rfl | hpos
    · have hR2 : atR n l = (⟨0, 0⟩, false) := last_none (fun j hj => by have := hall.out j hj (Nat.zero_le _); simp; omega)
      obtain ⟨⟨rfl, rfl⟩, rfl⟩ : (x = 0 ∧ y = 0) ∧ v = false := by
        have := hR.out.symm.trans hR2
        simpa using this
      have f0 := hS.fz 0
      have f1 := hS.fz 1
      have hw := hS.set 0 0
      have hgw : w.grownBy _ none := ((Chg.of_grown hgA _).trans (set2_chg W w.heap.size (.int .i64 0) (.int .i64 0))).grown (fun k hk e => by omega)
      have d0 := hS.c0
      have d1 := hS.c1
      have v0 := hw.c0
      have v1 := hw.c1
      clear hw hR2 hR
      go_wp2
      exact bodyPost_ret (v := .tuple #[.agg #[.int .i64 0, .int .i64 0], .bool false]) (by simp [results, Tryd.results15, go_sem, v0, v1]) rfl ⟨rfl, hgw⟩
    · obtain ⟨k, rfl⟩ : ∃ j, k = j + 1 := ⟨k - 1, by omega⟩
      have hlt : k < l.length := hk
      obtain ⟨g, rfl, -, -⟩ := hs.addr (by omega)
      have hget : l[k]? = some l[k] := List.getElem?_eq_getElem hlt
      have q0 : w.cell? ⟨g, k * 2, none⟩ = some (.int .i64 l[k].o) := by rw [show k * 2 = k * 2 + 0 from rfl, hs.at hget 0 (by omega)]; simp [Sd.cells]
      have q1 : w.cell? ⟨g, k * 2 + 1, none⟩ = some (.int .i64 l[k].p) := by rw [hs.at hget 1 (by omega)]; simp [Sd.cells]
      replace q0 := hgA.cell q0 (by simp)
      replace q1 := hgA.cell q1 (by simp)
      have ek : ((k + 1 : Nat) : Int) - 1 = (k : Int) := by omega
      rw [ek]
      clear ek
      by_cases hle : l[k].p ≤ n
      · have hR2 : atR n l = (l[k], true) := last_some hsrt (fun s t h1 h2 h3 => by simp at h3 ⊢; omega) hlt (by simp; omega) (fun j hj h => by have := hall.out j hj (by omega); simp; omega)
        obtain ⟨hxy, rfl⟩ : l[k] = ⟨x, y⟩ ∧ v = true := by
          have := hR2.symm.trans hR.out
          simpa [eq_comm] using this
        rw [hxy] at q0 q1 hle
        simp only at q0 q1 hle
        have f0 := hS.fz 0
        have f1 := hS.fz 1
        have hw := hS.set x y
        have hgw : w.grownBy _ none := ((Chg.of_grown hgA _).trans (set2_chg W w.heap.size (.int .i64 x) (.int .i64 y))).grown (fun k hk e => by omega)
        have d0 := hS.c0
        have d1 := hS.c1
        have v0 := hw.c0
        have v1 := hw.c1
        clear hw hR hR2 hxy hget
        go_wp2
        exact bodyPost_ret (v := .tuple #[.agg #[.int .i64 x, .int .i64 y], .bool true]) (by simp [results, Tryd.results15, go_sem, v0, v1]) rfl ⟨rfl, hgw⟩
      · have hall2 : Hid (∀ j (hj : j < l.length), k ≤ j → n < l[j].p) := (fun j hj h => by
          rcases Nat.lt_or_eq_of_le h with h | rfl
          · exact hall.out j hj h
          · omega : ∀ j (hj : j < l.length), k ≤ j → n < l[j].p)
        clear hall
        go_wp2
        go_round
        case rel => exact ⟨k, by go_num, by omega, hall2⟩
        case measure => simp [intOf]
end Go.Proofs.YtbnoemfhcpjdjaaDoor
