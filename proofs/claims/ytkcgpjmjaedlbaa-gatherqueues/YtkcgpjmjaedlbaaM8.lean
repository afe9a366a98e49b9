/-
  Lists that say the same: what hangs on times and lengths alone; many, once more.
-/
import Derived.Test.YtkcgpjmjaedlbaaM7
namespace Go.Proofs.Ytkcgpjmjaedlbaa
open Go.RowKit
set_option linter.unusedVariables false

/-- What many answers. -/
def ManyF (n : Nat) (L : List Rl) (e : Ending) : Prop := ∃ B, e = .returned (.bool B) ∧ (B = false → n ≤ 300 ∧ (flat L).length ≤ 3000 ∧ ∀ x ∈ L, x.n ≤ 3000)
theorem ManyF.of {n : Nat} {L : List Rl} (B : Bool) (h : B = false → n ≤ 300 ∧ (flat L).length ≤ 3000 ∧ ∀ x ∈ L, x.n ≤ 3000) : ManyF n L (.returned (.bool B)) := ⟨B, rfl, h⟩

set_option maxRecDepth 100000 in
set_option maxHeartbeats 2000000 in
theorem many2_any (w : World) (ao : Option Addr) (n cap : Nat) (L : List Rl) (ha : Ls w ao n cap L) :
    Calls Try.prog 8 #[.slice ao n cap] w fun e w' => ManyF n L e ∧ w' = w := by
  have hlen := ha.len
  have htop := Nat.le_trans ha.vs.room ha.vs.top
  unfold maxLen at htop
  go_enter Try.func8, Try.ntmps8
  go_wp2_with fail
  go_loop [3, 4] (fun t i' => ∃ i T : Nat, i ≤ n ∧ i ≤ 301 ∧ t = .int .i64 T ∧ i' = .int .i64 i ∧ T ≤ i * 3001 ∧ Hid (T ≤ 3000 → (flat (L.take i)).length = T ∧ ∀ x ∈ L.take i, x.n ≤ 3000)) (fun _ i' => n - (intOf i').toNat)
  case atStart => exact ⟨0, 0, Nat.zero_le _, Nat.zero_le _, rfl, rfl, Nat.zero_le _, (fun _ => ⟨by simp [flat], fun x hx => by simp at hx⟩)⟩
  case round =>
    obtain ⟨i, T, hi, hi3, rfl, rfl, hT, hA⟩ := hrel
    by_cases hlt : i < n
    · have hd : decide ((i : Int) < (n : Int)) = true := by simp; omega
      by_cases h301 : i < 301
      · have hd3 : decide (i < 301) = true := by simpa using h301
        have h1 : i < L.length := by omega
        obtain ⟨b, o, rfl, hbl⟩ := ha.vs.addr (by omega)
        obtain ⟨a1, ak⟩ := ha.at h1
        have hstep : Hid (∀ T' : Nat, T' ≤ 3000 → T' = T + min (L[i]).n 3001 → (flat (L.take (i + 1))).length = T' ∧ ∀ x ∈ L.take (i + 1), x.n ≤ 3000) := fun T' h9 e => by
          have hAA := hA.out (by omega)
          have hkl := ak.len
          refine ⟨by rw [flat_succ h1, List.length_append, hAA.1]; omega, fun x hx => ?_⟩
          rw [List.take_succ_eq_append_getElem h1] at hx
          rcases List.mem_append.1 hx with hx | hx
          · exact hAA.2 x hx
          · obtain rfl : x = L[i] := by simpa using hx
            omega
        have hkr := ak.room
        have hkt := ak.top
        clear ak hA
        generalize L[i] = x at *
        by_cases hm : x.n ≤ 3001
        · have hmm : min (x.n : Int) 3001 = (x.n : Int) := by omega
          have hmn : min x.n 3001 = x.n := by omega
          rw [hmn] at hstep
          go_wp2
          go_round
          case rel => exact ⟨i + 1, T + x.n, by omega, by omega, by go_num, by go_num, by omega, fun h9 => hstep.out _ h9 rfl⟩
          case measure => simp [intOf]; omega
        · have hmm : min (x.n : Int) 3001 = 3001 := by omega
          have hmn : min x.n 3001 = 3001 := by omega
          rw [hmn] at hstep
          go_wp2
          go_round
          case rel => exact ⟨i + 1, T + 3001, by omega, by omega, by go_num, by go_num, by omega, fun h9 => hstep.out _ h9 rfl⟩
          case measure => simp [intOf]; omega
      · have hd3 : decide (i < 301) = false := by simpa using h301
        have hd4 : decide (300 < n) = true := by simp; omega
        go_wp2
        go_ret
        exact ⟨ManyF.of true (fun h => (by cases h)), rfl⟩
    · obtain rfl : i = n := by omega
      have hd : decide ((i : Int) < (i : Int)) = false := by simp
      by_cases h300 : 300 < i
      · have hd4 : decide (300 < i) = true := by simpa using h300
        go_wp2
        go_ret
        exact ⟨ManyF.of true (fun h => (by cases h)), rfl⟩
      · have hd4 : decide (300 < i) = false := by simpa using h300
        have hE : Hid (T ≤ 3000 → (flat L).length = T ∧ ∀ x ∈ L, x.n ≤ 3000) := by
          have h9 := hA.out
          rwa [List.take_of_length_le (by omega)] at h9
        go_wp2
        go_ret
        refine ⟨ManyF.of _ (fun h => ?_), rfl⟩
        have h7 : T ≤ 3000 := by simp at h; omega
        have h8 := hE.out h7
        exact ⟨by omega, by omega, h8.2⟩

/-- The time and the lengths of a record. -/
def sh (r : Rc) : Int × Nat × Nat := (r.t, r.kn, r.vn)
def shl (L : List Rl) : List (List (Int × Nat × Nat)) := L.map fun x => x.l.map sh
theorem shl_len (L : List Rl) : (shl L).length = L.length := by simp [shl]
theorem shl_flat (L : List Rl) : (flat L).map sh = (shl L).flatten := by
  unfold flat shl
  rw [List.map_flatten, List.map_map]
  rfl
theorem shl_take (L : List Rl) (n : Nat) : shl (L.take n) = (shl L).take n := by simp [shl, List.map_take]
theorem shl_drop (L : List Rl) (n : Nat) : shl (L.drop n) = (shl L).drop n := by simp [shl, List.map_drop]
theorem szs_sh (l : List Rc) : szs l = ((l.map sh).map fun s => 12 + s.2.1 + s.2.2).sum := by
  unfold szs
  rw [List.map_map]
  rfl
theorem szs_al {l k : List Rc} (h : l.map sh = k.map sh) : szs l = szs k := by rw [szs_sh, szs_sh, h]
theorem len_al {l k : List Rc} (h : l.map sh = k.map sh) : l.length = k.length := by have := congrArg List.length h; simpa using this
theorem fitsR_al {l k : List Rc} (h : l.map sh = k.map sh) : fitsR l = fitsR k := by
  have h1 := szs_al h
  have h2 := len_al h
  have h3 : l.all mayR = k.all mayR := by
    have e : ∀ q : List Rc, q.all mayR = (q.map sh).all fun s => mayB s.1 s.2.1 s.2.2 := fun q => by rw [List.all_map]; rfl
    rw [e, e, h]
  have h4 : (l.all mayR = false ∨ l = []) ↔ (k.all mayR = false ∨ k = []) := by
    rw [h3, ← List.length_eq_zero_iff, ← List.length_eq_zero_iff, h2]
  unfold fitsR
  rw [h1, h2]
  by_cases h5 : k.all mayR = false ∨ k = []
  · rw [if_pos h5, if_pos (h4.2 h5)]
  · rw [if_neg h5, if_neg (fun h6 => h5 (h4.1 h6))]
theorem flat_al {L M : List Rl} (h : shl L = shl M) : (flat L).map sh = (flat M).map sh := by rw [shl_flat, shl_flat, h]
theorem fit_al {L M : List Rl} (h : shl L = shl M) : Fit L ↔ Fit M := by
  unfold Fit
  rw [szs_al (flat_al h), len_al (flat_al h)]
theorem Tk.al {take : Int} {L M : List Rl} {n : Nat} (k : Tk take L n) (h : shl L = shl M) : Tk take M n := by
  have hl : L.length = M.length := by rw [← shl_len, h, shl_len]
  have ht : ∀ m, shl (L.take m) = shl (M.take m) := fun m => by rw [shl_take, shl_take, h]
  refine ⟨by rw [← hl]; exact k.le, k.most, fun hne => k.pos fun e => hne ?_, (fit_al (ht n)).1 k.fit, fun h1 h2 hf => k.next (by omega) h2 ((fit_al (ht (n + 1))).2 hf)⟩
  rw [e] at hl
  exact List.eq_nil_of_length_eq_zero hl.symm
theorem Pn.al {take : Int} {L : List Rl} {ps : List Nat} (k : Pn take L ps) : ∀ {M : List Rl}, shl L = shl M → Pn take M ps := by
  induction k with
  | nil =>
    intro M h
    have hl := congrArg List.length h
    rw [shl_len, shl_len] at hl
    obtain rfl : M = [] := List.eq_nil_of_length_eq_zero hl.symm
    exact .nil
  | cons h1 h2 h3 ih =>
    intro M h
    refine .cons (fun e => h1 ?_) (h2.al h) (ih (by rw [shl_drop, shl_drop, h]))
    have hl := congrArg List.length h
    rw [shl_len, shl_len, e] at hl
    exact List.eq_nil_of_length_eq_zero hl
theorem lref_al {L M : List Rl} (h : shl L = shl M) : lref L = lref M := by
  have hl : L.length = M.length := by rw [← shl_len, h, shl_len]
  have he : ∀ (c : Int), (L.any fun x => (fitsR x.l).2 == c) = (M.any fun x => (fitsR x.l).2 == c) := by
    intro c
    have hf : L.map (fun x => fitsR x.l) = M.map (fun x => fitsR x.l) := by
      apply List.ext_getElem?
      intro j
      have hj : (shl L)[j]? = (shl M)[j]? := by rw [h]
      simp only [shl, List.getElem?_map] at hj
      rw [List.getElem?_map, List.getElem?_map]
      cases h1 : L[j]? with
      | none => rw [h1] at hj; cases h2 : M[j]? with
        | none => rfl
        | some y => rw [h2] at hj; cases hj
      | some x => rw [h1] at hj; cases h2 : M[j]? with
        | none => rw [h2] at hj; cases hj
        | some y => rw [h2] at hj; simp only [Option.map_some, Option.some.injEq] at hj ⊢; exact fitsR_al hj
    have e : ∀ K : List Rl, (K.any fun x => (fitsR x.l).2 == c) = (K.map fun x => fitsR x.l).any fun f => f.2 == c := fun K => by rw [List.any_map]; rfl
    rw [e, e, hf]
  unfold lref
  rw [he, he, hl]
theorem refR_al {take : Int} {L M : List Rl} (h : shl L = shl M) : refR take L = refR take M := by unfold refR; rw [lref_al h]
theorem offL_al {base : Int} {L M : List Rl} (n : Nat) (h : shl L = shl M) : offL base L n = offL base M n := by
  unfold offL
  apply List.map_congr_left
  intro i _
  rw [len_al (flat_al (show shl (L.take i) = shl (M.take i) by rw [shl_take, shl_take, h]))]

/-- Lists that say the same and lie somewhere. -/
theorem shl_of {w v : World} {ao bo : Option Addr} {n m c d : Nat} {L M : List Rl} (hL : Ls w ao n c L) (hM : Ls v bo m d M) (h : M.map Rl.d = L.map Rl.d) : shl M = shl L := by
  have key : ∀ (W : World) (l : List Rc), (∀ r ∈ l, Rk W r) → l.map sh = (ds l).map fun d => (d.1, d.2.1.length, d.2.2.length) := by
    intro W l hl
    unfold ds
    rw [List.map_map]
    apply List.map_congr_left
    intro r hr
    have h1 := (hl r hr).key.len
    have h2 := (hl r hr).value.len
    simp [sh, Rc.d, h1, h2]
  apply List.ext_getElem?
  intro j
  have hj : (M.map Rl.d)[j]? = (L.map Rl.d)[j]? := by rw [h]
  rw [List.getElem?_map, List.getElem?_map] at hj
  unfold shl
  rw [List.getElem?_map, List.getElem?_map]
  cases h1 : M[j]? with
  | none => rw [h1] at hj; cases h2 : L[j]? with
    | none => rfl
    | some y => rw [h2] at hj; cases hj
  | some x => rw [h1] at hj; cases h2 : L[j]? with
    | none => rw [h2] at hj; cases hj
    | some y =>
      rw [h2] at hj
      simp only [Option.map_some, Option.some.injEq, Rl.d, Prod.mk.injEq] at hj ⊢
      rw [key v x.l fun r hr => (hM.shows x (List.mem_of_getElem? h1)).shows r hr, key w y.l fun r hr => (hL.shows y (List.mem_of_getElem? h2)).shows r hr, hj.2]
theorem ds_flat {L M : List Rl} (h : M.map Rl.d = L.map Rl.d) : ds (flat M) = ds (flat L) := by
  have e : ∀ K : List Rl, ds (flat K) = ((K.map Rl.d).map Prod.snd).flatten := fun K => by
    unfold ds flat
    rw [List.map_flatten, List.map_map, List.map_map]
    rfl
  rw [e, e, h]
end Go.Proofs.Ytkcgpjmjaedlbaa
