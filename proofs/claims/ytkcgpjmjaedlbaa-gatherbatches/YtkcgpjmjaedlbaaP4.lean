/-
  GatherBatches: the walk, where Batches says yes.
-/
import Derived.Test.YtkcgpjmjaedlbaaP2
import Derived.Test.YtkcgpjmjaedlbaaN6
namespace Go.Proofs.Ytkcgpjmjaedlbaa
open Go.RowKit Go.Shelf
set_option linter.unusedVariables false

set_option maxRecDepth 100000 in
set_option maxHeartbeats 16000000 in
theorem gatherBatches_yes (w : World) (take base : Int) (ao : Option Addr) (n cap : Nat) (L : List Rl) (ha : Ls w ao n cap L) (hb1 : -9223372036854775808 ≤ base) (hb2 : base < 9223372036854775808) (leave : Int) (hH : Hid (refR take L = 0 ∧ 0 ≤ base ∧ base ≤ 9007199254740992 ∧ base + ((flat L).length : Nat) ≤ 9007199254740993)) :
    Calls Try.prog 5 #[.agg #[.int .i64 take, .int .i64 base, .slice ao n cap, .int .i64 leave]] w fun e w' => e = .returned (.bool true) ∧ w.grownBy w' none := by
  have hlen := ha.len
  have ga := alloc_grown w (.cells #[.int .i64 take, .int .i64 base, .slice ao n cap, .int .i64 leave] 67)
  have k9 := heap_alloc_new w (.cells #[.int .i64 take, .int .i64 base, .slice ao n cap, .int .i64 leave] 67)
  have gd := grown_trans ga (grown_drew (w.alloc (.cells #[.int .i64 take, .int .i64 base, .slice ao n cap, .int .i64 leave] 67)) none) (by simp)
  have c0 := (grown_drew (w.alloc (.cells #[.int .i64 take, .int .i64 base, .slice ao n cap, .int .i64 leave] 67)) none).cell (cell_of (i := 0) (v := .int .i64 take) k9 rfl) (by simp)
  have c1 := (grown_drew (w.alloc (.cells #[.int .i64 take, .int .i64 base, .slice ao n cap, .int .i64 leave] 67)) none).cell (cell_of (i := 1) (v := .int .i64 base) k9 rfl) (by simp)
  have c2 := (grown_drew (w.alloc (.cells #[.int .i64 take, .int .i64 base, .slice ao n cap, .int .i64 leave] 67)) none).cell (cell_of (i := 2) (v := .slice ao n cap) k9 rfl) (by simp)
  have c3 := (grown_drew (w.alloc (.cells #[.int .i64 take, .int .i64 base, .slice ao n cap, .int .i64 leave] 67)) none).cell (cell_of (i := 3) (v := .int .i64 leave) k9 rfl) (by simp)
  go_enter Try.func5, Try.ntmps5
  go_wp2_with fail
  go_region_held3 (fun w' => w'.cell? ⟨w.heap.size, 0, none⟩ = some (.int .i64 take) ∧ w'.cell? ⟨w.heap.size, 1, none⟩ = some (.int .i64 base) ∧ w'.cell? ⟨w.heap.size, 2, none⟩ = some (.slice ao n cap) ∧ w'.cell? ⟨w.heap.size, 3, none⟩ = some (.int .i64 leave)) (first | exact ⟨c0, c1, c2, c3⟩ | go_keep) (fail)
  clear ga k9 c0 c1 c2 c3
  generalize (w.alloc (.cells #[.int .i64 take, .int .i64 base, .slice ao n cap, .int .i64 leave] 67)).drew = wd at *
  have ha0 := ha.grown gd
  go_wp2_with fail
  refine (many2_any _ ao n cap L ha0).mono ?_
  rintro e w0 ⟨⟨B, rfl, hB⟩, hw0⟩
  replace hw0 := hw0.symm
  subst hw0
  cases B
  · obtain ⟨hn3, hflat, hs3⟩ := hB rfl
    have hs : ∀ x ∈ L, x.n ≤ 4096 := fun x hx => Nat.le_trans (hs3 x hx) (by decide)
    clear hB hs3
    go_wp2_with fail
    refine (lent_any _ ao n cap L ha0 hn3 hs).mono ?_
    rintro e w1 ⟨mo, mc, M, rfl, hM, hD, hg1⟩
    have hal : shl M = shl L := shl_of (ha0.grown hg1) hM.shows hD
    have hsM : ∀ x ∈ M, x.n ≤ 4096 := fun x hx => by
      obtain ⟨j, hj⟩ := List.getElem?_of_mem hx
      have h9 : (M.map Rl.d)[j]? = (L.map Rl.d)[j]? := by rw [hD]
      rw [List.getElem?_map, List.getElem?_map, hj] at h9
      cases h2 : L[j]? with
      | none => rw [h2] at h9; cases h9
      | some y =>
        rw [h2] at h9
        simp only [Option.map_some, Option.some.injEq, Rl.d, Prod.mk.injEq] at h9
        have := hs y (List.mem_of_getElem? h2)
        omega
    have hlM : Hid (lref M = lref L) := lref_al hal
    have hrM : Hid (refR take M = refR take L) := refR_al hal
    have hNM : Hid ((flat M).length = (flat L).length) := len_al (flat_al hal)
    have HRL : Hid (refR take L = if take < 1 then 2 else lref L) := rfl
    have hG1 := grown_trans gd hg1 (by simp)
    go_wp2_with fail
    have hrM0 : refR take M = 0 := by rw [hrM.out]; exact hH.out.1
    have hle : base + ((flat M).length : Nat) ≤ 9007199254740993 := by rw [hNM.out]; exact hH.out.2.2.2
    obtain ⟨ht1, hl0⟩ := refR_pos hH.out.1
    obtain ⟨_, b0, b1, b2⟩ := hH.out
    refine (batches_ok _ take base mo n mc M hM.shows hsM hn3 hrM0 b0 b1 hle).mono ?_
    rintro e w2 ⟨⟨bb, bp, gb, po, pl, pc, ps, bs, rfl, hBt, hPM, hSM⟩, hg2⟩
    have hPn : Hid (Pn take L ps) := hPM.al hal
    have hsay : Hid (Bsay base L ps bs) := hSM.al hD
    have hG2 := grown_trans hG1 hg2 (by simp)
    have HBT : Hid (Bt w2 w1.heap.size w2.heap.size bb bp gb po pl pc ps bs) := hBt
    have HMY : Hid (May w1 wd.heap.size w1.heap.size M) := hM.may rfl hsM
    clear hrM0 hle hPM hSM hBt HRL hrM hNM hlM hH
    go_wp2_with fail
    refine (rlists_any _ ao n cap L (ha.grown hG2) hs (by omega)).mono ?_
    rintro e w3 ⟨rfl, hg3⟩
    rw [hl0]
    have hG3 := grown_trans hG2 hg3 (by simp)
    have hg13 := grown_trans hg2 hg3 (by simp)
    have hoff := roffsets_any w3 base ao n cap L (ha.grown hG3) hn3 b0 b1 (by omega)
    have hkept : ∀ W, w3.grownBy W none → Calls Try.prog 15 #[.slice mo n mc, .slice ao n cap] W fun e w' => e = .returned (.bool true) ∧ W.grownBy w' none := fun W hW => kept_any W _ mo n mc M (hM.grown (grown_trans hg13 hW (by simp))) ao cap L (ha.grown (grown_trans hG3 hW (by simp))) hD hn3 hs
    have d1 : decide (take < 1) = false := by simp; omega
    have d2 : decide (base < 0) = false := by simp; omega
    have d3 : decide (9007199254740992 < base) = false := by simp; omega
    have d4 : decide (9007199254740993 < base + ((flat L).length : Int)) = false := by simp; omega
    go_wp2_with (first | (go_at_call 22; refine hoff.mono ?_; rintro e w4 ⟨oo, oc, rfl, _, hg4⟩) | (go_at_call 15; refine (hkept _ hg4).mono ?_; rintro e w5 ⟨rfl, hg5⟩))
    have hg25 : w2.grownBy w5 none := grown_trans (grown_trans hg3 hg4 (by simp)) hg5 (by simp)
    have hg15 := grown_trans hg2 hg25 (by simp)
    have hG5 := grown_trans hG1 hg15 (by simp)
    have hMY5 : Hid (May w5 wd.heap.size w1.heap.size M) := HMY.out.grown hg15 (Nat.le_refl _)
    have hLs5 := (hM.grown hg15).shows
    have hlenM := hLs5.len
    have hsum : Hid (pl ≤ 100000 ∧ ∀ x ∈ bs, x.2.n ≤ 100000) := by
      have hlp := HBT.out.lps
      have hlb := HBT.out.lbs
      have h1 := len_le_sum ps hPn.out.pos
      have h2 := hPn.out.sum
      refine ⟨by omega, fun x hx => ?_⟩
      obtain ⟨j, hj⟩ := List.getElem?_of_mem hx
      have hjb := (List.getElem?_eq_some_iff.1 hj).1
      have hp : ps[j]? = some ps[j] := List.getElem?_eq_getElem (by omega)
      have h3 := (hPn.out.fit _ _ hp).1
      have h4 := (hsay.out j x _ hj hp).2.1
      omega
    clear hoff hkept d1 d2 d3 d4 HMY hM hsM hal hg13 hg3 hg4 hg5 hD hs
    go_loopw [13] (fun i' wr => ∃ i : Nat, i ≤ n ∧ i' = .int .i64 i ∧ Chg w5 wr (fun k => wd.heap.size ≤ k ∧ k < w1.heap.size) ∧ Ty w5 wr) (fun i' _ => n - (intOf i').toNat)
    case atStart => exact ⟨0, Nat.zero_le _, rfl, Chg.refl _ _, Ty.refl _⟩
    case round =>
      obtain ⟨i, hi, rfl, hCh, hTy⟩ := hrel
      by_cases hlt : i < n
      · have h1 : i < M.length := by omega
        obtain ⟨mb, mf, hmo, _⟩ := hLs5.vs.addr (by omega)
        subst hmo
        have hc := hTy.sl _ _ _ _ (hLs5.at h1).1
        have hsp := (hMY5.out.ty hTy).spoil (List.getElem_mem h1)
        generalize M[i] = m at *
        have hd : decide ((i : Int) < (n : Int)) = true := by simp; omega
        have i1 : (0 : Int) ≤ (i : Int) := by omega
        have i2 : (i : Int) < (n : Int) := by omega
        go_wp2_with (go_at_call 21; refine hsp.mono ?_; rintro e w6 ⟨rfl, hC6, hT6⟩)
        go_roundw
        case rel => exact ⟨i + 1, by omega, by go_num, hCh.trans hC6, hTy.trans hT6⟩
        case measure => simp [intOf]; omega
      · obtain rfl : i = n := by omega
        have hd : decide ((i : Int) < (i : Int)) = false := by simp
        have hG6 : w.grownBy wr none := chg_from hG5 hCh gd.size
        go_wp2_with fail
        refine (rplan_any wr take ao i cap L (ha.grown hG6) hl0 ht1 (by omega)).mono ?_
        rintro e w7 ⟨⟨qs, qo, qc, rfl, hQn, hQv⟩, hg7⟩
        obtain rfl := hQn.one hPn.out
        have hG7 := grown_trans hG6 hg7 (by simp)
        have hE6 : Eqv w1.heap.size w2.heap.size w2 wr := (Eqv.of_grown hg25 (Nat.le_refl _)).trans (Eqv.of_chg hCh hg25.size (fun k hk => hk.2))
        have hE7 := hE6.trans (Eqv.of_grown hg7 hE6.size)
        have hlps := HBT.out.lps
        have hQ7 := hQv.shows
        rw [hlps] at hQ7 ⊢
        have hgo : ∀ V (lv : Int), w7.grownBy V none → Calls Try.prog 34 #[.func (.func 48) #[] #[.pointer (some ⟨bb, 0, none⟩), .pointer (some ⟨bp, 0, none⟩)], .slice qo pl qc, .int .i64 base, .slice ao i cap, .int .i64 lv] V fun e w' => e = .returned (.bool true) ∧ V.grownBy w' none := fun V lv hV => by
          have hEV := hE7.trans (Eqv.of_grown hV hE7.size)
          have hBV := HBT.out.eqv hEV
          exact goes_ok V w2.heap.size bb bp qs bs pl hlps hsum.out.1 hEV.size (fun w9 hw9 => batches_told 4 (by decide) w9 w1.heap.size w2.heap.size bb bp gb po pl pc qs bs hsum.out.2 hsum.out.1 (hBV.eqv (Eqv.of_grown hw9 hBV.top))) qo qc (hQ7.grown hV) take base b0 ao i cap L (ha.grown (grown_trans hG7 hV (by simp))) hn3 hPn.out hsay.out b2 lv
        clear hQ7 hQv hQn hMY5 hLs5 hE6 hE7 hsum hsay HBT hPn
        go_wp2_with (first | (go_at_call 18; refine (num_any _ _).mono ?_; rintro e w' ⟨rfl, hw'⟩; replace hw' := hw'.symm; subst hw') | (go_at_call 34; refine (hgo _ _ hg8).mono ?_; rintro e w9 ⟨rfl, hg9⟩) | (go_at_call 34; refine (hgo _ _ (grown_refl _ _)).mono ?_; rintro e w8 ⟨rfl, hg8⟩) | (go_at_call 9; refine (works_any _).mono ?_; rintro e w10 ⟨rfl, hg10⟩))
        go_ret
        exact ⟨rfl, grown_trans (grown_trans (grown_trans hG7 hg8 (by simp)) hg9 (by simp)) hg10 (by simp)⟩
  · go_wp2_with fail
    refine (works_any _).mono ?_
    rintro e w1 ⟨rfl, hg1⟩
    go_wp2
    go_ret
    exact ⟨rfl, grown_trans gd hg1 (by simp)⟩
end Go.Proofs.Ytkcgpjmjaedlbaa
