/-
  The document's Fits, Lists, Together: the walks.
-/
import Derived.Test.YtkcgpjmjaedlbaaM4
namespace Go.Proofs.Ytkcgpjmjaedlbaa
open Go.RowKit
set_option linter.unusedVariables false

theorem mayR_sz {r : Rc} (h : mayR r = true) : r.kn ≤ 256 ∧ r.vn ≤ 4096 := by
  simp only [mayR, mayB, Bool.and_eq_true, decide_eq_true_eq] at h
  exact h.2.2

set_option maxRecDepth 100000 in
set_option maxHeartbeats 4000000 in
theorem rfits_any (w : World) (ao : Option Addr) (n cap : Nat) (l : List Rc) (ha : Rs w ao n cap l) (hn : n ≤ 100000) :
    Calls Try.prog 19 #[.slice ao n cap] w fun e w' => e = .returned (.int .i64 (fitsR l).2) ∧ w.grownBy w' none := by
  have hlen := ha.len
  by_cases h0 : n = 0
  · subst h0
    obtain rfl : l = [] := List.eq_nil_of_length_eq_zero hlen
    go_enter Try.func19, Try.ntmps19
    go_wp2
    go_ret
    exact ⟨rfl, grown_refl _ _⟩
  · have hz : ((n : Int) == 0) = false := by simp; omega
    have hne : l ≠ [] := fun e => h0 (by rw [← hlen, e]; rfl)
    go_enter Try.func19, Try.ntmps19
    go_wp2_with fail
    go_loopw [3, 4] (fun n' i' wr => ∃ (i N : Nat), i ≤ n ∧ i' = .int .i64 i ∧ n' = .int .i64 N ∧ N ≤ 100000 ∧ Hid ((l.take i).all mayR = true) ∧ Hid (N ≤ 65536 → N = 20 + szs (l.take i)) ∧ Hid (65536 < N → 65536 < 20 + szs (l.take i)) ∧ w.grownBy wr none) (fun _ i' _ => n - (intOf i').toNat)
    case atStart => exact ⟨0, 20, Nat.zero_le _, rfl, rfl, by omega, (by simp : _ = _), (fun _ => by simp [szs]), (fun h => absurd h (by omega)), grown_refl _ _⟩
    case round =>
      obtain ⟨i, N, hi, rfl, rfl, hN, hm, hle, hgt, hg⟩ := hrel
      by_cases hlt : i < n
      · obtain ⟨b, o, rfl, hbl⟩ := ha.addr (by omega)
        have h1 : i < l.length := by omega
        obtain ⟨a1, a2, a3, ak⟩ := (ha.grown hg).at h1
        have hc6 : ∀ W, w.grownBy W none → W.cell? ⟨b, o + i * 3 + 1, none⟩ = some (.slice (l[i]).ko (l[i]).kn (l[i]).kc) ∧ W.cell? ⟨b, o + i * 3 + 2, none⟩ = some (.slice (l[i]).vo (l[i]).vn (l[i]).vc) := fun W hW => by
          obtain ⟨_, q2, q3, _⟩ := (ha.grown hW).at h1
          exact ⟨q2, q3⟩
        have hd : decide ((i : Int) < (n : Int)) = true := by simp; omega
        have hNo : Hid (mayR l[i] = false → fitsR l = (0, 2)) := fitsR_no h1
        have hY : Hid (mayR l[i] = true → (l.take (i + 1)).all mayR = true) := fun h => by
          rw [List.take_succ_eq_append_getElem h1, List.all_append, hm.out]; simp [h]
        have hzs : Hid (szs (l.take (i + 1)) = szs (l.take i) + (12 + (l[i]).kn + (l[i]).vn)) := szs_snoc h1
        have hsz : mayR l[i] = true → (l[i]).kn ≤ 256 ∧ (l[i]).vn ≤ 4096 := mayR_sz
        clear hm
        have i1 : (0 : Int) ≤ (i : Int) := by omega
        have i2 : (i : Int) < (n : Int) := by omega
        have hmay := rmay_any wr (l[i]) ak
        generalize l[i] = x at *
        generalize hM : mayB x.t x.kn x.vn = Mb at *
        have hMR : mayR x = Mb := hM
        clear hM
        go_wp2_with fail
        refine hmay.mono ?_
        rintro e w2 ⟨rfl, hg2⟩
        have hG := grown_trans hg hg2 (by simp)
        obtain ⟨q2, q3⟩ := hc6 _ hG
        clear a1 a2 a3 ak hmay hc6 hg2 hg
        cases Mb
        · go_wp2
          go_ret
          exact ⟨ret_int (by rw [hNo.out hMR]), hG⟩
        · obtain ⟨s1, s2⟩ := hsz hMR
          have hY' : Hid ((l.take (i + 1)).all mayR = true) := hY.out hMR
          clear hY hNo hsz hMR
          by_cases hN6 : N ≤ 65536
          · have hd6 : decide ((N : Int) ≤ 65536) = true := by simp; omega
            have hNe := hle.out hN6
            have hle2 : Hid (N + 12 + x.kn + x.vn ≤ 65536 → N + 12 + x.kn + x.vn = 20 + szs (l.take (i + 1))) := fun _ => by rw [hzs.out]; omega
            have hgt2 : Hid (65536 < N + 12 + x.kn + x.vn → 65536 < 20 + szs (l.take (i + 1))) := fun _ => by rw [hzs.out]; omega
            clear hle hgt hzs hNe
            go_wp2_with fail
            go_big_quiet (fail)
            go_wp2
            go_roundw
            case rel => exact ⟨i + 1, N + 12 + x.kn + x.vn, by omega, by go_num, by congr 1, by omega, hY', hle2, hgt2, grown_trans hG (grown_drewN w2 _ none) (by simp)⟩
            case measure => simp [intOf]; omega
          · have hd6 : decide ((N : Int) ≤ 65536) = false := by simp; omega
            have hgt2 : Hid (65536 < N → 65536 < 20 + szs (l.take (i + 1))) := fun h9 => by rw [hzs.out]; have := hgt.out h9; omega
            go_wp2
            go_roundw
            case rel => exact ⟨i + 1, N, by omega, by go_num, rfl, by omega, hY', (fun h9 => absurd h9 hN6), hgt2, hG⟩
            case measure => simp [intOf]; omega
      · obtain rfl : i = n := by omega
        have hd : decide ((i : Int) < (i : Int)) = false := by simp
        have hF : l.take i = l := List.take_of_length_le (by omega)
        rw [hF] at hm hle hgt
        have HF : Hid ((fitsR l).2 = if 256 < i ∨ 65536 < N then 8 else 0) := by
          show _ = _
          unfold fitsR
          rw [if_neg (by rw [hm.out]; simp [hne]), hlen]
          by_cases h9 : 65536 < N
          · rw [if_pos (Or.inr (hgt.out h9)), if_pos (Or.inr h9)]
          · have := hle.out (by omega)
            by_cases h8 : 256 < i
            · rw [if_pos (Or.inl h8), if_pos (Or.inl h8)]
            · rw [if_neg (by omega), if_neg (by omega)]
        clear hm hle hgt hF
        by_cases h256 : 256 < i
        · have hd2 : decide (256 < i) = true := by simpa using h256
          go_wp2
          go_ret
          exact ⟨ret_int (by rw [HF.out, if_pos (Or.inl h256)]), hg⟩
        · have hd2 : decide (256 < i) = false := by simpa using h256
          by_cases h65 : 65536 < N
          · have hd3 : decide (65536 < N) = true := by simpa using h65
            go_wp2
            go_ret
            exact ⟨ret_int (by rw [HF.out, if_pos (Or.inr h65)]), hg⟩
          · have hd3 : decide (65536 < N) = false := by simpa using h65
            go_wp2
            go_ret
            exact ⟨ret_int (by rw [HF.out, if_neg (by omega)]), hg⟩

set_option maxRecDepth 100000 in
set_option maxHeartbeats 2000000 in
theorem rlists_any (w : World) (ao : Option Addr) (n cap : Nat) (L : List Rl) (ha : Ls w ao n cap L) (hs : ∀ x ∈ L, x.n ≤ 4096) (hn4 : n ≤ 4096) :
    Calls Try.prog 16 #[.slice ao n cap] w fun e w' => e = .returned (.int .i64 (lref L)) ∧ w.grownBy w' none := by
  have hlen := ha.len
  go_enter Try.func16, Try.ntmps16
  go_wp2_with fail
  go_loopw [3] (fun i' wr => ∃ (i : Nat), i ≤ n ∧ i' = .int .i64 i ∧ Hid ((L.take i).any (fun x => (fitsR x.l).2 == 2) = false) ∧ w.grownBy wr none) (fun i' _ => n - (intOf i').toNat)
  case atStart => exact ⟨0, Nat.zero_le _, rfl, (by simp : _ = _), grown_refl _ _⟩
  case round =>
    obtain ⟨i, hi, rfl, hG2, hg⟩ := hrel
    by_cases hlt : i < n
    · have h1 : i < L.length := by omega
      obtain ⟨b, o, rfl, hbl⟩ := ha.vs.addr (by omega)
      obtain ⟨a1, ak⟩ := (ha.grown hg).at h1
      have hd : decide ((i : Int) < (n : Int)) = true := by simp; omega
      have hx4 := hs _ (List.getElem_mem h1)
      have h2 : Hid ((L.take (i + 1)).any (fun x => (fitsR x.l).2 == 2) = ((fitsR (L[i]).l).2 == 2)) := by show _ = _; rw [List.take_succ_eq_append_getElem h1, List.any_append, hG2.out]; simp
      have hN : Hid ((fitsR (L[i]).l).2 = 2 → lref L = 2) := fun e => by
        unfold lref
        rw [if_pos]
        exact List.any_eq_true.2 ⟨L[i], List.getElem_mem h1, by simp [e]⟩
      clear hG2
      generalize L[i] = x at *
      have hrf := rfits_any wr x.o x.n x.c x.l ak (by omega)
      generalize (fitsR x.l).2 = er at *
      go_wp2_with fail
      refine hrf.mono ?_
      rintro e w2 ⟨rfl, hg2⟩
      have hG := grown_trans hg hg2 (by simp)
      clear a1 ak hg hg2 hrf
      by_cases he2 : er = 2
      · subst he2
        go_wp2
        go_ret
        exact ⟨ret_int (by rw [hN.out (by simp)]), hG⟩
      · have hz2 : (er == 2) = false := by simpa using he2
        go_wp2
        go_roundw
        case rel => exact ⟨i + 1, by omega, by go_num, by show _ = _; rw [h2.out, hz2], hG⟩
        case measure => simp [intOf]; omega
    · obtain rfl : i = n := by omega
      have hd : decide ((i : Int) < (i : Int)) = false := by simp
      have HF : Hid (lref L = if 256 < i then 3 else if L.any (fun x => (fitsR x.l).2 == 8) then 8 else 0) := by
        have e2 := hG2.out
        rw [List.take_of_length_le (by omega)] at e2
        show _ = _
        unfold lref
        rw [e2, hlen]
        simp
      have hno2 : Hid (∀ x ∈ L, (fitsR x.l).2 ≠ 2) := fun x hx e => by
        have e2 := hG2.out
        rw [List.take_of_length_le (by omega), List.any_eq_false] at e2
        exact e2 x hx (by simp [e])
      clear hG2
      by_cases h256 : 256 < i
      · have hd2 : decide (256 < i) = true := by simpa using h256
        go_wp2
        go_ret
        exact ⟨ret_int (by rw [HF.out, if_pos h256]), hg⟩
      · have hd2 : decide (256 < i) = false := by simpa using h256
        go_wp2_with fail
        go_loopw [4] (fun j' wr => ∃ (j : Nat), j ≤ i ∧ j' = .int .i64 j ∧ Hid ((L.take j).any (fun x => (fitsR x.l).2 == 8) = false) ∧ w.grownBy wr none) (fun j' _ => i - (intOf j').toNat)
        case atStart => exact ⟨0, Nat.zero_le _, rfl, (by simp : _ = _), hg⟩
        case round =>
          obtain ⟨j, hj, rfl, hG8, hg2⟩ := hrel
          by_cases hlt2 : j < i
          · have h1 : j < L.length := by omega
            obtain ⟨b, o, rfl, hbl⟩ := ha.vs.addr (by omega)
            obtain ⟨a1, ak⟩ := (ha.grown hg2).at h1
            have hd3 : decide ((j : Int) < (i : Int)) = true := by simp; omega
            have hx4 := hs _ (List.getElem_mem h1)
            have h8 : Hid ((L.take (j + 1)).any (fun x => (fitsR x.l).2 == 8) = ((fitsR (L[j]).l).2 == 8)) := by show _ = _; rw [List.take_succ_eq_append_getElem h1, List.any_append, hG8.out]; simp
            have hN : Hid ((fitsR (L[j]).l).2 = 8 → lref L = 8) := fun e => by
              rw [HF.out, if_neg h256, if_pos]
              exact List.any_eq_true.2 ⟨L[j], List.getElem_mem h1, by simp [e]⟩
            have hcode : Hid ((fitsR (L[j]).l).2 = 0 ∨ (fitsR (L[j]).l).2 = 8) := by
              rcases fitsR_code (L[j]).l with e | e | e
              · exact Or.inl e
              · exact absurd e (hno2.out _ (List.getElem_mem h1))
              · exact Or.inr e
            clear hG8
            generalize L[j] = x at *
            have hrf := rfits_any wr x.o x.n x.c x.l ak (by omega)
            generalize (fitsR x.l).2 = er at *
            go_wp2_with fail
            refine hrf.mono ?_
            rintro e w2 ⟨rfl, hg3⟩
            have hG := grown_trans hg2 hg3 (by simp)
            clear a1 ak hg3 hrf
            rcases hcode.out with rfl | rfl
            · go_wp2
              go_roundw
              case rel => exact ⟨j + 1, by omega, by go_num, by show _ = _; rw [h8.out]; simp, hG⟩
              case measure => simp [intOf]; omega
            · go_wp2
              go_ret
              exact ⟨ret_int (by rw [hN.out (by simp)]), hG⟩
          · obtain rfl : j = i := by omega
            have hd3 : decide ((j : Int) < (j : Int)) = false := by simp
            have HE : Hid (lref L = 0) := by
              have e2 := hG8.out
              rw [List.take_of_length_le (by omega)] at e2
              show _ = _
              rw [HF.out, if_neg h256, e2]
              rfl
            go_wp2
            go_ret
            exact ⟨ret_int (by rw [HE.out]), hg2⟩

set_option maxRecDepth 100000 in
set_option maxHeartbeats 2000000 in
theorem rtogether_any (w : World) (ao : Option Addr) (n cap : Nat) (L : List Rl) (ha : Ls w ao n cap L) (hn4 : n ≤ 4096) (hN : (flat L).length ≤ 100000) :
    Calls Try.prog 17 #[.slice ao n cap] w fun e w' => ∃ ro rc, e = .returned (.slice ro (flat L).length rc) ∧ Rw w' w.heap.size ro (flat L).length rc (flat L) ∧ w.grownBy w' none := by
  have hlen := ha.len
  have hNi : ∀ i, (flat (L.take i)).length ≤ 100000 := fun i => by
    have h9 := flat_append (L.take i) (L.drop i)
    rw [List.take_append_drop] at h9
    rw [h9, List.length_append] at hN
    omega
  go_enter Try.func17, Try.ntmps17
  go_wp2_with fail
  go_loopw [3, 4] (fun r' j' wr => ∃ (j m : Nat) (ro : Option Addr) (rc : Nat), j ≤ n ∧ j' = .int .i64 j ∧ r' = .slice ro m rc ∧ Hid ((flat (L.take j)).length = m) ∧ Rw wr w.heap.size ro m rc (flat (L.take j)) ∧ w.grownBy wr none) (fun _ j' _ => n - (intOf j').toNat)
  case atStart => exact ⟨0, 0, none, 0, Nat.zero_le _, rfl, rfl, (by simp [flat] : _ = _), by simpa [flat] using Rw.nil _ _, grown_refl _ _⟩
  case round =>
    obtain ⟨j, m, ro2, rc2, hj, rfl, rfl, hm, hR2, hg2⟩ := hrel
    by_cases hlt2 : j < n
    · have h1 : j < L.length := by omega
      obtain ⟨b, o, rfl, hbl⟩ := ha.vs.addr (by omega)
      obtain ⟨a1, ak⟩ := (ha.grown hg2).at h1
      have hd3 : decide ((j : Int) < (n : Int)) = true := by simp; omega
      have hfs : Hid (flat (L.take (j + 1)) = flat (L.take j) ++ (L[j]).l) := flat_succ h1
      have hb1 := hNi (j + 1)
      have hS : Hid ((flat (L.take (j + 1))).length = m + (L[j]).n) := by show _ = _; rw [flat_succ h1, List.length_append, ak.len, hm.out]
      rw [hS.out] at hb1
      generalize L[j] = x at *
      go_wp2_with (at_builtin; refine wpList_append_recs _ rfl _ _ rfl w.heap.size rfl hR2 rfl ak hb1 hg2.size ?_)
      intro ro3 rc3 w3 hR3 hg3
      have hG3 : w.grownBy w3 none := grown_trans hg2 hg3 (fun k hk => Or.inr (hR2.from_base k hk).1)
      go_wp2
      go_roundw
      case rel => exact ⟨j + 1, m + x.n, ro3, rc3, by omega, by go_num, rfl, hS, by rw [hfs.out]; exact hR3, hG3⟩
      case measure => simp [intOf]; omega
    · obtain rfl : j = n := by omega
      have hd3 : decide ((j : Int) < (j : Int)) = false := by simp
      have hF : L.take j = L := List.take_of_length_le (by omega)
      rw [hF] at hR2 hm
      go_wp2
      go_ret
      exact ⟨_, _, by rw [hm.out]; rfl, by rw [hm.out]; exact hR2, hg2⟩
end Go.Proofs.Ytkcgpjmjaedlbaa
