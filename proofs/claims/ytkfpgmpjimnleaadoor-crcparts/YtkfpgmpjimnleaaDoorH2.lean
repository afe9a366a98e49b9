/-
  CrcHashes: the walk.
-/
import Derived.Test.YtkfpgmpjimnleaaDoorH1
import Derived.Test.YtkfpgmpjimnleaaDoorC4
namespace Go.Proofs.YtkfpgmpjimnleaaDoor
open Go.RowKit
set_option linter.unusedVariables false

/-- A script that came in: kinds, and bytes. -/
structure Sk (w : World) (so : Option Addr) (m cp : Nat) (qs : List (Int × List UInt8)) : Prop where
  len : qs.length = m
  room : m ≤ cp
  nil : so = none → cp = 0
  cells : ∀ a, so = some a → ∀ j q, qs[j]? = some q → w.cell? (a.add (j * 2)) = some (.int .i64 q.1) ∧ ∃ ao n cap, w.cell? (a.add (j * 2 + 1)) = some (.slice ao n cap) ∧ Bs w ao n cap q.2

theorem Sk.grown {w w' : World} {so : Option Addr} {m cp : Nat} {qs : List (Int × List UInt8)} (h : Sk w so m cp qs) (hg : w.grownBy w' none) : Sk w' so m cp qs :=
  ⟨h.len, h.room, h.nil, fun a ha j q hq => by
    obtain ⟨h1, ao, n, cap, h2, h3⟩ := h.cells a ha j q hq
    exact ⟨hg.cell h1 (by simp), ao, n, cap, hg.cell h2 (by simp), h3.grown hg⟩⟩

theorem Sk.addr {w : World} {so : Option Addr} {m cp : Nat} {qs : List (Int × List UInt8)} (h : Sk w so m cp qs) (hn : 0 < m) : ∃ b o, so = some ⟨b, o, none⟩ ∧ b < w.heap.size := by
  cases so with
  | none => have := h.nil rfl; have := h.room; omega
  | some a =>
    have hl : 0 < qs.length := by rw [h.len]; exact hn
    obtain ⟨h0, _⟩ := h.cells a rfl 0 qs[0] (by simp [hl])
    have h1 : a.add (0 * 2) = a := by simp [Addr.add]
    rw [h1] at h0
    have h2 := World.block_lt_of_cell? w a h0
    obtain ⟨b, o, sp⟩ := a
    cases sp with
    | none => exact ⟨b, o, rfl, h2⟩
    | some q => simp only [World.cell?, Option.isSome_some, if_true] at h0; split at h0 <;> cases h0

theorem Sk.at {w : World} {b o m cp : Nat} {qs : List (Int × List UInt8)} (h : Sk w (some ⟨b, o, none⟩) m cp qs) {j : Nat} (hj : j < qs.length) : w.cell? ⟨b, o + j * 2, none⟩ = some (.int .i64 qs[j].1) ∧ ∃ ao n cap, w.cell? ⟨b, o + j * 2 + 1, none⟩ = some (.slice ao n cap) ∧ Bs w ao n cap qs[j].2 := by
  have := h.cells _ rfl j qs[j] (by simp [hj])
  rw [Addr.add_lit, Addr.add_lit, ← Nat.add_assoc] at this
  exact this

/-- How many bytes the first k have. -/
def tot (qs : List (Int × List UInt8)) (k : Nat) : Nat := ((qs.take k).map fun q => q.2.length).sum
theorem tot_succ {qs : List (Int × List UInt8)} {k : Nat} (hk : k < qs.length) : tot qs (k + 1) = tot qs k + qs[k].2.length := by
  unfold tot
  rw [List.take_succ_eq_append_getElem hk, List.map_append, List.sum_append]
  simp
theorem tot_zero (qs : List (Int × List UInt8)) : tot qs 0 = 0 := by simp [tot]
theorem tot_mono (qs : List (Int × List UInt8)) {k : Nat} (hk : k < qs.length) : tot qs k ≤ tot qs (k + 1) := by rw [tot_succ hk]; omega

theorem Pc.two_nil (w : World) (ao : Option Addr) (n cap : Nat) (l : List UInt8) (hb : Bs w ao n cap l) (e : TypeId) : Pc (w.alloc (.cells #[.slice ao n cap, .slice none 0 0] e)) (some ⟨w.heap.size, 0, none⟩) 2 2 [l, []] := by
  refine ⟨rfl, Nat.le_refl _, by decide, (by simp), fun a ha j u hu => ?_⟩
  obtain rfl := Option.some.inj ha
  match j, hu with
  | 0, hu =>
    simp at hu
    subst hu
    exact ⟨ao, n, cap, by simp [Addr.add], hb.grown (alloc_grown _ _)⟩
  | 1, hu =>
    simp at hu
    subst hu
    exact ⟨none, 0, 0, by simp [Addr.add], Bs.empty _⟩

theorem Bs.one_fr (w : World) (v : Value) (b : UInt8) (e : TypeId) (fr : Nat × Nat) (h : v = bv b) : Bs (w.alloc (.cells #[v] e fr)) (some ⟨w.heap.size, 0, none⟩) 1 1 [b] := by
  subst h
  refine ⟨rfl, Nat.le_refl _, by decide, (by simp), fun a ha j u hu => ?_⟩
  obtain rfl := Option.some.inj ha
  rw [Addr.add_lit, Nat.zero_add, World.cell?_alloc_mark]
  match j, hu with
  | 0, hu => simpa using hu

theorem sm_nil : sm [] = 0 := by decide

set_option maxRecDepth 100000 in
set_option maxHeartbeats 1000000 in
theorem crcHashes_many (w : World) (so : Option Addr) (m cp : Nat) (zero : Bool) (hD : Dt w) (hm : 40 < m) :
    Calls Tryd.prog 6 #[.slice so m cp, .bool zero] w fun e w' => e = .returned (.bool true) ∧ w.grownBy w' none := by
  go_enter Tryd.func6, Tryd.ntmps6
  go_wp2_with fail
  refine (works_any _ hD).mono ?_
  rintro e w1 ⟨rfl, hg1⟩
  go_wp2
  go_ret
  exact ⟨rfl, hg1⟩

set_option maxRecDepth 100000 in
set_option maxHeartbeats 4000000 in
theorem crcHashes_new (w : World) (so : Option Addr) (m cp : Nat) (qs : List (Int × List UInt8)) (hD : Dt w) (hq : Sk w so m cp qs) (hm : m ≤ 40) :
    Calls Tryd.prog 6 #[.slice so m cp, .bool false] w fun e w' => e = .returned (.bool true) ∧ w.grownBy w' none := by
  have hlen := hq.len
  have kc := fun (w : World) (C : Array Value) (n c : Nat) => Lib.run_convert_bytes_const (P := Tryd.prog) w 26 5 C n c Tryd.underlying26 Tryd.underlying5
  go_enter Tryd.func6, Tryd.ntmps6
  go_wp2_with fail
  go_loop [5, 6] (fun n i => ∃ k : Nat, k ≤ m ∧ i = .int .i64 k ∧ n = .int .i64 (tot qs k) ∧ tot qs k ≤ k * 20000) (fun _ i => m - (intOf i).toNat)
  case atStart => exact ⟨0, Nat.zero_le _, rfl, by rw [tot_zero]; rfl, by rw [tot_zero]; omega⟩
  case round =>
    obtain ⟨k, hk, rfl, rfl, htk⟩ := hrel
    by_cases hlt : k < m
    · have hkl : k < qs.length := by omega
      obtain ⟨b, o, rfl, hbl⟩ := hq.addr (by omega)
      obtain ⟨q1, ao, n, cap, q2, q3⟩ := hq.at hkl
      have hts := tot_succ hkl
      rw [q3.len] at hts
      have hts' : Hid (tot qs (k + 1) = tot qs k + n) := hts
      clear hts
      by_cases hbig : 20000 < n
      · go_wp2_with fail
        refine (works_any _ hD).mono ?_
        rintro e w1 ⟨rfl, hg1⟩
        go_wp2
        go_ret
        exact ⟨rfl, hg1⟩
      · generalize tot qs k = T at *
        go_wp2
        go_round
        case rel => exact ⟨k + 1, by omega, by go_num, by rw [hts'.out]; go_num, by rw [hts'.out]; omega⟩
        case measure => simp [intOf]; omega
    · have hkm : k = m := by omega
      have hd : decide ((k : Int) < (m : Int)) = false := by simp; omega
      rw [hkm] at htk
      have hT0 : Hid (tot qs k = tot qs m) := by show _ = _; rw [hkm]
      obtain ⟨T, hT⟩ : ∃ T, T = tot qs k := ⟨_, rfl⟩
      rw [← hT]
      have hTm : Hid (T = tot qs m) := by show _ = _; rw [hT, hT0.out]
      have hTle : T ≤ 800000 := by rw [hTm.out]; omega
      clear hT hT0
      go_wp2_with fail
      refine (hnew_any _).mono ?_
      rintro e w1 ⟨rfl, h1, hg1⟩
      have h2 := h1
      have hg2 := hg1
      obtain ⟨g0, hg0⟩ : ∃ g0, g0 = w.heap.size := ⟨_, rfl⟩
      have hgw : w.heap.size ≤ g0 := by rw [hg0]; exact Nat.le_refl _
      have HG0 : Hid (g0 = w.heap.size) := hg0
      by_cases hmany : 20000 < T
      · go_wp2_with fail
        refine (works_any _ (hD.grown hg2)).mono ?_
        rintro e w3 ⟨rfl, hg3⟩
        go_wp2
        go_ret
        exact ⟨rfl, grown_trans hg2 hg3 (by simp)⟩
      · have hd2 : decide ((20000 : Int) < (T : Int)) = false := by simp; omega
        go_wp2_with fail
        go_loopw [7, 8, 9, 10] (fun h b i _ wr => ∃ (k gh : Nat) (ao : Option Addr) (n cp' : Nat) (bb : List UInt8), k ≤ m ∧ i = .int .i64 k ∧ h = .pointer (some ⟨gh, 0, none⟩) ∧ w.heap.size ≤ gh ∧ Hs wr gh (sm bb) n ∧ b = .slice ao n cp' ∧ Ow wr w.heap.size 5 ao n cp' bb ∧ n ≤ tot qs k ∧ w.grownBy wr none)
          (fun _ _ i _ _ => m - (intOf i).toNat)
        case atStart => exact ⟨0, _, none, 0, 0, [], Nat.zero_le _, rfl, rfl, Nat.le_refl _, by rw [sm_nil]; exact h2, rfl, Ow.nil _ _ _, Nat.zero_le _, hg2⟩
        case round =>
          rename_i wr
          obtain ⟨k, gh, ao, n, cp', bb, hk, rfl, rfl, hgh, hh, rfl, ho, hn, hg⟩ := hrel
          by_cases hlt : k < m
          · have hkl : k < qs.length := by omega
            have hqr := hq.grown hg
            obtain ⟨b, o, rfl, hbl⟩ := hq.addr (by omega)
            obtain ⟨q1, xo, xn, xc, q2, q3⟩ := hqr.at hkl
            obtain ⟨_, xo', xn', xc', q2', q3'⟩ := hq.at hkl
            have hsame := (hg.cell q2' (by simp)).symm.trans q2
            simp only [Option.some.injEq, Value.slice.injEq] at hsame
            obtain ⟨rfl, rfl, rfl⟩ := hsame
            have hts := tot_succ hkl
            rw [q3.len] at hts
            have hts' : Hid (tot qs (k + 1) = tot qs k + xn') := hts
            have hmono : tot qs k ≤ tot qs (k + 1) := by rw [hts]; omega
            have hnk : n ≤ tot qs (k + 1) := by omega
            have htm : tot qs (k + 1) ≤ 20000 := by
              have h9 : ∀ j, k + 1 ≤ j → j ≤ qs.length → tot qs (k + 1) ≤ tot qs j := by
                intro j hj
                induction j with
                | zero => omega
                | succ j ih =>
                  intro hj2
                  by_cases e : k + 1 = j + 1
                  · rw [e]; exact Nat.le_refl _
                  · exact Nat.le_trans (ih (by omega) (by omega)) (tot_mono qs (by omega))
              have h8 := h9 m (by omega) (by omega)
              rw [← hTm.out] at h8
              omega
            have hxn : n + xn' ≤ tot qs (k + 1) := by rw [hts]; omega
            have hcl : bb.length = n := ho.len
            have hgl := hh.lt
            have hap := hh.apart ho
            clear hts hqr q2'
            generalize qs[k].1 = K at *
            generalize qs[k].2 = l at *
            by_cases hK0 : K = 0
            · subst hK0
              have hpc := Pc.two_nil wr xo' xn' xc' l q3 26
              have hga := alloc_grown wr (.cells #[.slice xo' xn' xc', .slice none 0 0] 26)
              go_wp2_with fail
              refine (hwrite_any _ gh (sm bb) n (hh.grown hga) (sm_lt bb) wr.heap.size 0 2 2 [l, []] hpc (by omega) (by rw [show [l, []].flatten = l from by simp, q3.len]; omega)).mono ?_
              rw [show [l, []].flatten = l from by simp, show mor (sm bb) l = sm (bb ++ l) from (mor_append 0 bb l).symm, q3.len]
              rintro e w2 ⟨rfl, hh2, hg2⟩
              have hG2 : w.grownBy w2 none := below_of_new (grown_trans hg hga (by simp)) hg2 hgh
              have ho2 := (ho.grown hga).kept hg2 (Or.inr (fun e => hap e.symm))
              have hx2 := q3'.grown hG2
              have hap2 := hh2.apart ho2
              have hb2 := hG2.size
              have r2 : w2.cell? ⟨b, o + k * 2 + 1, none⟩ = some (.slice xo' xn' xc') := hg2.cell (hga.cell q2 (by simp)) (by simp; omega)
              clear hpc hga hg2 ho hh hg hap
              go_wp2_with (first
                | (go_at_call 28; refine (num_any _ _).mono ?_; rintro e w' ⟨rfl, hw'⟩; subst hw')
                | (at_builtin; refine wpList_append_bs _ rfl _ _ 26 rfl w.heap.size 5 Tryd.underlying26 info5 rfl ho2 rfl hx2 (by omega) hb2 ?_; intro ao3 cap3 w3 ho3 hg3))
              have hh3 := hh2.kept hg3 hap2
              have hG3 : w.grownBy w3 none := grown_trans hG2 hg3 (fun k hk => Or.inr (ho2.from_base k hk).1)
              clear hh2 hg3 ho2 hx2 hap2 r2 hG2
              go_wp2_with fail
              refine (hsum_any _ gh (sm (bb ++ l)) ((n + xn')) hh3).mono ?_
              rintro e w8 ⟨rfl, hw8⟩
              subst hw8
              go_wp2_with fail
              refine (rsum_any _ _ _ _ (bb ++ l) ho3.shows).mono ?_
              rintro e w8 ⟨rfl, hw8⟩
              subst hw8
              go_wp2_with fail
              refine (hlen_any _ gh (sm (bb ++ l)) ((n + xn')) hh3).mono ?_
              rintro e w8 ⟨rfl, hw8⟩
              subst hw8
              go_wp2
              go_roundw
              case rel => exact ⟨k + 1, gh, _, (n + xn'), _, (bb ++ l), by omega, by go_num, rfl, by omega, hh3, rfl, ho3, by omega, hG3⟩
              case measure => simp [intOf]; omega
            · by_cases hK1 : K = 1
              · subst hK1
                go_wp2_with fail
                refine (hreset_any _ gh (sm bb) n hh).mono ?_
                rintro e w2 ⟨rfl, hh2, hg2⟩
                have hG2 : w.grownBy w2 none := below_of_new hg hg2 hgh
                have ho2 := Ow.nil w2 w.heap.size 5
                have hh3 : Hs w2 gh (sm []) 0 := by rw [sm_nil]; exact hh2
                clear hg2 ho hh hg hap hh2
                go_wp2_with (go_at_call 28; refine (num_any _ _).mono ?_; rintro e w' ⟨rfl, hw'⟩; subst hw')
                refine (hsum_any _ gh (sm []) (0) hh3).mono ?_
                rintro e w8 ⟨rfl, hw8⟩
                subst hw8
                go_wp2_with fail
                refine (rsum_any _ _ _ _ [] ho2.shows).mono ?_
                rintro e w8 ⟨rfl, hw8⟩
                subst hw8
                go_wp2_with fail
                refine (hlen_any _ gh (sm []) (0) hh3).mono ?_
                rintro e w8 ⟨rfl, hw8⟩
                subst hw8
                go_wp2
                go_roundw
                case rel => exact ⟨k + 1, gh, _, 0, _, [], by omega, by go_num, rfl, by omega, hh3, rfl, ho2, by omega, hG2⟩
                case measure => simp [intOf]; omega
              · by_cases hK2 : K = 2
                · subst hK2
                  go_wp2_with fail
                  refine (hcopy_any _ gh (sm bb) n hh).mono ?_
                  rintro e w2 ⟨rfl, hh2, hg2⟩
                  have hho := hh.grown hg2
                  have ho2 := ho.grown hg2
                  have hG2 := grown_trans hg hg2 (by simp)
                  have hwl := hh2.lt
                  clear hg ho hh
                  go_wp2_with fail
                  refine (hwrite_any _ gh (sm bb) n ((hho.grown (alloc_grown _ _)).grown (alloc_grown _ _)) (sm_lt bb) (w2.heap.size + 1) 0 1 1 [[120]] (Pc.one_at _ _ (by simp) _ _ _ _ (Bs.one_fr w2 (.int .u8 120) 120 5 _ rfl) 26) (by omega) (by simp; omega)).mono ?_
                  rintro e w3 ⟨rfl, _, hg3⟩
                  have hh3 := ((hh2.grown (alloc_grown _ _)).grown (alloc_grown _ _)).kept hg3 (by simp; omega)
                  have ho3 := ((ho2.grown (alloc_grown _ _)).grown (alloc_grown _ _)).kept hg3 (Or.inr (fun e => hap e.symm))
                  have hG3 : w.grownBy w3 none := below_of_new (grown_trans (grown_trans hG2 (alloc_grown w2 _) (by simp)) (alloc_grown _ _) (by simp)) hg3 hgh
                  have hgw2 : w.heap.size ≤ wr.heap.size := by omega
                  clear hg3 hho ho2 hG2 hh2
                  go_wp2_with (go_at_call 28; refine (num_any _ _).mono ?_; rintro e w' ⟨rfl, hw'⟩; subst hw')
                  refine (hsum_any _ wr.heap.size (sm bb) (n) hh3).mono ?_
                  rintro e w8 ⟨rfl, hw8⟩
                  subst hw8
                  go_wp2_with fail
                  refine (rsum_any _ _ _ _ bb ho3.shows).mono ?_
                  rintro e w8 ⟨rfl, hw8⟩
                  subst hw8
                  go_wp2_with fail
                  refine (hlen_any _ wr.heap.size (sm bb) (n) hh3).mono ?_
                  rintro e w8 ⟨rfl, hw8⟩
                  subst hw8
                  go_wp2
                  go_roundw
                  case rel => exact ⟨k + 1, wr.heap.size, _, n, _, bb, by omega, by go_num, rfl, by omega, hh3, rfl, ho3, by omega, hG3⟩
                  case measure => simp [intOf]; omega
                · have hk0 : ((K : Int) == 0) = false := by simp; omega
                  have hk1 : ((K : Int) == 1) = false := by simp; omega
                  have hk2 : ((K : Int) == 2) = false := by simp; omega
                  go_wp2_with fail
                  refine (hsum_any _ gh (sm bb) (n) hh).mono ?_
                  rintro e w8 ⟨rfl, hw8⟩
                  subst hw8
                  go_wp2_with fail
                  refine (rsum_any _ _ _ _ bb ho.shows).mono ?_
                  rintro e w8 ⟨rfl, hw8⟩
                  subst hw8
                  go_wp2_with fail
                  refine (hlen_any _ gh (sm bb) (n) hh).mono ?_
                  rintro e w8 ⟨rfl, hw8⟩
                  subst hw8
                  go_wp2
                  go_roundw
                  case rel => exact ⟨k + 1, gh, _, n, _, bb, by omega, by go_num, rfl, by omega, hh, rfl, ho, by omega, hg⟩
                  case measure => simp [intOf]; omega
          · have hd3 : decide ((k : Int) < (m : Int)) = false := by simp; omega
            go_wp2_with (first
              | (go_at_call 30; refine (hwrite_nil _ _).mono ?_; rintro e w' ⟨rfl, hw'⟩; subst hw')
              | (go_at_call 28; refine (num_any _ _).mono ?_; rintro e w' ⟨rfl, hw'⟩; subst hw')
              | (go_at_call 33; refine (hsum_nil _).mono ?_; rintro e w' ⟨rfl, hw'⟩; subst hw')
              | (go_at_call 34; refine (hlen_nil _).mono ?_; rintro e w' ⟨rfl, hw'⟩; subst hw')
              | (go_at_call 31; refine (hreset_nil _).mono ?_; rintro e w' ⟨rfl, hw'⟩; subst hw')
              | (go_at_call 32; refine (hcopy_nil _).mono ?_; rintro e w' ⟨rfl, hw'⟩; subst hw'))
            refine (works_any _ (hD.grown hg)).mono ?_
            rintro e w9 ⟨rfl, hg9⟩
            go_wp2
            go_ret
            exact ⟨rfl, grown_trans hg hg9 (by simp)⟩

end Go.Proofs.YtkfpgmpjimnleaaDoor
