/-
  CrcSums: the walk.
-/
import Derived.Test.YtkfpgmpjimnleaaDoorS1
namespace Go.Proofs.YtkfpgmpjimnleaaDoor
open Go.RowKit
set_option linter.unusedVariables false

set_option maxRecDepth 100000 in
set_option maxHeartbeats 2000000 in
theorem crcSums_walk (w : World) (po : Option Addr) (m c s : Nat) (L : List (List UInt8)) (hb : Pc w po m c L) (hs : s < 4294967296) (hD : Dt w) :
    Calls Tryd.prog 3 #[.slice po m c, .int .u32 s] w fun e w' => e = .returned (.bool true) ∧ w.grownBy w' none := by
  obtain ⟨Z, hZ, hz⟩ := zero_table
  go_enter Tryd.func3, Tryd.ntmps3
  go_wp2_with fail
  refine (long_any _ _ m c L hb).mono ?_
  rintro e w1 ⟨hlo, hw1⟩
  subst hw1
  rcases hlo with rfl | ⟨rfl, hm, hfl⟩
  · go_wp2_with fail
    refine (works_any _ hD).mono ?_
    rintro e w2 ⟨rfl, hg2⟩
    go_wp2
    go_ret
    exact ⟨rfl, hg2⟩
  · obtain ⟨bb, hbb⟩ : ∃ bb : List UInt8, bb = L.flatten := ⟨_, rfl⟩
    have hsum : ∀ w', Pc w' po m c L → Calls Tryd.prog 12 #[.slice po m c] w' fun e w'' => e = .returned (.int .u32 (sm bb)) ∧ w'.grownBy w'' none := by
      intro w' h
      rw [hbb]
      exact sum_any w' po m c L h
    have htog : ∀ w', Pc w' po m c L → Calls Tryd.prog 11 #[.slice po m c] w' fun e w'' => ∃ ao n cap, e = .returned (.slice ao n cap) ∧ Ow w'' w'.heap.size 5 ao n cap bb ∧ w'.grownBy w'' none := by
      intro w' h
      rw [hbb]
      exact together_any w' po m c L h (by omega)
    rw [← hbb] at hfl
    clear hbb
    go_wp2_with fail
    refine (htog _ hb).mono ?_
    rintro e w2 ⟨ao, n, cap, rfl, ho2, hg2⟩
    have hnl : bb.length = n := ho2.len
    have hz0 := Ow.empty w2 w2.heap.size 5 (Nat.le_refl _)
    have hb2 := ho2.shows.grown (alloc_grown w2 (.cells #[] 5))
    go_wp2_with (at_builtin; refine wpList_append_bs _ rfl _ _ 26 rfl w2.heap.size 5 Tryd.underlying26 info5 rfl hz0 rfl hb2 (by omega) (by simp) ?_)
    intro ao3 cap3 w3 ho3 hg3
    have hG3 : w1.grownBy w3 none := below_of_new (grown_trans hg2 (alloc_grown w2 _) (by simp)) hg3 hg2.size
    have hg23 : w2.grownBy w3 none := below_of_new (alloc_grown w2 _) hg3 (Nat.le_refl _)
    have hbs3 := Bs.one w3 (.int .u8 165) 165 5 rfl
    have hs3 : w2.heap.size ≤ w3.heap.size := hg23.size
    clear hz0 hb2 hg3
    go_wp2_with (at_builtin; refine wpList_append_bs _ rfl _ _ 26 rfl w2.heap.size 5 Tryd.underlying26 info5 rfl (ho3.grown (alloc_grown w3 _)) rfl hbs3 (by omega) (by simp; omega) ?_)
    intro ao4 cap4 w4 ho4 hg4
    have hg24 : w2.grownBy w4 none := grown_trans (grown_trans hg23 (alloc_grown w3 (.cells #[.int .u8 165] 5)) (by simp)) hg4 (fun k hk => Or.inr (ho3.from_base k hk).1)
    have hG4 := grown_trans hg2 hg24 (by simp)
    obtain ⟨g4, rfl, hgb4, hgl4⟩ := ho4.addr (by omega)
    have hM := ho4.shows
    have hrm := hM.room
    have hmm := hM.take n (by omega)
    rw [List.take_left' hnl] at hmm
    have hj : n < (bb ++ [165]).length := by simp [hnl]
    have hc4 : w4.cell? ⟨g4, n, none⟩ = some (.int .u8 165) := by
      have h9 := hM.at hj
      rw [Nat.zero_add] at h9
      rw [h9]
      congr 2
      simp [← hnl]
    have hB4 := ho2.shows.grown hg24
    clear hbs3 hg4 ho3 hg23 hG3 ho4 hM
    go_wp2_with fail
    refine (hsum _ (hb.grown hG4)).mono ?_
    rintro e w5 ⟨rfl, hg5⟩
    have hG5 := grown_trans hG4 hg5 (by simp)
    have hm5 := hmm.grown hg5
    have hc5 : w5.cell? ⟨g4, n, none⟩ = some (.int .u8 165) := hg5.cell hc4 (by simp)
    have hB5 := hB4.grown hg5
    clear hG4 hg5 hmm hc4 hB4 hsum htog
    go_wp2_with fail
    refine (rsum_any _ _ _ _ bb hB5).mono ?_
    rintro e w5 ⟨rfl, hw5⟩
    subst hw5
    go_wp2_with fail
    refine (sum_any _ _ _ _ [bb] (Pc.one _ _ _ _ _ hm5 26)).mono ?_
    rw [show [bb].flatten = bb from by simp]
    rintro e w6 ⟨rfl, hg6⟩
    have hg6' := grown_trans (alloc_grown w5 _) hg6 (by simp)
    have hG6 := grown_trans hG5 hg6' (by simp)
    have hm6 := hm5.grown hg6'
    have hc6 : w6.cell? ⟨g4, n, none⟩ = some (.int .u8 165) := hg6'.cell hc5 (by simp)
    have hB6 := hB5.grown hg6'
    clear hG5 hg6 hm5 hc5 hB5 hg6'
    go_wp2_with fail
    refine (rsum_any _ _ _ _ bb hB6).mono ?_
    rintro e w6 ⟨rfl, hw6⟩
    subst hw6
    go_wp2_with fail
    refine (more_any _ s hs _ _ _ bb hm6).mono ?_
    rintro e w7 ⟨rfl, hg7⟩
    have hG7 := grown_trans hG6 hg7 (by simp)
    have hm7 := hm6.grown hg7
    have hc7 : w7.cell? ⟨g4, n, none⟩ = some (.int .u8 165) := hg7.cell hc6 (by simp)
    have hB7 := hB6.grown hg7
    clear hG6 hg7 hm6 hc6 hB6
    have hcv1 := run_string_bs (P := Tryd.prog) w7 26 9 5 Tryd.underlying26 Tryd.underlying5 Tryd.underlying9 hm7
    have hcv2 := run_string_bs (P := Tryd.prog) w7 26 9 5 Tryd.underlying26 Tryd.underlying5 Tryd.underlying9 hB7
    have hi1 : (n : Int) + 1 ≤ (cap4 : Int) := by omega
    go_wp2_with (go_at_call 15; refine (rmore_any _ s hs _ _ _ bb hB7).mono ?_; rintro e w7 ⟨rfl, hw7⟩; subst hw7)
    refine (table_any _).mono ?_
    rintro e w9 ⟨rfl, hg9⟩
    have hG9 := grown_trans hG7 hg9 (by simp)
    clear hg9 hG7 hm7 hc7 hB7 hcv1 hcv2
    go_wp2_with (refine wpList_store_tab rfl 32 (.tmp 7) (.tmp 63) rfl w9.heap.size (stps 8) 256 rfl rfl 32 (Tb.new w9 Z 32 256 (stps 8) hZ) info32 ?_; intro w10 hT10 hg10)
    have hG10 : w1.grownBy w10 none := below_of_new (grown_trans hG9 (alloc_grown w9 _) (by simp)) hg10 hG9.size
    clear hg10 hG9
    go_loopw [8] (fun i wr => ∃ k : Nat, k ≤ 256 ∧ i = .int .i64 k ∧ Tb wr w9.heap.size 32 256 256 (stps 8) ∧ w1.grownBy wr none) (fun i _ => 256 - (intOf i).toNat)
    case atStart => exact ⟨0, Nat.zero_le _, rfl, hT10, hG10⟩
    case round =>
      obtain ⟨k, hk, rfl, hT, hg⟩ := hrel
      by_cases hlt : k < 256
      · have hcell := hT.cell k hlt
        have hkw : IntKind.u32.wrap (k : Int) = (k : Int) := by rw [IntKind.wrap_u32']; omega
        have hd : decide ((k : Int) < 256) = true := by simp; omega
        go_wp2_with fail
        go_quiet ((go_at_call 17; exact Calls.quiet_of_same (eight_any _ _ (by omega))))
        have hgq := grown_trans hg (grown_drewN wr nq none) (by simp)
        have hTq := hT.grown (grown_drewN wr nq none)
        clear hcell
        generalize wr.drewN nq = wq at *
        go_wp2
        go_roundw
        case rel => exact ⟨k + 1, by omega, by go_num, hTq, hgq⟩
        case measure => simp [intOf]; omega
      · go_wp2_with fail
        refine (works_any _ (hD.grown hg)).mono ?_
        rintro e w11 ⟨rfl, hg11⟩
        go_wp2
        go_ret
        exact ⟨rfl, grown_trans hg hg11 (by simp)⟩

end Go.Proofs.YtkfpgmpjimnleaaDoor
