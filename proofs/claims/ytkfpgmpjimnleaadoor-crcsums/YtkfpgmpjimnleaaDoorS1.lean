/-
  The table; and what CrcSums makes of lists of bytes: the walks.
-/
import Derived.Test.YtkfpgmpjimnleaaDoorC8
import Derived.Test.YtkfpgmpjimnleaaDoorC4
import Derived.Test.YtkfpgmpjimnleaaDoorH1
import Derived.Deep.WholeRow
namespace Go.Proofs.YtkfpgmpjimnleaaDoor
open Go.RowKit
set_option linter.unusedVariables false

theorem info32 : (Tryd.prog.info? 32).map (·.size) = some 256 := by kernel_rfl
theorem zero32 : (Tryd.prog.info? 32).map (fun i => (i.zero, i.size)) = some (some (.agg (Array.replicate 256 (.int .u32 0))), 256) := by kernel_rfl

theorem zero_table : ∃ Z : Array Value, Z.size = 256 ∧ ∀ w, (zeroValue 32).run Tryd.prog w = .ok (.agg Z) w :=
  ⟨_, by simp, (zero_of_info zero32).1⟩

set_option maxRecDepth 100000 in
set_option maxHeartbeats 1000000 in
theorem table_any (w : World) :
    Calls Tryd.prog 16 #[] w fun e w' => e = .returned (.agg (tab (stps 8) 256)) ∧ w.grownBy w' none := by
  obtain ⟨Z, hZ, hz⟩ := zero_table
  go_enter Tryd.func16, Tryd.ntmps16
  go_wp2_with (first
    | (go_at_call 37; refine (fours_any _).mono ?_; rintro e w1 ⟨rfl, hg1⟩)
    | (refine wpList_store_tab rfl 64 (.tmp 1) (.tmp 4) rfl w1.heap.size (stps 4) 16 rfl rfl 64 (Tb.new w1 _ 64 16 (stps 4) rfl) info64 ?_; intro w2 hT2 hG2))
  have hz1 : w.heap.size < w1.heap.size := by have := hg1.size; simp at this; omega
  have hz2 : w1.heap.size < w2.heap.size := hT2.lt
  have hGa : w.grownBy w2 none := below_of_new (grown_trans (grown_trans (alloc_grown w _) hg1 (by simp)) (alloc_grown w1 _) (by simp)) hG2 (by omega)
  have h0 : Tb w2 w.heap.size 32 256 0 (stps 8) := (((Tb.new w Z 32 256 _ hZ).grown hg1).grown (alloc_grown _ _)).kept hG2 (by simp; omega)
  clear hG2 hg1
  go_loopw [3, 5] (fun _ i wr => ∃ (k : Nat), k ≤ 256 ∧ i = .int .i64 k ∧ Tb wr w2.heap.size 32 256 k (stps 8) ∧ Tb wr w.heap.size 32 256 0 (stps 8) ∧ Tb wr w1.heap.size 64 16 16 (stps 4) ∧ w.grownBy wr none)
    (fun _ i _ => 256 - (intOf i).toNat)
  case atStart => exact ⟨0, Nat.zero_le _, rfl, Tb.new w2 Z 32 256 _ hZ, h0.grown (alloc_grown _ _), hT2.grown (alloc_grown _ _), grown_trans hGa (alloc_grown _ _) (by simp)⟩
  case round =>
    obtain ⟨k, hk, rfl, ht, h0, h4, hg⟩ := hrel
    by_cases hlt : k < 256
    · have hkw : IntKind.u32.wrap (k : Int) = (k : Int) := by rw [IntKind.wrap_u32']; omega
      have hpl : k < 4294967296 := by omega
      have hpl4 : stps 4 k < 4294967296 := stps_lt 4 hpl
      obtain ⟨v, hv⟩ := ht.any k hlt
      have hfz := ht.there
      have hset := ht.set hlt (x := (stps 4 (stps 4 k) : Nat)) (by rw [← stps_add])
      go_wp2_with (go_at_call 38; refine (fourSteps_any _ _ _ (by first | exact hpl | exact hpl4) h4).mono ?_; rintro e w' ⟨rfl, rfl⟩)
      go_roundw
      case rel => exact ⟨k + 1, by omega, by go_num, hset, h0.kept (setCell_grown _ _ _ _) (by simp; omega), h4.kept (setCell_grown _ _ _ _) (by simp; omega), below_of_new hg (setCell_grown _ _ _ _) (by omega)⟩
      case measure => simp [intOf]; omega
    · obtain rfl : k = 256 := by omega
      go_wp2_with (first
        | refine wpList_load_tab rfl 32 (.tmp 2) rfl w2.heap.size (stps 8) 256 rfl 32 ht _ Tryd.underlying32 rfl info32 ?_
        | (refine wpList_store_tab rfl 32 (.tmp 0) (.tmp 15) rfl w.heap.size (stps 8) 256 rfl rfl 32 h0 info32 ?_; intro w3 hT3 hG3))
      exact bodyPost_ret (v := .agg (tab (stps 8) 256)) (results_tab rfl _ w.heap.size 32 (stps 8) 256 _ rfl hT3 Tryd.underlying32 rfl info32) rfl ⟨rfl, below_of_new hg hG3 (Nat.le_refl _)⟩

set_option maxRecDepth 100000 in
set_option maxHeartbeats 1000000 in
theorem together_any (w : World) (po : Option Addr) (m c : Nat) (L : List (List UInt8)) (hb : Pc w po m c L) (hsz : L.flatten.length ≤ 140737488355328) :
    Calls Tryd.prog 11 #[.slice po m c] w fun e w' => ∃ ao n cap, e = .returned (.slice ao n cap) ∧ Ow w' w.heap.size 5 ao n cap L.flatten ∧ w.grownBy w' none := by
  have hlen := hb.len
  have hroom := hb.room
  have htop := hb.top
  unfold maxLen at htop
  go_enter Tryd.func11, Tryd.ntmps11
  go_wp2_with fail
  go_loopw [3, 4] (fun b i wr => ∃ (k : Nat) (ao : Option Addr) (n cap : Nat), k ≤ m ∧ i = .int .i64 k ∧ b = .slice ao n cap ∧ Ow wr w.heap.size 5 ao n cap (L.take k).flatten ∧ w.grownBy wr none)
    (fun _ i _ => m - (intOf i).toNat)
  case atStart => exact ⟨0, none, 0, 0, Nat.zero_le _, rfl, rfl, by simpa using Ow.nil w _ 5, grown_refl _ _⟩
  case round =>
    obtain ⟨k, ao, n, cap, hk, rfl, rfl, ho, hg⟩ := hrel
    by_cases hlt : k < m
    · have hkl : k < L.length := by omega
      obtain ⟨b, o, rfl, hbl⟩ := hb.addr (by omega)
      obtain ⟨xo, xn, xc, hcell, hx⟩ := (hb.grown hg).at hkl
      have hts := take_len hkl
      have htl := take_le L (k + 1)
      have hol := ho.len
      have hxl := hx.len
      have hsum : n + xn ≤ 140737488355328 := by omega
      have hwb := hg.size
      have hfl : (L.take k).flatten ++ L[k] = (L.take (k + 1)).flatten := (flat_snoc hkl).symm
      clear hts htl hol hxl
      generalize L[k] = l at *
      generalize (L.take k).flatten = bb at *
      go_wp2_with (at_builtin; refine wpList_append_bs _ rfl _ _ 26 rfl w.heap.size 5 Tryd.underlying26 info5 rfl ho rfl hx hsum hwb ?_; intro ao3 cap3 w3 ho3 hg3)
      have hG3 : w.grownBy w3 none := grown_trans hg hg3 (fun k hk => Or.inr (ho.from_base k hk).1)
      rw [hfl] at ho3
      go_roundw
      case rel => exact ⟨k + 1, ao3, _, cap3, by omega, by go_num, rfl, ho3, hG3⟩
      case measure => simp [intOf]; omega
    · obtain rfl : k = m := by omega
      rw [List.take_of_length_le (by omega)] at ho
      go_wp2
      go_ret
      exact ⟨ao, n, cap, rfl, ho, hg⟩

/-- What long answers. -/
def LongOk (m : Nat) (L : List (List UInt8)) (e : Ending) : Prop := e = .returned (.bool true) ∨ (e = .returned (.bool false) ∧ m ≤ 100 ∧ L.flatten.length ≤ 20000)

set_option maxRecDepth 100000 in
set_option maxHeartbeats 1000000 in
theorem long_any (w : World) (po : Option Addr) (m c : Nat) (L : List (List UInt8)) (hb : Pc w po m c L) :
    Calls Tryd.prog 9 #[.slice po m c] w fun e w' => LongOk m L e ∧ w' = w := by
  have hlen := hb.len
  have hroom := hb.room
  have htop := hb.top
  unfold maxLen at htop
  go_enter Tryd.func9, Tryd.ntmps9
  go_wp2_with fail
  go_loop [3, 4] (fun n i => ∃ (k T : Nat), k ≤ m ∧ k ≤ 101 ∧ i = .int .i64 k ∧ n = .int .i64 T ∧ Hid (T = (L.take k).flatten.length) ∧ T ≤ k * 20000) (fun _ i => m - (intOf i).toNat)
  case atStart => exact ⟨0, 0, Nat.zero_le _, by omega, rfl, rfl, (show _ = _ by simp), by omega⟩
  case round =>
    obtain ⟨k, T, hk, hk1, rfl, rfl, hT, hTb⟩ := hrel
    by_cases hlt : k < m
    · by_cases h101 : k < 101
      · have hkl : k < L.length := by omega
        obtain ⟨b, o, rfl, hbl⟩ := hb.addr (by omega)
        obtain ⟨xo, xn, xc, hcell, hx⟩ := hb.at hkl
        have hts := take_len hkl
        rw [hx.len] at hts
        have hts' : Hid ((L.take (k + 1)).flatten.length = (L.take k).flatten.length + xn) := hts
        clear hts
        by_cases hbig : 20000 < xn
        · go_wp2
          go_ret
          exact ⟨Or.inl rfl, rfl⟩
        · go_wp2
          go_round
          case rel => exact ⟨k + 1, T + xn, by omega, by omega, by go_num, by go_num, (show _ = _ by rw [hts'.out, ← hT.out]), by omega⟩
          case measure => simp [intOf]; omega
      · have hm : 100 < m := by omega
        go_wp2
        go_ret
        exact ⟨Or.inl rfl, rfl⟩
    · have hkm : k = m := by omega
      by_cases hm : 100 < m
      · go_wp2
        go_ret
        exact ⟨Or.inl rfl, rfl⟩
      · have hfl : T = L.flatten.length := by rw [hT.out, hkm, List.take_of_length_le (by omega)]
        have HFL : Hid (T = L.flatten.length) := hfl
        have hdm : decide ((100 : Int) < (m : Int)) = false := by simp; omega
        clear hfl hkm
        by_cases ht : 20000 < T
        · have hdt : decide ((20000 : Int) < (T : Int)) = true := by simp; omega
          go_wp2
          go_ret
          exact ⟨Or.inl rfl, rfl⟩
        · have hdt : decide ((20000 : Int) < (T : Int)) = false := by simp; omega
          go_wp2
          go_ret
          exact ⟨Or.inr ⟨rfl, by omega, by rw [← HFL.out]; omega⟩, rfl⟩

end Go.Proofs.YtkfpgmpjimnleaaDoor
