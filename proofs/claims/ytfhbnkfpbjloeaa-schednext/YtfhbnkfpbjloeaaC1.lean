/-
  The law of who is next by a pick, walked.
-/
import Derived.Test.YtfhbnkfpbjloeaaA5
import Derived.Test.YtfhbnkfpbjloeaaB3
namespace Go.Proofs.Ytfhbnkfpbjloeaa
open Go.RowKit
set_option linter.unusedVariables false

theorem info4o : (Try.prog.info? 4).map (fun i => (i.zero, i.size, i.bytes)) = some (some (.bool false), 1, 1) := by kernel_rfl
theorem Vs.pre {w : World} {ao : Option Addr} {n cap : Nat} {l : List Value} (h : Vs w ao n cap l) (m : Nat) (hm : m ≤ n) : Vs w ao m cap (l.take m) :=
  ⟨by simp [h.len]; omega, Nat.le_trans hm h.room, h.top, h.nil, fun u hu => h.one u (List.mem_of_mem_take hu), fun a ha j u hu => h.cells a ha j u (by
    rw [List.getElem?_take] at hu
    split at hu
    · exact hu
    · cases hu)⟩

set_option maxRecDepth 100000 in
set_option maxHeartbeats 4000000 in
theorem schedNext_any (w : World) (so : Option Addr) (n sc : Nat) (l : List Bool) (hP : Vs w so n sc (l.map bo)) (p t : Int) :
    Calls Try.prog 3 #[.slice so n sc, .int .i64 p, .int .i64 t] w fun e w' => e = .returned (.bool true) ∧ w.grownBy w' none := by
  have hlen : l.length = n := by simpa using hP.len
  by_cases hbig : 2000 < n
  · have d1 : decide ((2000 : Int) < (n : Int)) = true := by simp; omega
    have hk := known_any w
    go_enter Try.func3, Try.ntmps3
    go_wp2_with fail
    refine hk.mono ?_
    rintro e w1 ⟨rfl, hg1⟩
    go_wp2
    go_ret
    exact ⟨rfl, hg1⟩
  have d1 : decide ((2000 : Int) < (n : Int)) = false := by simp; omega
  have d1' : decide (2000 < n) = false := by simp; omega
  go_enter Try.func3, Try.ntmps3
  go_wp2_with (at_builtin; refine wpList_append_vs _ rfl _ _ 22 rfl w.heap.size 4 (.bool false) 1 Try.underlying22 info4o rfl (by decide) rfl (Vo.nil w w.heap.size 4) rfl hP (by omega) (Nat.le_refl _) ?_)
  intro ao cap w1 hO1 hg1
  have g2 := alloc_grown w1 (.cells #[.bool true] 4)
  have v2 : Vs (w1.alloc (.cells #[.bool true] 4)) (some ⟨w1.heap.size, 0, none⟩) 1 1 ([true].map bo) := Vs.row (l := [true]) (heap_alloc_new w1 _) (by decide)
  have hO2 := hO1.grown g2
  have hg1' : w.grownBy w1 none := hg1
  have hbase : w.heap.size ≤ (w1.alloc (.cells #[.bool true] 4)).heap.size := Nat.le_trans hg1'.size g2.size
  have hP1 : Hid (∀ W, w.grownBy W none → Vs W so n sc (l.map bo)) := fun W hg => hP.grown hg
  clear hO1 hg1
  obtain ⟨W2, hW2⟩ : ∃ W2, w1.alloc (.cells #[.bool true] 4) = W2 := ⟨_, rfl⟩
  have hG2 : w.grownBy W2 none := by rw [← hW2]; exact grown_trans hg1' g2 (by simp)
  rw [hW2] at v2 hO2 hbase
  clear g2 hg1'
  go_wp2_with (at_builtin; refine wpList_append_vs _ rfl _ _ 22 rfl w.heap.size 4 (.bool false) 1 Try.underlying22 info4o rfl (by decide) rfl hO2 rfl v2 (by omega) hbase ?_)
  intro ao2 cap2 w3 hO3 hg3
  have hv3 := hO3.shows
  have hpl3 := hO3.plain
  have hcap : n ≤ cap2 := by have := hv3.room; omega
  go_wp2_with (refine wpList_slice_hi _ rfl _ _ 22 rfl 4 Try.underlying22 size4o rfl hpl3 n rfl rfl hcap ?_)
  have hG3 : w.grownBy w3 none := by
    refine ((Chg.of_grown hG2 (fun k => some k = blk ao)).trans ⟨hg3.os, hg3.tape, hg3.output, hg3.size, fun k hk hn => hg3.block k hk hn⟩).grown fun k hk e => ?_
    have := hO2.from_base k e.symm
    omega
  have hv4 : Vs w3 ao2 n cap2 (l.map bo) := by
    have := hv3.pre n (by omega)
    rwa [List.take_append_of_le_length (by simp [hlen]), List.take_of_length_le (by simp [hlen])] at this
  clear hO3 hv3 hg3 hO2 v2 hW2 hbase hpl3
  have q1 := next_any ao2 n cap2 l hv4 p
  go_wp2_with fail
  refine q1.mono ?_
  rintro e w4 ⟨a, ea, rfl, hA, hg4⟩
  have hG4 := grown_trans hG3 hg4 (by simp)
  have q2 := rnext_any so n sc l (hP1.out w4 hG4) p
  clear q1
  go_wp2_with fail
  refine q2.mono ?_
  rintro e w5 ⟨b, eb, rfl, hB, hx⟩
  replace hx := hx.symm
  subst hx
  obtain ⟨rfl, rfl⟩ := hA.one hB
  have q3 := pick_any ao2 n cap2 l (hv4.grown hg4) t
  clear q2 hA hB
  go_wp2_with fail
  refine q3.mono ?_
  rintro e w5 ⟨rfl, hx⟩
  replace hx := hx.symm
  subst hx
  have q4 := rpick_any so n sc l (hP1.out w4 hG4) t
  clear q3
  go_wp2_with fail
  refine q4.mono ?_
  rintro e w5 ⟨rfl, hx⟩
  replace hx := hx.symm
  subst hx
  have hM4 : Hid (∀ W, w4.grownBy W none → Vs W ao2 n cap2 (l.map bo)) := fun W hg => hv4.grown (grown_trans hg4 hg (by simp))
  have hG4' : Hid (w.grownBy w4 none) := hG4
  generalize pickT l t = T at *
  generalize pickC l t = C at *
  clear q4 hv4 hg4 hG3 hG2 hG4 hP
  go_wp2_with fail
  go_loopw [16] (fun v16 wr => ∃ k : Nat, v16 = .int .i64 k ∧ k ≤ n ∧ w4.grownBy wr none) (fun v16 _ => n - (intOf v16).toNat)
  case atStart => exact ⟨0, rfl, Nat.zero_le _, grown_refl _ _⟩
  case round =>
    obtain ⟨k, rfl, hk, hg⟩ := hrel
    by_cases hlt : k < n
    · have d2 : decide ((k : Int) < (n : Int)) = true := by simp; omega
      have d3 : decide (k < n) = true := by simp; omega
      obtain ⟨b, hb⟩ : ∃ b, l[k]? = some b := ⟨_, List.getElem?_eq_getElem (by omega)⟩
      have hv := hP1.out wr (grown_trans hG4' hg (by simp))
      have hm := hM4.out wr hg
      obtain ⟨g1, o1, rfl, -⟩ := hv.addr (by omega)
      obtain ⟨g2, o2, rfl, -⟩ := hm.addr (by omega)
      have c0 := hv.at (bo_at hb)
      have c1 := hm.at (bo_at hb)
      have i1 : (0 : Int) ≤ (k : Int) := by omega
      have i2 : (k : Int) < (n : Int) := by omega
      have hgd : Hid (∀ nq, w4.grownBy (wr.drewN nq) none) := fun nq => grown_trans hg (grown_drewN wr nq none) (by simp)
      have db : (b != b) = false := by simp
      clear hb hv hm hg
      go_wp2_with fail
      go_quiet (fail)
      have hg2 := hgd.out nq
      go_wp2
      go_roundw
      case rel => exact ⟨k + 1, by go_num, by omega, hg2⟩
      case measure => simp [intOf]; omega
    · have d2 : decide ((k : Int) < (n : Int)) = false := by simp; omega
      have d3 : decide (k < n) = false := by simp; omega
      have hkn := known_any wr
      have hGr := grown_trans hG4'.out hg (by simp)
      go_wp2_with fail
      refine hkn.mono ?_
      rintro e w6 ⟨rfl, hg6⟩
      have hG6 := grown_trans hGr hg6 (by simp)
      go_wp2
      go_ret
      exact ⟨rfl, hG6⟩
end Go.Proofs.Ytfhbnkfpbjloeaa
