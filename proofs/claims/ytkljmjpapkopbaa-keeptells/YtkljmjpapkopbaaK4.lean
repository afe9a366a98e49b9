/-
  The document's Next.
-/
import Derived.Test.YtkljmjpapkopbaaK3
namespace Go.Proofs.Ytkljmjpapkopbaa
open Go.RowKit
set_option linter.unusedVariables false

set_option maxRecDepth 100000 in
set_option maxHeartbeats 8000000 in
theorem rnext_any {w : World} (r : Ru) (now : Int) (so : Option Addr) (n sc : Nat) (l : List Pc) (hP : Ps w so n l) (he : refE r now l = 0) (hroom : n ≤ sc) :
    Calls Try.prog 19 #[.agg #[.int .i64 r.by', .int .i64 r.age, .int .i64 r.pcs, .int .i64 r.bel], .int .i64 now, .slice so n sc] w fun e w' => e = .returned (.tuple #[.int .i64 ((nextR r now l).getD 0), .bool (nextR r now l).isSome]) ∧ w.grownBy w' none := by
  obtain ⟨z1, z2, z3, z4, z5⟩ := refE_zero he
  obtain ⟨b0, b1, a0, a1, s0, s1, e0, e1⟩ := ok_yes z1
  obtain ⟨n0, n1⟩ := inB_yes z2
  have ga := alloc_grown w (.cells #[.int .i64 r.by', .int .i64 r.age, .int .i64 r.pcs, .int .i64 r.bel] 23)
  have hB : Rb (w.alloc (.cells #[.int .i64 r.by', .int .i64 r.age, .int .i64 r.pcs, .int .i64 r.bel] 23)) w.heap.size r := heap_alloc_new w _
  have hlen := hP.len
  have hn4 : n ≤ 4096 := by omega
  have hgs := rgoes_any r now so n sc l (hP.grown ga) he hroom
  obtain ⟨x0, x1, x2, x3⟩ := hB.cs
  obtain ⟨G, hGe⟩ : ∃ G, goesR r now l = G := ⟨_, rfl⟩
  rw [hGe] at hgs
  replace hGe : Hid (goesR r now l = G) := hGe
  replace z5 : Hid (∀ p ∈ l, p.may = true) := z5
  clear z4 b0 b1 s0 s1 e0 e1 z3
  go_enter Try.func19, Try.ntmps19
  go_wp2_with fail
  generalize w.alloc (.cells #[.int .i64 r.by', .int .i64 r.age, .int .i64 r.pcs, .int .i64 r.bel] 23) = w1 at *
  generalize w.heap.size = bx at *
  refine hgs.mono ?_
  rintro e w2 ⟨rfl, hg2⟩
  have hG2 := grown_trans ga hg2 (by simp)
  have hB2 := hB.grown hg2
  clear hgs x0 x1 x2 x3 hB ga hg2
  obtain ⟨x0, x1, x2, x3⟩ := hB2.cs
  by_cases hage : r.age = 0
  · have g0 : (r.age == 0) = true := by simpa using hage
    have hM : Hid (nextR r now l = none) := next_ageless hage
    clear hage
    go_wp2
    go_ret2
    exact ⟨by rw [hM.out]; rfl, hG2⟩
  · have g0 : (r.age == 0) = false := by simpa using hage
    clear hage
    go_wp2_with fail
    clear x0 x1 x2 x3
    go_loopw [9, 10, 11] (fun v9 v10 v11 wr => ∃ (k : Nat) (B : Int) (b : Bool), v11 = .int .i64 k ∧ v9 = .int .i64 B ∧ v10 = .bool b ∧ k ≤ n ∧ Hid (Nx r now l k B b) ∧ Rb wr bx r ∧ w.grownBy wr none) (fun _ _ v11 _ => n - (intOf v11).toNat)
    case atStart => exact ⟨0, 0, false, rfl, rfl, rfl, Nat.zero_le _, ⟨fun _ => ⟨rfl, rfl⟩, fun z _ => ⟨fun h => (by cases h), fun _ => ⟨rfl, Nat.zero_le _⟩, fun h => absurd h (Nat.not_lt_zero _)⟩⟩, hB2, hG2⟩
    case round =>
      clear hB2 hG2
      obtain ⟨k, B, b, rfl, rfl, rfl, hk, hN, hbx, hg⟩ := hrel
      by_cases hlt : k < n
      · have d2 : decide ((k : Int) < (n : Int)) = true := by simp; omega
        have d3 : decide (k < n) = true := by simpa using hlt
        obtain ⟨g, o, rfl, hcs⟩ := (hP.grown hg).pl (by omega)
        obtain ⟨p, hp⟩ : ∃ p, l[k]? = some p := ⟨_, List.getElem?_eq_getElem (by omega)⟩
        obtain ⟨c0, c1, c2⟩ := hcs k p hp
        obtain ⟨-, -, -, -, t0, t1⟩ := may_yes (z5.out p (List.mem_of_getElem? hp))
        have i1 : (0 : Int) ≤ (k : Int) := by omega
        have i2 : (k : Int) < (n : Int) := by omega
        obtain ⟨x0, x1, x2, x3⟩ := hbx.cs
        obtain ⟨T, hT⟩ : ∃ T, T = p.t + r.age + 1 := ⟨_, rfl⟩
        have hyes := fun hc => hN.out.yes a0 hp hT hc
        have hno := fun hc => hN.out.no' a0 hp hT hc
        replace hyes : Hid (nxC r now l B b T → Nx r now l (k + 1) T true) := hyes
        replace hno : Hid (¬ nxC r now l B b T → Nx r now l (k + 1) B b) := hno
        replace hT := hT.symm
        clear hcs hp hN c0 c1
        have hT2 : Hid (p.t + r.age + 1 = T) := hT
        clear hT
        go_wp2_with fail
        go_quiet (fail)
        have hG4 := grown_trans hg (grown_drewN wr nq none) (by simp)
        have hB4 := hbx.grown (grown_drewN wr nq none)
        clear x0 x1 x2 x3 c2
        generalize wr.drewN nq = w4 at *
        clear hg hbx
        obtain ⟨x0, x1, x2, x3⟩ := hB4.cs
        have hT := hT2.out
        try rw [hT]
        clear hT hT2
        by_cases h1 : now < T
        · have g1 : decide (now < T) = true := by simpa using h1
          by_cases h2 : T ≤ 9007199254740992
          · have g2 : decide (T ≤ 9007199254740992) = true := by simpa using h2
            cases b
            · skip
              have hin : inB T 9007199254740992 = true := by simp [inB]; omega
              have hgs := rgoes_any r T (some ⟨g, o, none⟩) n sc l (hP.grown hG4) (refE_of he z1 hin) hroom
              obtain ⟨H, hHe⟩ : ∃ H, goesR r T l = H := ⟨_, rfl⟩
              rw [hHe] at hgs
              by_cases hGH : G < H
              · have g9 : decide ((G : Int) < (H : Int)) = true := by simp; omega
                have g8 : decide (G < H) = true := by simp; omega
                have hM := hyes.out ⟨by omega, by omega, .inl rfl, by rw [hGe.out, hHe]; exact hGH⟩
                clear hyes hno hHe hGH
                go_wp2_with fail
                refine hgs.mono ?_
                rintro e w5 ⟨rfl, hg5⟩
                have hG5 := grown_trans hG4 hg5 (by simp)
                have hB5 := hB4.grown hg5
                clear x0 x1 x2 x3 hG4 hB4 hgs
                go_wp2
                go_roundw
                case rel => exact ⟨k + 1, T, true, by go_num, rfl, rfl, by omega, hM, hB5, hG5⟩
                case measure => simp [intOf]; omega
              · have g9 : decide ((G : Int) < (H : Int)) = false := by simp; omega
                have g8 : decide (G < H) = false := by simp; omega
                have hM := hno.out (fun hc => by have := hc.2.2.2; rw [hGe.out, hHe] at this; exact hGH this)
                clear hyes hno hHe hGH
                go_wp2_with fail
                refine hgs.mono ?_
                rintro e w5 ⟨rfl, hg5⟩
                have hG5 := grown_trans hG4 hg5 (by simp)
                have hB5 := hB4.grown hg5
                clear x0 x1 x2 x3 hG4 hB4 hgs
                go_wp2
                go_roundw
                case rel => exact ⟨k + 1, B, false, by go_num, rfl, rfl, by omega, hM, hB5, hG5⟩
                case measure => simp [intOf]; omega
            · by_cases h3 : T < B
              · have g3 : decide (T < B) = true := by simpa using h3
                have hin : inB T 9007199254740992 = true := by simp [inB]; omega
                have hgs := rgoes_any r T (some ⟨g, o, none⟩) n sc l (hP.grown hG4) (refE_of he z1 hin) hroom
                obtain ⟨H, hHe⟩ : ∃ H, goesR r T l = H := ⟨_, rfl⟩
                rw [hHe] at hgs
                by_cases hGH : G < H
                · have g9 : decide ((G : Int) < (H : Int)) = true := by simp; omega
                  have g8 : decide (G < H) = true := by simp; omega
                  have hM := hyes.out ⟨by omega, by omega, .inr h3, by rw [hGe.out, hHe]; exact hGH⟩
                  clear hyes hno hHe hGH
                  go_wp2_with fail
                  refine hgs.mono ?_
                  rintro e w5 ⟨rfl, hg5⟩
                  have hG5 := grown_trans hG4 hg5 (by simp)
                  have hB5 := hB4.grown hg5
                  clear x0 x1 x2 x3 hG4 hB4 hgs
                  go_wp2
                  go_roundw
                  case rel => exact ⟨k + 1, T, true, by go_num, rfl, rfl, by omega, hM, hB5, hG5⟩
                  case measure => simp [intOf]; omega
                · have g9 : decide ((G : Int) < (H : Int)) = false := by simp; omega
                  have g8 : decide (G < H) = false := by simp; omega
                  have hM := hno.out (fun hc => by have := hc.2.2.2; rw [hGe.out, hHe] at this; exact hGH this)
                  clear hyes hno hHe hGH
                  go_wp2_with fail
                  refine hgs.mono ?_
                  rintro e w5 ⟨rfl, hg5⟩
                  have hG5 := grown_trans hG4 hg5 (by simp)
                  have hB5 := hB4.grown hg5
                  clear x0 x1 x2 x3 hG4 hB4 hgs
                  go_wp2
                  go_roundw
                  case rel => exact ⟨k + 1, B, true, by go_num, rfl, rfl, by omega, hM, hB5, hG5⟩
                  case measure => simp [intOf]; omega
              · have g3 : decide (T < B) = false := by simpa using h3
                have hM := hno.out (fun hc => hc.2.2.1.elim (fun h => (by cases h)) h3)
                clear hyes hno
                go_wp2
                go_roundw
                case rel => exact ⟨k + 1, B, true, by go_num, rfl, rfl, by omega, hM, hB4, hG4⟩
                case measure => simp [intOf]; omega
          · have g2 : decide (T ≤ 9007199254740992) = false := by simpa using h2
            have hM := hno.out (fun hc => h2 hc.2.1)
            clear hyes hno
            go_wp2
            go_roundw
            case rel => exact ⟨k + 1, B, b, by go_num, rfl, rfl, by omega, hM, hB4, hG4⟩
            case measure => simp [intOf]; omega
        · have g1 : decide (now < T) = false := by simpa using h1
          have hM := hno.out (fun hc => h1 hc.1)
          clear hyes hno
          go_wp2
          go_roundw
          case rel => exact ⟨k + 1, B, b, by go_num, rfl, rfl, by omega, hM, hB4, hG4⟩
          case measure => simp [intOf]; omega
      · have d2 : decide ((k : Int) < (n : Int)) = false := by simp; omega
        have d3 : decide (k < n) = false := by simpa using hlt
        obtain ⟨f1, f2⟩ := hN.out.fin (by omega)
        have hM1 : Hid (B = (nextR r now l).getD 0) := f1
        have hM2 : Hid (b = (nextR r now l).isSome) := f2
        clear hN f1 f2
        go_wp2
        go_ret2
        exact ⟨by rw [hM1.out, hM2.out]; rfl, hg⟩
end Go.Proofs.Ytkljmjpapkopbaa
