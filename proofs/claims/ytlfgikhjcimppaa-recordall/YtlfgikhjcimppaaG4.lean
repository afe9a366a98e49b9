/-
  RecordChanged: the walk.
-/
import Derived.Test.YtlfgikhjcimppaaG3
namespace Go.Proofs.Ytlfgikhjcimppaa
open Go.RowKit
set_option linter.unusedVariables false

theorem Rs.none (w : World) : Rs w none 0 0 [] := ⟨rfl, Nat.le_refl _, by omega, fun _ => rfl, fun a ha => (by cases ha), fun b o ha => (by cases ha), fun r hr => (by cases hr)⟩

theorem xor_byte (a b : UInt8) : bits BinOp.xor IntKind.u8 (a.toNat : Int) (b.toNat : Int) = ((a ^^^ b).toNat : Int) := by
  rw [u8_xor_nat _ _ a.toNat_lt b.toNat_lt, UInt8.toNat_xor]

set_option maxRecDepth 100000 in
set_option maxHeartbeats 16000000 in
theorem recordChanged_any (w : World) (ao : Option Addr) (n cap : Nat) (l : List Rc) (base at' : Int) (by' : UInt8) (hb1 : -9223372036854775808 ≤ base) (hb2 : base < 9223372036854775808) (ha1 : -9223372036854775808 ≤ at') (ha2 : at' < 9223372036854775808) (ha : Rs w ao n cap l) :
    Calls Try.prog 8 #[.agg #[.slice ao n cap, .int .i64 base, .int .i64 at', .int .u8 (by'.toNat : Int)]] w fun e w' => e = .returned (.bool true) ∧ w.grownBy w' none := by
  have hl1 := ha.len
  have ht1 := Nat.le_trans ha.room ha.top
  go_enter Try.func8, Try.ntmps8
  go_wp2_with fail
  have ga := alloc_grown w (.cells #[.slice ao n cap, .int .i64 base, .int .i64 at', .int .u8 (by'.toNat : Int)] 71)
  have k3 := heap_alloc_new w (.cells #[.slice ao n cap, .int .i64 base, .int .i64 at', .int .u8 (by'.toNat : Int)] 71)
  have c0 := cell_of (i := 0) (v := .slice ao n cap) k3 rfl
  have c1 := cell_of (i := 1) (v := .int .i64 base) k3 rfl
  have c2 := cell_of (i := 2) (v := .int .i64 at') k3 rfl
  have c3 := cell_of (i := 3) (v := .int .u8 (by'.toNat : Int)) k3 rfl
  clear k3
  generalize w.alloc (.cells #[.slice ao n cap, .int .i64 base, .int .i64 at', .int .u8 (by'.toNat : Int)] 71) = w0 at *
  generalize hz : w.heap.size = z at *
  go_region_held3 (fun w' => w'.cell? ⟨z, 0, none⟩ = some (.slice ao n cap) ∧ w'.cell? ⟨z, 1, none⟩ = some (.int .i64 base) ∧ w'.cell? ⟨z, 2, none⟩ = some (.int .i64 at') ∧ w'.cell? ⟨z, 3, none⟩ = some (.int .u8 (by'.toNat : Int))) (first | exact ⟨c0, c1, c2, c3⟩ | go_keep) (fail)
  have hG0 := grown_trans ga (grown_drew w0 none) (by simp)
  clear c0 c1 c2 c3 ga
  generalize w0.drew = w1 at *
  have hLa := large_any w1 300 ao n cap l (ha.grown hG0)
  have hno := large_no (most := 300) (l := l)
  generalize largeB 300 l = A at *
  go_wp2_with fail
  refine hLa.mono ?_
  rintro e w1' ⟨rfl, hw⟩
  obtain rfl : w1 = w1' := hw.symm
  clear hw hLa
  cases A
  · obtain ⟨hn, hb⟩ := hno rfl
    rw [hl1] at hn
    have hbM : ∀ r ∈ l, r.kn ≤ 1048576 ∧ r.vn ≤ 1048576 := fun r hr => by have := hb r hr; omega
    have hSm : Small l := ⟨by omega, hbM⟩
    by_cases hby : by' = 0
    · have hz0 : (((by'.toNat : Nat) : Int) == 0) = true := by subst hby; rfl
      clear hno
      go_wp2_with fail
      refine (known_any _).mono ?_
      rintro e wk ⟨rfl, hgk⟩
      have hGk := grown_trans hG0 hgk (by simp)
      go_wp2
      go_ret
      exact ⟨rfl, hGk⟩
    · have hz0 : (((by'.toNat : Nat) : Int) == 0) = false := by
        have h9 : by'.toNat ≠ 0 := fun e => hby (UInt8.toNat_inj.1 e)
        simp; omega
      clear hno
      go_wp2_with fail
      by_cases hm : (measR base l).2 = 0
      · have hgd := rk_good ha.shows
        obtain ⟨_, _, _, hN4, _⟩ := fits_ok (meas_ok hm).1
        have hbl : (batB base l).length = 20 + szs l := bat_len (bat_whole hgd hm).1
        refine (put_ok _ base ao n cap l (ha.grown hG0) hSm hm).mono ?_
        rintro e w2 ⟨gb, rfl, ho2, hg2⟩
        have hG2 := grown_trans hG0 hg2 (by simp)
        obtain ⟨N, hN⟩ : ∃ N, Hid (N = 20 + szs l) := ⟨20 + szs l, (rfl : _ = _)⟩
        obtain ⟨B, hB⟩ : ∃ B, Hid (B = batB base l) := ⟨batB base l, (rfl : _ = _)⟩
        rw [← hN.out, ← hB.out] at ho2
        rw [← hN.out, ← hB.out] at hbl
        rw [← hN.out] at hN4
        have hN0 : 20 ≤ N := by have := hN.out; omega
        rw [show (20 + szs l : Nat) = N from hN.out.symm]
        have hNz : ((N : Int) == 0) = false := by simp; omega
        obtain ⟨k, hkN, hk⟩ := tmod_neg at' N (by omega)
        have hal : -9223372036854775808 < at'.tmod (N : Int) ∧ at'.tmod (N : Int) < 9223372036854775808 := by rcases hk with h | ⟨h, h'⟩ <;> omega
        obtain ⟨hal1, hal2⟩ := hal
        have hNn : ¬ (N : Int) = 0 := by omega
        have fin : ∀ (W : World) (am : Option Addr) (cm : Nat), w.grownBy W none → Ow W w.heap.size 5 am N cm B → True := fun _ _ _ _ _ => trivial
        clear fin
        have k1 : (0 : Int) ≤ (k : Int) := by omega
        have k2 : (k : Int) < (N : Int) := by omega
        rcases hk with hk | ⟨hk0, hk⟩
        · go_wp2_with (at_builtin; refine wpList_append_bs _ rfl _ _ 31 rfl w2.heap.size 5 Try.underlying31 Try.info5 rfl (Ow.nil _ _ _) rfl ho2.shows (by omega) (Nat.le_refl _) ?_)
          intro am cm w3 ho3 hg3
          have hG3 := grown_trans hG2 hg3 (by simp [blk])
          have hs2 := hG2.size
          have hs3 := hg3.size
          obtain ⟨gm, rfl, hgm1, hgm2⟩ := ho3.addr (by omega)
          have hkl : k < B.length := by omega
          have hmc := ho3.shows.at (o := 0) hkl
          rw [Nat.zero_add] at hmc
          have hmf := ho3.there k
          have hxr := xor_byte B[k] by'
          have hsn := set_ne hkl by' hby
          have ho4 := ho3.set k (B[k] ^^^ by')
          have hg4 := setCell_grown w3 gm k (bv (B[k] ^^^ by'))
          have hG4 := grown_trans hG3 hg4 (fun q hq => Or.inr (by cases hq; omega))
          clear ho3 hg3 hg4 ho2 hg2 hG3
          generalize B[k] = bk at *
          go_wp2_with fail
          change Calls _ _ _ (w3.setCell ⟨gm, k, none⟩ (bv (bk ^^^ by'))) _
          clear hmc hmf hxr hk
          generalize w3.setCell ⟨gm, k, none⟩ (bv (bk ^^^ by')) = w4 at *
          generalize hM : B.set k (bk ^^^ by') = M at *
          have hMl : M.length = N := by rw [← hM]; simp; omega
          have hBp : Bp w4 (some ⟨gm, 0, none⟩) N cm M := ⟨ho4.shows, fun a ha => ⟨gm, 0, (Option.some.inj ha).symm⟩, by omega, ho4.shows.top⟩
          have hRA := read_any w4 _ N cm 0 M hBp (Nat.zero_le _)
          rw [List.drop_zero] at hRA
          refine hRA.mono ?_
          rintro e w5 ⟨hg5, ⟨C, hNo, rfl⟩ | ⟨S, gx, bx, rs, hE, hW, rfl, hgx, hbx, hRx, hSx, hOx⟩⟩
          · have hG5 := grown_trans hG4 hg5 (by simp)
            have hC0 : (C == 0) = false := by simpa using hNo.1
            have ga := alloc_grown w5 (.cells #[.int .i64 0, .slice none 0 0] 35)
            have kk := heap_alloc_new w5 (.cells #[.int .i64 0, .slice none 0 0] 35)
            have x1 := cell_of (i := 1) (v := .slice none 0 0) kk rfl
            have x0 := cell_of (i := 0) (v := .int .i64 0) kk rfl
            have hG6 := grown_trans hG5 ga (by simp)
            have hSA := sameAll_any _ none ao 0 n 0 cap [] l (Rs.none (w5.alloc (.cells #[.int .i64 0, .slice none 0 0] 35))) (ha.grown hG6)
            clear hRA hBp ho4 hNo kk
            go_wp2_with fail
            generalize w5.alloc (.cells #[.int .i64 0, .slice none 0 0] 35) = w6 at *
            refine hSA.mono ?_
            rintro e w7 ⟨rfl, hg7⟩
            have hG7 := grown_trans hG6 hg7 (by simp)
            clear hSA
            go_wp2_with fail
            refine (known_any _).mono ?_
            rintro e wk ⟨rfl, hgk⟩
            have hGk := grown_trans hG7 hgk (by simp)
            go_wp2
            go_ret
            exact ⟨rfl, hGk⟩
          · have hG5 := grown_trans hG4 hg5 (by simp)
            generalize hBA : bAt (M.take S) = BA at *
            generalize hCA : cAt (M.take S) = CA at *
            have hrk : ∀ r ∈ rs, Rk w5 r := fun r hr => (hOx r hr).rk
            have hRs5 := hRx.shows hrk
            have hrl : rs.length = CA := hRx.len
            have hnot : S = N → BA = base → sameAllB rs l = true → False := fun e1 e2 e3 => by
              refine changed_not (base := base) ha.shows hrk ?_ hE hW (by rw [hCA]; exact hrl) hSx (by rw [hMl]; exact e1) (by rw [hBA]; exact e2) (of_decide_eq_true e3)
              rw [← hB.out]
              exact hsn
            have ga := alloc_grown w5 (.cells #[.int .i64 BA, .slice (some ⟨gx, 0, none⟩) CA CA] 35)
            have kk := heap_alloc_new w5 (.cells #[.int .i64 BA, .slice (some ⟨gx, 0, none⟩) CA CA] 35)
            have x0 := cell_of (i := 0) (v := .int .i64 BA) kk rfl
            have x1 := cell_of (i := 1) (v := .slice (some ⟨gx, 0, none⟩) CA CA) kk rfl
            have hG6 := grown_trans hG5 ga (by simp)
            have hSA := sameAll_any _ (some ⟨gx, 0, none⟩) ao CA n CA cap rs l (hRs5.grown ga) (ha.grown hG6)
            generalize sameAllB rs l = SB at *
            clear hRA hBp ho4 hRx hSx hOx hrk hRs5 hE hW hBA hCA
            go_wp2_with fail
            generalize w5.alloc (.cells #[.int .i64 BA, .slice (some ⟨gx, 0, none⟩) CA CA] 35) = w6 at *
            generalize w5.heap.size = zx at *
            refine hSA.mono ?_
            rintro e w7 ⟨rfl, hg7⟩
            have hG7 := grown_trans hG6 hg7 (by simp)
            replace x0 := hg7.cell x0 (by simp)
            replace x1 := hg7.cell x1 (by simp)
            clear hSA
            by_cases e1 : S = N
            · have d1 : ((S : Int) == (N : Int)) = true := by simp; omega
              by_cases e2 : BA = base
              · have d2 : (BA == base) = true := by simpa using e2
                obtain rfl : SB = false := by cases SB; rfl; exact (hnot e1 e2 rfl).elim
                go_wp2_with fail
                refine (known_any _).mono ?_
                rintro e wk ⟨rfl, hgk⟩
                have hGk := grown_trans hG7 hgk (by simp)
                go_wp2
                go_ret
                exact ⟨rfl, hGk⟩
              · have d2 : (BA == base) = false := by simpa using e2
                go_wp2_with fail
                refine (known_any _).mono ?_
                rintro e wk ⟨rfl, hgk⟩
                have hGk := grown_trans hG7 hgk (by simp)
                go_wp2
                go_ret
                exact ⟨rfl, hGk⟩
            · have d1 : ((S : Int) == (N : Int)) = false := by simp; omega
              go_wp2_with fail
              refine (known_any _).mono ?_
              rintro e wk ⟨rfl, hgk⟩
              have hGk := grown_trans hG7 hgk (by simp)
              go_wp2
              go_ret
              exact ⟨rfl, hGk⟩
        · go_wp2_with (at_builtin; refine wpList_append_bs _ rfl _ _ 31 rfl w2.heap.size 5 Try.underlying31 Try.info5 rfl (Ow.nil _ _ _) rfl ho2.shows (by omega) (Nat.le_refl _) ?_)
          intro am cm w3 ho3 hg3
          have hG3 := grown_trans hG2 hg3 (by simp [blk])
          have hs2 := hG2.size
          have hs3 := hg3.size
          obtain ⟨gm, rfl, hgm1, hgm2⟩ := ho3.addr (by omega)
          have hkl : k < B.length := by omega
          have hmc := ho3.shows.at (o := 0) hkl
          rw [Nat.zero_add] at hmc
          have hmf := ho3.there k
          have hxr := xor_byte B[k] by'
          have hsn := set_ne hkl by' hby
          have ho4 := ho3.set k (B[k] ^^^ by')
          have hg4 := setCell_grown w3 gm k (bv (B[k] ^^^ by'))
          have hG4 := grown_trans hG3 hg4 (fun q hq => Or.inr (by cases hq; omega))
          clear ho3 hg3 hg4 ho2 hg2 hG3
          generalize B[k] = bk at *
          go_wp2_with fail
          change Calls _ _ _ (w3.setCell ⟨gm, k, none⟩ (bv (bk ^^^ by'))) _
          clear hmc hmf hxr hk
          generalize w3.setCell ⟨gm, k, none⟩ (bv (bk ^^^ by')) = w4 at *
          generalize hM : B.set k (bk ^^^ by') = M at *
          have hMl : M.length = N := by rw [← hM]; simp; omega
          have hBp : Bp w4 (some ⟨gm, 0, none⟩) N cm M := ⟨ho4.shows, fun a ha => ⟨gm, 0, (Option.some.inj ha).symm⟩, by omega, ho4.shows.top⟩
          have hRA := read_any w4 _ N cm 0 M hBp (Nat.zero_le _)
          rw [List.drop_zero] at hRA
          refine hRA.mono ?_
          rintro e w5 ⟨hg5, ⟨C, hNo, rfl⟩ | ⟨S, gx, bx, rs, hE, hW, rfl, hgx, hbx, hRx, hSx, hOx⟩⟩
          · have hG5 := grown_trans hG4 hg5 (by simp)
            have hC0 : (C == 0) = false := by simpa using hNo.1
            have ga := alloc_grown w5 (.cells #[.int .i64 0, .slice none 0 0] 35)
            have kk := heap_alloc_new w5 (.cells #[.int .i64 0, .slice none 0 0] 35)
            have x1 := cell_of (i := 1) (v := .slice none 0 0) kk rfl
            have x0 := cell_of (i := 0) (v := .int .i64 0) kk rfl
            have hG6 := grown_trans hG5 ga (by simp)
            have hSA := sameAll_any _ none ao 0 n 0 cap [] l (Rs.none (w5.alloc (.cells #[.int .i64 0, .slice none 0 0] 35))) (ha.grown hG6)
            clear hRA hBp ho4 hNo kk
            go_wp2_with fail
            generalize w5.alloc (.cells #[.int .i64 0, .slice none 0 0] 35) = w6 at *
            refine hSA.mono ?_
            rintro e w7 ⟨rfl, hg7⟩
            have hG7 := grown_trans hG6 hg7 (by simp)
            clear hSA
            go_wp2_with fail
            refine (known_any _).mono ?_
            rintro e wk ⟨rfl, hgk⟩
            have hGk := grown_trans hG7 hgk (by simp)
            go_wp2
            go_ret
            exact ⟨rfl, hGk⟩
          · have hG5 := grown_trans hG4 hg5 (by simp)
            generalize hBA : bAt (M.take S) = BA at *
            generalize hCA : cAt (M.take S) = CA at *
            have hrk : ∀ r ∈ rs, Rk w5 r := fun r hr => (hOx r hr).rk
            have hRs5 := hRx.shows hrk
            have hrl : rs.length = CA := hRx.len
            have hnot : S = N → BA = base → sameAllB rs l = true → False := fun e1 e2 e3 => by
              refine changed_not (base := base) ha.shows hrk ?_ hE hW (by rw [hCA]; exact hrl) hSx (by rw [hMl]; exact e1) (by rw [hBA]; exact e2) (of_decide_eq_true e3)
              rw [← hB.out]
              exact hsn
            have ga := alloc_grown w5 (.cells #[.int .i64 BA, .slice (some ⟨gx, 0, none⟩) CA CA] 35)
            have kk := heap_alloc_new w5 (.cells #[.int .i64 BA, .slice (some ⟨gx, 0, none⟩) CA CA] 35)
            have x0 := cell_of (i := 0) (v := .int .i64 BA) kk rfl
            have x1 := cell_of (i := 1) (v := .slice (some ⟨gx, 0, none⟩) CA CA) kk rfl
            have hG6 := grown_trans hG5 ga (by simp)
            have hSA := sameAll_any _ (some ⟨gx, 0, none⟩) ao CA n CA cap rs l (hRs5.grown ga) (ha.grown hG6)
            generalize sameAllB rs l = SB at *
            clear hRA hBp ho4 hRx hSx hOx hrk hRs5 hE hW hBA hCA
            go_wp2_with fail
            generalize w5.alloc (.cells #[.int .i64 BA, .slice (some ⟨gx, 0, none⟩) CA CA] 35) = w6 at *
            generalize w5.heap.size = zx at *
            refine hSA.mono ?_
            rintro e w7 ⟨rfl, hg7⟩
            have hG7 := grown_trans hG6 hg7 (by simp)
            replace x0 := hg7.cell x0 (by simp)
            replace x1 := hg7.cell x1 (by simp)
            clear hSA
            by_cases e1 : S = N
            · have d1 : ((S : Int) == (N : Int)) = true := by simp; omega
              by_cases e2 : BA = base
              · have d2 : (BA == base) = true := by simpa using e2
                obtain rfl : SB = false := by cases SB; rfl; exact (hnot e1 e2 rfl).elim
                go_wp2_with fail
                refine (known_any _).mono ?_
                rintro e wk ⟨rfl, hgk⟩
                have hGk := grown_trans hG7 hgk (by simp)
                go_wp2
                go_ret
                exact ⟨rfl, hGk⟩
              · have d2 : (BA == base) = false := by simpa using e2
                go_wp2_with fail
                refine (known_any _).mono ?_
                rintro e wk ⟨rfl, hgk⟩
                have hGk := grown_trans hG7 hgk (by simp)
                go_wp2
                go_ret
                exact ⟨rfl, hGk⟩
            · have d1 : ((S : Int) == (N : Int)) = false := by simp; omega
              go_wp2_with fail
              refine (known_any _).mono ?_
              rintro e wk ⟨rfl, hgk⟩
              have hGk := grown_trans hG7 hgk (by simp)
              go_wp2
              go_ret
              exact ⟨rfl, hGk⟩
      · refine (put_not _ base ao n cap l (ha.grown hG0) hSm hm).mono ?_
        rintro e w2 ⟨rfl, hg2⟩
        have hG2 := grown_trans hG0 hg2 (by simp)
        generalize (measR base l).2 = MC at *
        have hmb : (MC != 0) = true := by simpa using hm
        go_wp2_with fail
        refine (known_any _).mono ?_
        rintro e wk ⟨rfl, hgk⟩
        have hGk := grown_trans hG2 hgk (by simp)
        go_wp2
        go_ret
        exact ⟨rfl, hGk⟩
  · clear hno
    go_wp2_with fail
    refine (known_any _).mono ?_
    rintro e wk ⟨rfl, hgk⟩
    have hGk := grown_trans hG0 hgk (by simp)
    go_wp2
    go_ret
    exact ⟨rfl, hGk⟩
end Go.Proofs.Ytlfgikhjcimppaa
