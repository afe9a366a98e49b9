/-
  RecordBack: the walk.
-/
import Derived.Test.YtlfgikhjcimppaaG4
namespace Go.Proofs.Ytlfgikhjcimppaa
open Go.RowKit
set_option linter.unusedVariables false

theorem says_five {w : World} {B : List UInt8} {rs : List Rc} (hk : ∀ r ∈ rs, Rk w r) (hs : ∀ j d, (ds rs)[j]? = some d → Says B (posAt B j) d) : ∀ j r, rs[j]? = some r → r.k.length = r.kn ∧ r.v.length = r.vn ∧ Says B (posAt B j) r.d := fun j r hjr => by
  have hm := List.mem_of_getElem? hjr
  refine ⟨(hk r hm).key.len, (hk r hm).value.len, hs j r.d ?_⟩
  unfold ds
  rw [List.getElem?_map, hjr]
  rfl

theorem read_meas {w : World} {B : List UInt8} {S : Nat} {rs : List Rc} (hl : B.length = S) (hW : Whole B S) (hrs : rs.length = cAt B) (hk : ∀ r ∈ rs, Rk w r) (hs : ∀ j d, (ds rs)[j]? = some d → Says B (posAt B j) d) : (measR (bAt B) rs).2 = 0 := by
  refine hW.meas rs hrs (fun j r hjr => ?_)
  obtain ⟨g1, g2, g3⟩ := says_five hk hs j r hjr
  have hj : j < cAt B := by rw [← hrs]; exact (List.getElem?_eq_some_iff.1 hjr).1
  have hp := hW.ins j hj
  have hpp : posAt B (j + 1) = posAt B j + 12 + kAt B (posAt B j) + vAt B (posAt B j) := rfl
  obtain ⟨a1, a2, _⟩ := says_by g1 g2 g3 (by omega)
  exact ⟨g3.1, a1, a2⟩

/-- What is read out of a batch's bytes are its records. -/
theorem back_ds {w w' : World} {base : Int} {l rs : List Rc} (hl : ∀ r ∈ l, Rk w r) (hm : (measR base l).2 = 0) (hrs : rs.length = l.length) (hs : ∀ j d, (ds rs)[j]? = some d → Says (batB base l) (posAt (batB base l) j) d) : ds rs = ds l := by
  have hgd := rk_good hl
  obtain ⟨hG, _, _, _⟩ := bat_whole hgd hm
  apply List.ext_getElem?
  intro j
  by_cases hj : j < l.length
  · have h1 : (ds rs)[j]? = some ((ds rs)[j]'(by rw [ds_len]; omega)) := by simp
    have h2 : (ds l)[j]? = some (l[j]).d := by unfold ds; rw [List.getElem?_map, List.getElem?_eq_getElem hj]; rfl
    obtain ⟨a1, a2, a3⟩ := hs j _ h1
    obtain ⟨b1, b2, b3, b4, b5⟩ := bat_says base hG hj
    rw [pos_bat base hG j (by omega)] at a1 a2 a3
    rw [b2] at a2 a3
    rw [b3] at a3
    rw [b1] at a1
    rw [b4] at a2
    rw [b5] at a3
    rw [h1, h2]
    exact congrArg some (Prod.ext a1 (Prod.ext a2 a3))
  · rw [List.getElem?_eq_none (by rw [ds_len]; omega), List.getElem?_eq_none (by rw [ds_len]; omega)]

set_option maxRecDepth 100000 in
set_option maxHeartbeats 16000000 in
theorem recordBack_any (w : World) (ao : Option Addr) (n cap : Nat) (l : List Rc) (base cut : Int) (mo : Option Addr) (mn mc : Nat) (Mo : List UInt8) (hb1 : -9223372036854775808 ≤ base) (hb2 : base < 9223372036854775808) (ha1 : -9223372036854775808 ≤ cut) (ha2 : cut < 9223372036854775808) (ha : Rs w ao n cap l) (hmo : Bs w mo mn mc Mo) (hma : ∀ a, mo = some a → ∃ b o, a = ⟨b, o, none⟩) :
    Calls Try.prog 7 #[.agg #[.slice ao n cap, .int .i64 base, .slice mo mn mc, .int .i64 cut]] w fun e w' => e = .returned (.bool true) ∧ w.grownBy w' none := by
  have hl1 := ha.len
  have ht1 := Nat.le_trans ha.room ha.top
  have hml := hmo.len
  have hmt0 := Nat.le_trans hmo.room hmo.top
  unfold maxLen at hmt0
  go_enter Try.func7, Try.ntmps7
  go_wp2_with fail
  have ga := alloc_grown w (.cells #[.slice ao n cap, .int .i64 base, .slice mo mn mc, .int .i64 cut] 68)
  have k3 := heap_alloc_new w (.cells #[.slice ao n cap, .int .i64 base, .slice mo mn mc, .int .i64 cut] 68)
  have c0 := cell_of (i := 0) (v := .slice ao n cap) k3 rfl
  have c1 := cell_of (i := 1) (v := .int .i64 base) k3 rfl
  have c2 := cell_of (i := 2) (v := .slice mo mn mc) k3 rfl
  have c3 := cell_of (i := 3) (v := .int .i64 cut) k3 rfl
  clear k3
  generalize w.alloc (.cells #[.slice ao n cap, .int .i64 base, .slice mo mn mc, .int .i64 cut] 68) = w0 at *
  generalize hz : w.heap.size = z at *
  go_region_held3 (fun w' => w'.cell? ⟨z, 0, none⟩ = some (.slice ao n cap) ∧ w'.cell? ⟨z, 1, none⟩ = some (.int .i64 base) ∧ w'.cell? ⟨z, 2, none⟩ = some (.slice mo mn mc) ∧ w'.cell? ⟨z, 3, none⟩ = some (.int .i64 cut)) (first | exact ⟨c0, c1, c2, c3⟩ | go_keep) (fail)
  have hG0 := grown_trans ga (grown_drew w0 none) (by simp)
  clear c0 c1 c2 c3 ga
  generalize w0.drew = w1 at *
  have hLa := large_any w1 300 ao n cap l (ha.grown hG0)
  have hno := large_no (most := 300) (l := l)
  generalize largeB 300 l = A at *
  go_wp2_with fail
  refine hLa.mono ?_
  rintro e w1' ⟨rfl, hw⟩
  obtain rfl : w1 = w1' := hw.symm
  clear hw hLa
  cases A
  · obtain ⟨hn, hb⟩ := hno rfl
    rw [hl1] at hn
    have hbM : ∀ r ∈ l, r.kn ≤ 1048576 ∧ r.vn ≤ 1048576 := fun r hr => by have := hb r hr; omega
    have hSm : Small l := ⟨by omega, hbM⟩
    clear hno
    by_cases hbig : 70000 < mn
    · have hz0 : decide ((70000 : Int) < (mn : Int)) = true := by simp; omega
      go_wp2_with fail
      refine (known_any _).mono ?_
      rintro e wk ⟨rfl, hgk⟩
      have hGk := grown_trans hG0 hgk (by simp)
      go_wp2
      go_ret
      exact ⟨rfl, hGk⟩
    · have hz0 : decide ((70000 : Int) < (mn : Int)) = false := by simp; omega
      have hBpM : Bp w mo mn mc Mo := ⟨hmo, hma, by omega, hmo.top⟩
      go_wp2_with fail
      by_cases hm : (measR base l).2 = 0
      · have hgd := rk_good ha.shows
        obtain ⟨hGood, hWh, hBB, hCC⟩ := bat_whole hgd hm
        obtain ⟨_, _, _, hN4, _⟩ := fits_ok (meas_ok hm).1
        have hbl : (batB base l).length = 20 + szs l := bat_len hGood
        have hEx := ext_bat hgd hm Mo
        refine (put_ok _ base ao n cap l (ha.grown hG0) hSm hm).mono ?_
        rintro e w2 ⟨gb, rfl, ho2, hg2⟩
        have hG2 := grown_trans hG0 hg2 (by simp)
        obtain ⟨N, hN⟩ : ∃ N, Hid (N = 20 + szs l) := ⟨20 + szs l, (rfl : _ = _)⟩
        obtain ⟨B, hB⟩ : ∃ B, Hid (B = batB base l) := ⟨batB base l, (rfl : _ = _)⟩
        rw [← hN.out, ← hB.out] at ho2 hbl hEx hWh
        rw [← hB.out] at hBB hCC
        rw [← hN.out] at hN4
        have hN0 : 20 ≤ N := by have := hN.out; omega
        rw [show (20 + szs l : Nat) = N from hN.out.symm]
        have hNz : ((N : Int) == 0) = false := by simp; omega
        have hNn : ¬ (N : Int) = 0 := by omega
        have hs2 := hG2.size
        go_wp2_with (at_builtin; refine wpList_append_bs _ rfl _ _ 31 rfl w2.heap.size 5 Try.underlying31 Try.info5 rfl (Ow.nil _ _ _) rfl ho2.shows (by omega) (Nat.le_refl _) ?_)
        intro am cm w3 ho3 hg3
        have hG3 := grown_trans hG2 hg3 (by simp [blk])
        have hob3 := ho2.kept hg3 (by right; simp [blk])
        have hs3 := hg3.size
        have hgb0 := (ho2.from_base gb rfl).2
        clear ho2 hg2
        go_wp2_with (at_builtin; refine wpList_append_bs _ rfl _ _ 31 rfl w2.heap.size 5 Try.underlying31 Try.info5 rfl ho3 rfl (hmo.grown hG3) (by omega) (by omega) ?_)
        intro aq cq w4 ho4 hg4
        have hG4 := grown_trans hG3 hg4 (fun q hq => Or.inr (by have := (ho3.from_base q hq).1; omega))
        have hob4 := hob3.kept hg4 (by
          right
          intro e
          have h1 := ho3.from_base gb e.symm
          have h2 := hob3.from_base gb rfl
          have h3 := hgb0
          omega)
        have hs4 := hg4.size
        obtain ⟨gq, rfl, hgq1, hgq2⟩ := ho4.addr (by omega)
        have htk : (B ++ Mo).take N = B := List.take_left' hbl
        have hRY := read_yes w4 gq 0 (N + mn) cq 0 N (B ++ Mo) ho4.shows (Nat.zero_le _) (by omega) ho4.shows.top (by rw [List.drop_zero]; exact hEx) (by omega) (by rw [List.drop_zero, htk]; exact hWh)
        rw [List.drop_zero, htk, hBB, hCC, hl1] at hRY
        clear ho3 ho4 hg3 hg4 hob3 hEx hWh
        go_wp2_with fail
        refine hRY.mono ?_
        rintro e w5 ⟨gx, bx, rs, rfl, r1, r2, hRx, hSx, hOx, hg5⟩
        have hG5 := grown_trans hG4 hg5 (by simp)
        have hob5 := hob4.grown hg5
        have hrk : ∀ r ∈ rs, Rk w5 r := fun r hr => (hOx r hr).rk
        have hRs5 := hRx.shows hrk
        have hrl : rs.length = n := hRx.len
        have hdd : ds rs = ds l := back_ds (w' := w5) ha.shows hm (by omega) (by rw [← hB.out]; exact hSx)
        have ga5 := alloc_grown w5 (.cells #[.int .i64 base, .slice (some ⟨gx, 0, none⟩) n n] 35)
        have kk := heap_alloc_new w5 (.cells #[.int .i64 base, .slice (some ⟨gx, 0, none⟩) n n] 35)
        have x0 := cell_of (i := 0) (v := .int .i64 base) kk rfl
        have x1 := cell_of (i := 1) (v := .slice (some ⟨gx, 0, none⟩) n n) kk rfl
        have hGa := grown_trans hG5 ga5 (by simp)
        have hoba := hob5.grown ga5
        have hSA := sameAll_any _ (some ⟨gx, 0, none⟩) ao n n n cap rs l (hRs5.grown ga5) (ha.grown hGa)
        rw [show sameAllB rs l = true by unfold sameAllB; simp [hdd]] at hSA
        clear hRY hRx hSx hOx hrk hRs5 hdd kk hob4 hob5 hg5
        go_wp2_with fail
        generalize w5.alloc (.cells #[.int .i64 base, .slice (some ⟨gx, 0, none⟩) n n] 35) = wa at *
        generalize w5.heap.size = zx at *
        refine hSA.mono ?_
        rintro e w6 ⟨rfl, hg6⟩
        have hG6 := grown_trans hGa hg6 (by simp)
        have hob6 := hoba.grown hg6
        replace x0 := hg6.cell x0 (by simp)
        replace x1 := hg6.cell x1 (by simp)
        have hbb : (base != base) = false := by simp
        have hNN : ((N : Int) != (N : Int)) = false := by simp
        clear hSA hoba hg6
        obtain ⟨k, hkN, hk⟩ := tmod_neg cut N (by omega)
        have hal : -9223372036854775808 < cut.tmod (N : Int) ∧ cut.tmod (N : Int) < 9223372036854775808 := by rcases hk with h | ⟨h, h'⟩ <;> omega
        obtain ⟨hal1, hal2⟩ := hal
        rcases hk with hk | ⟨hkz, hk⟩
        · by_cases hk0 : 0 < k
          · have hkp : decide ((0 : Int) < (k : Int)) = true := by simp; omega
            have hTN : NoAt (B.take k) 151 := ⟨by omega, Or.inl (by rw [hB.out, torn hgd hm hk0 (by have := hN.out; omega)])⟩
            have hTB : Bp w6 (some ⟨gb, 0, none⟩) k N (B.take k) := ⟨(hob6.shows).take k (by omega), fun a ha => ⟨gb, 0, (Option.some.inj ha).symm⟩, by omega, by omega⟩
            have hRT := read_no w6 _ k N 0 (B.take k) 151 hTB (Nat.zero_le _) (by rw [List.drop_zero]; exact hTN)
            have j9 : (k : Int) ≤ (N : Int) := by omega
            clear hTN hTB
            go_wp2_with fail
            refine hRT.mono ?_
            rintro e w7 ⟨rfl, hg7⟩
            have hG7 := grown_trans hG6 hg7 (by simp)
            have ga7 := alloc_grown w7 (.cells #[.int .i64 0, .slice none 0 0] 35)
            have hGC := grown_trans hG7 ga7 (by simp)
            clear hRT hob6
            go_wp2_with fail
            generalize w7.alloc (.cells #[.int .i64 0, .slice none 0 0] 35) = wc at *
            have hRA2 := read_any wc mo mn mc 0 Mo (hBpM.grown hGC) (Nat.zero_le _)
            rw [List.drop_zero] at hRA2
            go_wp2_with fail
            refine hRA2.mono ?_
            clear hRA2
            rintro e w8 ⟨hg8, ⟨C, hNo, rfl⟩ | ⟨S, gy, by', ys, hE, hW, rfl, hgy, hby, hRy, hSy, hOy⟩⟩
            · have hG8 := grown_trans hGC hg8 (by simp)
              have hC0 : (C != 0) = true := by simpa using hNo.1
              have kk := heap_alloc_new w8 (.cells #[.int .i64 0, .slice none 0 0] 35)
              have ga := alloc_grown w8 (.cells #[.int .i64 0, .slice none 0 0] 35)
              have x0 := cell_of (i := 0) (v := .int .i64 0) kk rfl
              have x1 := cell_of (i := 1) (v := .slice none 0 0) kk rfl
              have hG9 := grown_trans hG8 ga (by simp)
              clear hNo kk
              go_wp2_with fail
              refine (known_any _).mono ?_
              rintro e wk ⟨rfl, hgk⟩
              have hGk := grown_trans hG9 hgk (by simp)
              go_wp2
              go_ret
              exact ⟨rfl, hGk⟩
            · have hG8 := grown_trans hGC hg8 (by simp)
              have hyk : ∀ r ∈ ys, Rk w8 r := fun r hr => (hOy r hr).rk
              obtain ⟨s1, s2, s3, s4⟩ := extR_ok hE
              have hBl : (Mo.take S).length = S := by rw [List.length_take]; omega
              have h4 : (Mo.take S).length = 4 + val ((Mo.take S).take 4) := by rw [List.take_take, Nat.min_eq_left (by omega), hBl]; exact s4
              clear s4
              have hys : ys.length = cAt (Mo.take S) := hRy.len
              have hme := read_meas hBl hW hys hyk hSy
              have hcan : batB (bAt (Mo.take S)) ys = Mo.take S := canon (by rw [hBl]; exact hW) h4 hys (fun j r hjr => by
                have hm := List.mem_of_getElem? hjr
                refine ⟨(hyk r hm).key.len, (hyk r hm).value.len, hSy j r.d ?_⟩
                unfold ds
                rw [List.getElem?_map, hjr]
                rfl)
              have hyS : 20 + szs ys = S := by rw [← bat_len (base := bAt (Mo.take S)) (bat_whole (rk_good hyk) hme).1, hcan]; exact hBl
              obtain ⟨q1, q2, q3, q4, q5⟩ := fits_ok (meas_ok hme).1
              have hysm : Small ys := ⟨by omega, fun r hr => by have := may_small (List.all_eq_true.1 q1 r hr); omega⟩
              have hYp := fun W (hW : w8.grownBy W none) => put_ok W (bAt (Mo.take S)) _ _ _ ys ((hRy.shows hyk).grown hW) hysm hme
              rw [hcan, hyS] at hYp
              obtain ⟨mb, mf, rfl, hmb⟩ := hBpM.bs.addr (by omega)
              have hmr := hBpM.bs.room
              have hmt : Bs w (some ⟨mb, mf, none⟩) S mc (Mo.take S) := hBpM.bs.take S (by rw [hml] at s3; exact s3)
              have hSn : S ≤ mn := by rw [hml] at s3; exact s3
              have j1 : (S : Int) ≤ (mc : Int) := by omega
              have j2 : S ≤ mc := by omega
              generalize bAt (Mo.take S) = BA at *
              generalize cAt (Mo.take S) = CA at *
              generalize Mo.take S = MB at *
              have kk := heap_alloc_new w8 (.cells #[.int .i64 BA, .slice (some ⟨gy, 0, none⟩) CA CA] 35)
              have ga := alloc_grown w8 (.cells #[.int .i64 BA, .slice (some ⟨gy, 0, none⟩) CA CA] 35)
              have x0 := cell_of (i := 0) (v := .int .i64 BA) kk rfl
              have x1 := cell_of (i := 1) (v := .slice (some ⟨gy, 0, none⟩) CA CA) kk rfl
              have hG9 := grown_trans hG8 ga (by simp)
              have hYp9 := hYp _ ga
              clear hyk hRy hSy hOy hE hW hme hcan hyS q1 q2 q3 q4 q5 hysm hYp kk
              go_wp2_with fail
              generalize w8.alloc (.cells #[.int .i64 BA, .slice (some ⟨gy, 0, none⟩) CA CA] 35) = w9 at *
              generalize w8.heap.size = zy at *
              refine hYp9.mono ?_
              rintro e w10 ⟨gk, rfl, hok, hg10⟩
              have hG10 := grown_trans hG9 hg10 (by simp)
              have hGd := grown_trans hG10 (grown_drew w10 none) (by simp)
              have hst : ∀ W, w10.grownBy W none → (convert 31 9 (.slice (some ⟨gk, 0, none⟩) S S)).run Try.prog W = .ok (.string ⟨MB.toArray⟩) W ∧ (convert 31 9 (.slice (some ⟨mb, mf, none⟩) S mc)).run Try.prog W = .ok (.string ⟨MB.toArray⟩) W := fun W hW =>
                ⟨run_string_bs (P := Try.prog) W 31 9 5 Try.underlying31 Try.underlying5 Try.underlying9 (hok.shows.grown hW), run_string_bs (P := Try.prog) W 31 9 5 Try.underlying31 Try.underlying5 Try.underlying9 (hmt.grown (grown_trans hG10 hW (by simp)))⟩
              clear hYp9 x0 x1 hok
              go_wp2_with fail
              go_region_held3 (fun w' => (convert 31 9 (.slice (some ⟨gk, 0, none⟩) S S)).run Try.prog w' = .ok (.string ⟨MB.toArray⟩) w' ∧ (convert 31 9 (.slice (some ⟨mb, mf, none⟩) S mc)).run Try.prog w' = .ok (.string ⟨MB.toArray⟩) w') (first | exact hst _ hgd | exact hst _ (grown_drew w10 none) | exact hst _ (grown_drewN w10 1 none) | exact hst _ (grown_refl _ _)) ((go_at_call 10; refine (known_any _).mono ?_; rintro e wk ⟨rfl, hgk⟩; have hgd : w10.grownBy wk none := grown_trans (grown_drewN w10 1 none) hgk (by simp)))
              all_goals
                have hGk := grown_trans hG10 hgd (by simp)
                clear hst
                go_wp2
                go_ret
                exact ⟨rfl, hGk⟩
          · have hkp : decide ((0 : Int) < (k : Int)) = false := by simp; omega
            have hGC := hG6
            clear hob6
            generalize w6 = wc at *
            have hRA2 := read_any wc mo mn mc 0 Mo (hBpM.grown hGC) (Nat.zero_le _)
            rw [List.drop_zero] at hRA2
            go_wp2_with fail
            refine hRA2.mono ?_
            clear hRA2
            rintro e w8 ⟨hg8, ⟨C, hNo, rfl⟩ | ⟨S, gy, by', ys, hE, hW, rfl, hgy, hby, hRy, hSy, hOy⟩⟩
            · have hG8 := grown_trans hGC hg8 (by simp)
              have hC0 : (C != 0) = true := by simpa using hNo.1
              have kk := heap_alloc_new w8 (.cells #[.int .i64 0, .slice none 0 0] 35)
              have ga := alloc_grown w8 (.cells #[.int .i64 0, .slice none 0 0] 35)
              have x0 := cell_of (i := 0) (v := .int .i64 0) kk rfl
              have x1 := cell_of (i := 1) (v := .slice none 0 0) kk rfl
              have hG9 := grown_trans hG8 ga (by simp)
              clear hNo kk
              go_wp2_with fail
              refine (known_any _).mono ?_
              rintro e wk ⟨rfl, hgk⟩
              have hGk := grown_trans hG9 hgk (by simp)
              go_wp2
              go_ret
              exact ⟨rfl, hGk⟩
            · have hG8 := grown_trans hGC hg8 (by simp)
              have hyk : ∀ r ∈ ys, Rk w8 r := fun r hr => (hOy r hr).rk
              obtain ⟨s1, s2, s3, s4⟩ := extR_ok hE
              have hBl : (Mo.take S).length = S := by rw [List.length_take]; omega
              have h4 : (Mo.take S).length = 4 + val ((Mo.take S).take 4) := by rw [List.take_take, Nat.min_eq_left (by omega), hBl]; exact s4
              clear s4
              have hys : ys.length = cAt (Mo.take S) := hRy.len
              have hme := read_meas hBl hW hys hyk hSy
              have hcan : batB (bAt (Mo.take S)) ys = Mo.take S := canon (by rw [hBl]; exact hW) h4 hys (fun j r hjr => by
                have hm := List.mem_of_getElem? hjr
                refine ⟨(hyk r hm).key.len, (hyk r hm).value.len, hSy j r.d ?_⟩
                unfold ds
                rw [List.getElem?_map, hjr]
                rfl)
              have hyS : 20 + szs ys = S := by rw [← bat_len (base := bAt (Mo.take S)) (bat_whole (rk_good hyk) hme).1, hcan]; exact hBl
              obtain ⟨q1, q2, q3, q4, q5⟩ := fits_ok (meas_ok hme).1
              have hysm : Small ys := ⟨by omega, fun r hr => by have := may_small (List.all_eq_true.1 q1 r hr); omega⟩
              have hYp := fun W (hW : w8.grownBy W none) => put_ok W (bAt (Mo.take S)) _ _ _ ys ((hRy.shows hyk).grown hW) hysm hme
              rw [hcan, hyS] at hYp
              obtain ⟨mb, mf, rfl, hmb⟩ := hBpM.bs.addr (by omega)
              have hmr := hBpM.bs.room
              have hmt : Bs w (some ⟨mb, mf, none⟩) S mc (Mo.take S) := hBpM.bs.take S (by rw [hml] at s3; exact s3)
              have hSn : S ≤ mn := by rw [hml] at s3; exact s3
              have j1 : (S : Int) ≤ (mc : Int) := by omega
              have j2 : S ≤ mc := by omega
              generalize bAt (Mo.take S) = BA at *
              generalize cAt (Mo.take S) = CA at *
              generalize Mo.take S = MB at *
              have kk := heap_alloc_new w8 (.cells #[.int .i64 BA, .slice (some ⟨gy, 0, none⟩) CA CA] 35)
              have ga := alloc_grown w8 (.cells #[.int .i64 BA, .slice (some ⟨gy, 0, none⟩) CA CA] 35)
              have x0 := cell_of (i := 0) (v := .int .i64 BA) kk rfl
              have x1 := cell_of (i := 1) (v := .slice (some ⟨gy, 0, none⟩) CA CA) kk rfl
              have hG9 := grown_trans hG8 ga (by simp)
              have hYp9 := hYp _ ga
              clear hyk hRy hSy hOy hE hW hme hcan hyS q1 q2 q3 q4 q5 hysm hYp kk
              go_wp2_with fail
              generalize w8.alloc (.cells #[.int .i64 BA, .slice (some ⟨gy, 0, none⟩) CA CA] 35) = w9 at *
              generalize w8.heap.size = zy at *
              refine hYp9.mono ?_
              rintro e w10 ⟨gk, rfl, hok, hg10⟩
              have hG10 := grown_trans hG9 hg10 (by simp)
              have hGd := grown_trans hG10 (grown_drew w10 none) (by simp)
              have hst : ∀ W, w10.grownBy W none → (convert 31 9 (.slice (some ⟨gk, 0, none⟩) S S)).run Try.prog W = .ok (.string ⟨MB.toArray⟩) W ∧ (convert 31 9 (.slice (some ⟨mb, mf, none⟩) S mc)).run Try.prog W = .ok (.string ⟨MB.toArray⟩) W := fun W hW =>
                ⟨run_string_bs (P := Try.prog) W 31 9 5 Try.underlying31 Try.underlying5 Try.underlying9 (hok.shows.grown hW), run_string_bs (P := Try.prog) W 31 9 5 Try.underlying31 Try.underlying5 Try.underlying9 (hmt.grown (grown_trans hG10 hW (by simp)))⟩
              clear hYp9 x0 x1 hok
              go_wp2_with fail
              go_region_held3 (fun w' => (convert 31 9 (.slice (some ⟨gk, 0, none⟩) S S)).run Try.prog w' = .ok (.string ⟨MB.toArray⟩) w' ∧ (convert 31 9 (.slice (some ⟨mb, mf, none⟩) S mc)).run Try.prog w' = .ok (.string ⟨MB.toArray⟩) w') (first | exact hst _ hgd | exact hst _ (grown_drew w10 none) | exact hst _ (grown_drewN w10 1 none) | exact hst _ (grown_refl _ _)) ((go_at_call 10; refine (known_any _).mono ?_; rintro e wk ⟨rfl, hgk⟩; have hgd : w10.grownBy wk none := grown_trans (grown_drewN w10 1 none) hgk (by simp)))
              all_goals
                have hGk := grown_trans hG10 hgd (by simp)
                clear hst
                go_wp2
                go_ret
                exact ⟨rfl, hGk⟩
        · by_cases hk0 : 0 < k
          · have hkp : decide ((0 : Int) < (k : Int)) = true := by simp; omega
            have hTN : NoAt (B.take k) 151 := ⟨by omega, Or.inl (by rw [hB.out, torn hgd hm hk0 (by have := hN.out; omega)])⟩
            have hTB : Bp w6 (some ⟨gb, 0, none⟩) k N (B.take k) := ⟨(hob6.shows).take k (by omega), fun a ha => ⟨gb, 0, (Option.some.inj ha).symm⟩, by omega, by omega⟩
            have hRT := read_no w6 _ k N 0 (B.take k) 151 hTB (Nat.zero_le _) (by rw [List.drop_zero]; exact hTN)
            have j9 : (k : Int) ≤ (N : Int) := by omega
            clear hTN hTB
            go_wp2_with fail
            refine hRT.mono ?_
            rintro e w7 ⟨rfl, hg7⟩
            have hG7 := grown_trans hG6 hg7 (by simp)
            have ga7 := alloc_grown w7 (.cells #[.int .i64 0, .slice none 0 0] 35)
            have hGC := grown_trans hG7 ga7 (by simp)
            clear hRT hob6
            go_wp2_with fail
            generalize w7.alloc (.cells #[.int .i64 0, .slice none 0 0] 35) = wc at *
            have hRA2 := read_any wc mo mn mc 0 Mo (hBpM.grown hGC) (Nat.zero_le _)
            rw [List.drop_zero] at hRA2
            go_wp2_with fail
            refine hRA2.mono ?_
            clear hRA2
            rintro e w8 ⟨hg8, ⟨C, hNo, rfl⟩ | ⟨S, gy, by', ys, hE, hW, rfl, hgy, hby, hRy, hSy, hOy⟩⟩
            · have hG8 := grown_trans hGC hg8 (by simp)
              have hC0 : (C != 0) = true := by simpa using hNo.1
              have kk := heap_alloc_new w8 (.cells #[.int .i64 0, .slice none 0 0] 35)
              have ga := alloc_grown w8 (.cells #[.int .i64 0, .slice none 0 0] 35)
              have x0 := cell_of (i := 0) (v := .int .i64 0) kk rfl
              have x1 := cell_of (i := 1) (v := .slice none 0 0) kk rfl
              have hG9 := grown_trans hG8 ga (by simp)
              clear hNo kk
              go_wp2_with fail
              refine (known_any _).mono ?_
              rintro e wk ⟨rfl, hgk⟩
              have hGk := grown_trans hG9 hgk (by simp)
              go_wp2
              go_ret
              exact ⟨rfl, hGk⟩
            · have hG8 := grown_trans hGC hg8 (by simp)
              have hyk : ∀ r ∈ ys, Rk w8 r := fun r hr => (hOy r hr).rk
              obtain ⟨s1, s2, s3, s4⟩ := extR_ok hE
              have hBl : (Mo.take S).length = S := by rw [List.length_take]; omega
              have h4 : (Mo.take S).length = 4 + val ((Mo.take S).take 4) := by rw [List.take_take, Nat.min_eq_left (by omega), hBl]; exact s4
              clear s4
              have hys : ys.length = cAt (Mo.take S) := hRy.len
              have hme := read_meas hBl hW hys hyk hSy
              have hcan : batB (bAt (Mo.take S)) ys = Mo.take S := canon (by rw [hBl]; exact hW) h4 hys (fun j r hjr => by
                have hm := List.mem_of_getElem? hjr
                refine ⟨(hyk r hm).key.len, (hyk r hm).value.len, hSy j r.d ?_⟩
                unfold ds
                rw [List.getElem?_map, hjr]
                rfl)
              have hyS : 20 + szs ys = S := by rw [← bat_len (base := bAt (Mo.take S)) (bat_whole (rk_good hyk) hme).1, hcan]; exact hBl
              obtain ⟨q1, q2, q3, q4, q5⟩ := fits_ok (meas_ok hme).1
              have hysm : Small ys := ⟨by omega, fun r hr => by have := may_small (List.all_eq_true.1 q1 r hr); omega⟩
              have hYp := fun W (hW : w8.grownBy W none) => put_ok W (bAt (Mo.take S)) _ _ _ ys ((hRy.shows hyk).grown hW) hysm hme
              rw [hcan, hyS] at hYp
              obtain ⟨mb, mf, rfl, hmb⟩ := hBpM.bs.addr (by omega)
              have hmr := hBpM.bs.room
              have hmt : Bs w (some ⟨mb, mf, none⟩) S mc (Mo.take S) := hBpM.bs.take S (by rw [hml] at s3; exact s3)
              have hSn : S ≤ mn := by rw [hml] at s3; exact s3
              have j1 : (S : Int) ≤ (mc : Int) := by omega
              have j2 : S ≤ mc := by omega
              generalize bAt (Mo.take S) = BA at *
              generalize cAt (Mo.take S) = CA at *
              generalize Mo.take S = MB at *
              have kk := heap_alloc_new w8 (.cells #[.int .i64 BA, .slice (some ⟨gy, 0, none⟩) CA CA] 35)
              have ga := alloc_grown w8 (.cells #[.int .i64 BA, .slice (some ⟨gy, 0, none⟩) CA CA] 35)
              have x0 := cell_of (i := 0) (v := .int .i64 BA) kk rfl
              have x1 := cell_of (i := 1) (v := .slice (some ⟨gy, 0, none⟩) CA CA) kk rfl
              have hG9 := grown_trans hG8 ga (by simp)
              have hYp9 := hYp _ ga
              clear hyk hRy hSy hOy hE hW hme hcan hyS q1 q2 q3 q4 q5 hysm hYp kk
              go_wp2_with fail
              generalize w8.alloc (.cells #[.int .i64 BA, .slice (some ⟨gy, 0, none⟩) CA CA] 35) = w9 at *
              generalize w8.heap.size = zy at *
              refine hYp9.mono ?_
              rintro e w10 ⟨gk, rfl, hok, hg10⟩
              have hG10 := grown_trans hG9 hg10 (by simp)
              have hGd := grown_trans hG10 (grown_drew w10 none) (by simp)
              have hst : ∀ W, w10.grownBy W none → (convert 31 9 (.slice (some ⟨gk, 0, none⟩) S S)).run Try.prog W = .ok (.string ⟨MB.toArray⟩) W ∧ (convert 31 9 (.slice (some ⟨mb, mf, none⟩) S mc)).run Try.prog W = .ok (.string ⟨MB.toArray⟩) W := fun W hW =>
                ⟨run_string_bs (P := Try.prog) W 31 9 5 Try.underlying31 Try.underlying5 Try.underlying9 (hok.shows.grown hW), run_string_bs (P := Try.prog) W 31 9 5 Try.underlying31 Try.underlying5 Try.underlying9 (hmt.grown (grown_trans hG10 hW (by simp)))⟩
              clear hYp9 x0 x1 hok
              go_wp2_with fail
              go_region_held3 (fun w' => (convert 31 9 (.slice (some ⟨gk, 0, none⟩) S S)).run Try.prog w' = .ok (.string ⟨MB.toArray⟩) w' ∧ (convert 31 9 (.slice (some ⟨mb, mf, none⟩) S mc)).run Try.prog w' = .ok (.string ⟨MB.toArray⟩) w') (first | exact hst _ hgd | exact hst _ (grown_drew w10 none) | exact hst _ (grown_drewN w10 1 none) | exact hst _ (grown_refl _ _)) ((go_at_call 10; refine (known_any _).mono ?_; rintro e wk ⟨rfl, hgk⟩; have hgd : w10.grownBy wk none := grown_trans (grown_drewN w10 1 none) hgk (by simp)))
              all_goals
                have hGk := grown_trans hG10 hgd (by simp)
                clear hst
                go_wp2
                go_ret
                exact ⟨rfl, hGk⟩
          · exfalso; omega
      · refine (put_not _ base ao n cap l (ha.grown hG0) hSm hm).mono ?_
        rintro e w2 ⟨rfl, hg2⟩
        have hG2 := grown_trans hG0 hg2 (by simp)
        generalize (measR base l).2 = MC at *
        have hmb : (MC != 0) = true := by simpa using hm
        go_wp2_with fail
        refine (known_any _).mono ?_
        rintro e wk ⟨rfl, hgk⟩
        have hGk := grown_trans hG2 hgk (by simp)
        go_wp2
        go_ret
        exact ⟨rfl, hGk⟩
  · clear hno
    go_wp2_with fail
    refine (known_any _).mono ?_
    rintro e wk ⟨rfl, hgk⟩
    have hGk := grown_trans hG0 hgk (by simp)
    go_wp2
    go_ret
    exact ⟨rfl, hGk⟩
end Go.Proofs.Ytlfgikhjcimppaa
