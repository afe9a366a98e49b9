/-
  stops: the law's vast, the document's Ways, its crash in one word.
-/
import Derived.Test.YtgkeflgfnagnjaaZax
namespace Go.Proofs.Ytgkeflgfnagnjaa
open Go.RowKit Go.Maps
set_option linter.unusedVariables false
set_option maxRecDepth 100000

/-- Is it more than is done? -/
def vstB (n : Nat) (X : List Ox) : Bool := decide (100 < n) || X.any (fun u => decide (2000 < u.bn))
set_option maxHeartbeats 2000000 in
theorem vast_any {w : World} (so : Option Addr) (n sc : Nat) (X : List Ox) (hX : Oc w so n X) : Calls Try.prog 8 #[.slice so n sc] w fun e w' => e = .returned (.bool (vstB n X)) ∧ w.grownBy w' none := by
  have hlen : HidO (X.length = n) := hX.len
  obtain ⟨B, hB⟩ : ∃ B, vstB n X = B := ⟨_, rfl⟩
  rw [hB]
  unfold vstB at hB
  replace hB : HidO _ := hB
  go_enter Try.func8, Try.ntmps8
  by_cases hn : 100 < n
  · have d1 : decide ((100 : Int) < (n : Int)) = true := by simp; omega
    have d2 : decide (100 < n) = true := by simpa using hn
    obtain rfl : B = true := by rw [← hB.out, d2]; rfl
    clear hn
    go_wp2
    go_ret
    exact ⟨rfl, grown_refl _ _⟩
  · have d1 : decide ((100 : Int) < (n : Int)) = false := by simp; omega
    have d2 : decide (100 < n) = false := by simpa using hn
    have hB2 : HidO (X.any (fun u => decide (2000 < u.bn)) = B) := by show _ = _; rw [← hB.out, d2]; rfl
    have hn2 : n ≤ 100 := by omega
    clear hn
    go_wp2_with fail
    go_loopw [3] (fun v3 wr => ∃ j : Nat, v3 = .int .i64 j ∧ j ≤ n ∧ HidO ((X.take j).any (fun u => decide (2000 < u.bn)) = false) ∧ w.grownBy wr none) (fun v3 _ => n - (intOf v3).toNat)
    case atStart => exact ⟨0, rfl, Nat.zero_le _, by show _ = _; simp, grown_refl _ _⟩
    case round =>
      obtain ⟨j, rfl, hj, hz, hg⟩ := hrel
      by_cases hlt : j < n
      · have d3 : decide ((j : Int) < (n : Int)) = true := by simp; omega
        have d4 : decide (j < n) = true := by simpa using hlt
        obtain ⟨u, hu⟩ : ∃ u, X[j]? = some u := ⟨_, List.getElem?_eq_getElem (by have := hlen.out; omega)⟩
        obtain ⟨g, o, rfl, hcs⟩ := (hX.grown hg).pl (by omega)
        obtain ⟨_, _, q2⟩ := hcs j _ hu
        have i1 : (0 : Int) ≤ (j : Int) := by omega
        have i2 : (j : Int) < (n : Int) := by omega
        have hts : HidO ((X.take (j + 1)).any (fun u => decide (2000 < u.bn)) = ((X.take j).any (fun u => decide (2000 < u.bn)) || decide (2000 < u.bn))) := by
          show _ = _
          rw [take_snocO hu]
          simp
        have hin : HidO (u ∈ X) := List.mem_of_getElem? hu
        obtain ⟨kd, s, bo, bn, bc, x⟩ := u
        dsimp only at q2 hts
        clear hcs hu
        by_cases hb : 2000 < bn
        · have d5 : decide ((2000 : Int) < (bn : Int)) = true := by simp; omega
          have d6 : decide (2000 < bn) = true := by simpa using hb
          have hBt : HidO (B = true) := by
            show _ = _
            rw [← hB2.out, List.any_eq_true]
            exact ⟨_, hin.out, d6⟩
          clear hb hz hts
          go_wp2
          go_ret
          exact ⟨by rw [hBt.out]; rfl, hg⟩
        · have d5 : decide ((2000 : Int) < (bn : Int)) = false := by simp; omega
          have d6 : decide (2000 < bn) = false := by simpa using hb
          have hz2 : HidO ((X.take (j + 1)).any (fun u => decide (2000 < u.bn)) = false) := by show _ = _; rw [hts.out, hz.out, d6]; rfl
          clear hb hz hts
          go_wp2
          go_roundw
          case rel => exact ⟨j + 1, by go_num, by omega, hz2, hg⟩
          case measure => simp [intOf]; omega
      · have d3 : decide ((j : Int) < (n : Int)) = false := by simp; omega
        have d4 : decide (j < n) = false := by simpa using hlt
        have hBf : HidO (B = false) := by
          show _ = _
          have := hz.out
          rw [List.take_of_length_le (by have := hlen.out; omega), hB2.out] at this
          exact this
        clear hz
        go_wp2
        go_ret
        exact ⟨by rw [hBf.out]; rfl, hg⟩
theorem vst_no {n : Nat} {X : List Ox} (h : vstB n X = false) : n ≤ 100 ∧ ∀ u ∈ X, u.bn ≤ 2000 := by
  unfold vstB at h
  simp only [Bool.or_eq_false_iff, decide_eq_false_iff_not, List.any_eq_false, decide_eq_true_eq] at h
  exact ⟨by omega, fun u hu => by have := h.2 u hu; omega⟩
/-- How many ways the files can go. -/
def prodR (L : List Rf) : Nat := prodW ((L.map Rf.td).map unsT)
theorem prodR_uns (L : List Rf) : prodR L = prodW (unsF L) := by
  unfold prodR unsF unsL
  induction (L.map Rf.td).map unsT with
  | nil => rfl
  | cons u t ih =>
    rw [List.filter_cons]
    split
    · simp only [prodW]; rw [ih]
    · rename_i hu
      obtain ⟨a, k⟩ := u
      cases a with
      | true => simp at hu
      | false =>
        simp at hu
        subst hu
        simp only [prodW]
        rw [ih]
        simp [wayN]
/-- What the document's Ways tells. -/
def wyV (L : List Rf) : Int := if prodR L ≤ 4611686018427387904 then (prodR L : Int) else 4611686018427387905
section
variable {w : World} {T : Nat → Prop} {rb : Nat} {L : List Rf} {fs : List (Int × Int)} {st : Int}
set_option maxHeartbeats 4000000 in
theorem ways_r (h : Rv w T rb L fs st) (hl : L.length ≤ 4000) (hsz : ∀ f ∈ L, f.la ≤ f.bs.length ∧ f.bs.length ≤ 1000000) :
    Calls Try.prog 11 #[.pointer (some ⟨rb, 0, none⟩), .int .i64 4611686018427387904] w fun e w' => e = .returned (.int .i64 (wyV L)) ∧ w.grownBy w' none := by
  obtain ⟨ao, ac, fo, fn, fc, c0, _, _, _, hr, _⟩ := h.cells
  have hrm := hr.room
  unfold maxLen at hrm
  obtain ⟨hrm1, hrm2⟩ := hrm
  have HR : HidO _ := hr
  have HS : HidO _ := hsz
  clear hr h hsz
  obtain ⟨V, hV⟩ : ∃ V, wyV L = V := ⟨_, rfl⟩
  rw [hV]
  unfold wyV at hV
  replace hV : HidO _ := hV
  go_enter Try.func11, Try.ntmps11
  go_wp2_with fail
  go_loopw [5, 6] (fun v5 v6 wr => ∃ (i z : Nat), v6 = .int .i64 i ∧ v5 = .int .i64 z ∧ i ≤ L.length ∧ z ≤ 4611686018427387904 ∧ HidO (z = prodW (((L.map Rf.td).map unsT).take i)) ∧ w.grownBy wr none) (fun _ v6 _ => L.length - (intOf v6).toNat)
  case atStart => exact ⟨0, 1, rfl, rfl, Nat.zero_le _, by omega, rfl, grown_refl _ _⟩
  case round =>
    obtain ⟨i, z, rfl, rfl, hi, hz62, hz, hgw⟩ := hrel
    have c0r := hgw.cell c0 (by simp)
    have hrr := HR.out.own hgw (fun r e => by cases e)
    by_cases hlt : i < L.length
    · have dl : decide ((i : Int) < (L.length : Int)) = true := by simp; omega
      have dl2 : decide (i < L.length) = true := by simpa using hlt
      obtain ⟨f, hf⟩ : ∃ f, L[i]? = some f := ⟨_, List.getElem?_eq_getElem hlt⟩
      obtain ⟨g, rfl, _, _⟩ := hrr.addr (by omega)
      have q0 := hrr.at hf 0 (by decide)
      have q1 := hrr.at hf 1 (by decide)
      have q2 := hrr.at hf 2 (by decide)
      have q3 := hrr.at hf 3 (by decide)
      have q4 := hrr.at hf 4 (by decide)
      simp only [Rf.cells, List.getElem?_cons_zero, List.getElem?_cons_succ, Nat.add_zero] at q0 q1 q2 q3 q4
      have i1 : (0 : Int) ≤ (i : Int) := by omega
      have i2 : (i : Int) < (L.length : Int) := by omega
      have hfs := HS.out f (List.mem_of_getElem? hf)
      have hu : ((L.map Rf.td).map unsT)[i]? = some (unsT f.td) := by rw [List.getElem?_map, List.getElem?_map, hf]; rfl
      have hpt := prodW_take hu
      have hps := prodW_split ((L.map Rf.td).map unsT) (i + 1)
      rw [← hz.out] at hpt
      have hw1 := wayN_pos (unsT f.td).1 (unsT f.td).2
      have hwv : HidO ((wayN (unsT f.td).1 (unsT f.td).2 : Int) = 1 + (if f.th then (f.bs.length : Int) - f.la else 0) + (if (!f.th || !f.nl) = true then 1 else 0)) := by
        show _ = _
        unfold wayN unsT Rf.td
        cases f.th <;> cases f.nl <;> simp <;> omega
      have hwl : wayN (unsT f.td).1 (unsT f.td).2 ≤ 1000002 := by
        have := hwv.out
        cases h1 : f.th <;> cases h2 : f.nl <;> simp [h1, h2] at this <;> omega
      obtain ⟨wn, hwn⟩ : ∃ wn, wayN (unsT f.td).1 (unsT f.td).2 = wn := ⟨_, rfl⟩
      rw [hwn] at hpt hw1 hwl hwv
      have hszb : (⟨f.bs.toArray⟩ : ByteArray).size = f.bs.length := rfl
      have ga := aGrown wr (.cells #[.string f.s, .string ⟨f.bs.toArray⟩, .int .i64 (f.la : Int), .bool f.th, .bool f.nl] 82)
      have hG1 := grown_trans hgw ga (by simp)
      have hdiv : (z > 4611686018427387904 / wn) ↔ 4611686018427387904 < z * wn := by
        show 4611686018427387904 / wn < z ↔ _
        exact Nat.div_lt_iff_lt_mul (by omega)
      have hq : Int.tdiv 4611686018427387904 (wn : Int) = ((4611686018427387904 / wn : Nat) : Int) := by rfl
      obtain ⟨qd, hqd⟩ : ∃ qd, 4611686018427387904 / wn = qd := ⟨_, rfl⟩
      rw [hqd] at hq hdiv
      have hwne : ((wn : Int) == 0) = false := by simp; omega
      have hwne2 : ¬ (wn : Int) = 0 := by omega
      have hwne3 : ¬ wn = 0 := by omega
      have hq62 : qd ≤ 4611686018427387904 := by rw [← hqd]; exact Nat.div_le_self _ _
      have hpt' : HidO _ := hpt
      have hps' : HidO _ := hps
      obtain ⟨bl, hbl⟩ : ∃ bl, f.bs.length = bl := ⟨_, rfl⟩
      rw [hbl] at hszb hfs hwv
      obtain ⟨la, hla⟩ : ∃ la, f.la = la := ⟨_, rfl⟩
      rw [hla] at q2 hfs hwv ga hG1
      obtain ⟨hf1, hf2⟩ := hfs
      clear hf hrr hu hwn hqd hpt hps hbl hla
      cases hth : f.th with
      | true =>
        rw [hth] at q3 ga hwv
        cases hnl : f.nl with
        | true =>
          rw [hnl] at q4 ga hwv
          rw [hth, hnl] at hG1
          have hw : (1 : Int) + ((bl : Int) - (la : Int)) = (wn : Int) := by have := hwv.out; simp at this; omega
          clear hwv
          by_cases hbig : qd < z
          · have e1 : decide ((qd : Int) < (z : Int)) = true := by simp; omega
            have e2 : decide (qd < z) = true := by simpa using hbig
            have hno : HidO (V = 4611686018427387905) := by
              have h1 := hdiv.1 hbig
              have h2 := hpt'.out
              have h3 := hps'.out
              show _ = _
              rw [← hV.out, if_neg (by unfold prodR; omega)]
            clear hdiv hbig hpt' hps' hz
            go_wp2
            go_ret
            exact ⟨by rw [hno.out]; rfl, hG1⟩
          · have e1 : decide ((qd : Int) < (z : Int)) = false := by simp; omega
            have e2 : decide (qd < z) = false := by simp; omega
            have hle : z * wn ≤ 4611686018427387904 := by have := fun h => hbig (hdiv.2 h); omega
            obtain ⟨pd, hpd⟩ : ∃ pd, z * wn = pd := ⟨_, rfl⟩
            have hmul : (z : Int) * (wn : Int) = (pd : Int) := by rw [← hpd]; simp
            have hz2 : HidO (pd = prodW (((L.map Rf.td).map unsT).take (i + 1))) := by show _ = _; rw [hpt'.out, hpd]
            rw [hpd] at hle
            clear hdiv hbig hpt' hps' hz hpd
            go_wp2
            go_roundw
            case rel => exact ⟨i + 1, pd, by go_num, by first | rfl | go_num, by omega, hle, hz2, hG1⟩
            case measure => simp [intOf]; omega
        | false =>
          rw [hnl] at q4 ga hwv
          rw [hth, hnl] at hG1
          obtain ⟨kn, hkn⟩ : ∃ kn : Nat, (1 : Int) + ((bl : Int) - (la : Int)) = (kn : Int) := ⟨1 + (bl - la), by omega⟩
          have hw : (kn : Int) + 1 = (wn : Int) := by have := hwv.out; simp at this; omega
          have hkl : kn ≤ 1000002 := by omega
          clear hwv
          by_cases hbig : qd < z
          · have e1 : decide ((qd : Int) < (z : Int)) = true := by simp; omega
            have e2 : decide (qd < z) = true := by simpa using hbig
            have hno : HidO (V = 4611686018427387905) := by
              have h1 := hdiv.1 hbig
              have h2 := hpt'.out
              have h3 := hps'.out
              show _ = _
              rw [← hV.out, if_neg (by unfold prodR; omega)]
            clear hdiv hbig hpt' hps' hz
            go_wp2
            go_ret
            exact ⟨by rw [hno.out]; rfl, hG1⟩
          · have e1 : decide ((qd : Int) < (z : Int)) = false := by simp; omega
            have e2 : decide (qd < z) = false := by simp; omega
            have hle : z * wn ≤ 4611686018427387904 := by have := fun h => hbig (hdiv.2 h); omega
            obtain ⟨pd, hpd⟩ : ∃ pd, z * wn = pd := ⟨_, rfl⟩
            have hmul : (z : Int) * (wn : Int) = (pd : Int) := by rw [← hpd]; simp
            have hz2 : HidO (pd = prodW (((L.map Rf.td).map unsT).take (i + 1))) := by show _ = _; rw [hpt'.out, hpd]
            rw [hpd] at hle
            clear hdiv hbig hpt' hps' hz hpd
            go_wp2
            go_roundw
            case rel => exact ⟨i + 1, pd, by go_num, by first | rfl | go_num, by omega, hle, hz2, hG1⟩
            case measure => simp [intOf]; omega
      | false =>
        rw [hth] at q3 ga hwv
        cases hnl : f.nl with
        | true =>
          rw [hnl] at q4 ga hwv
          rw [hth, hnl] at hG1
          obtain rfl : wn = 2 := by have := hwv.out; simp at this; omega
          have h9 : (qd : Int) = 2305843009213693952 := by rw [← hq]; rfl
          obtain rfl : qd = 2305843009213693952 := by omega
          clear hwv
          by_cases hbig : 2305843009213693952 < z
          · have e1 : decide ((2305843009213693952 : Int) < (z : Int)) = true := by simp; omega
            have e2 : decide (2305843009213693952 < z) = true := by simpa using hbig
            have hno : HidO (V = 4611686018427387905) := by
              have h1 := hdiv.1 hbig
              have h2 := hpt'.out
              have h3 := hps'.out
              show _ = _
              rw [← hV.out, if_neg (by unfold prodR; omega)]
            clear hdiv hbig hpt' hps' hz
            go_wp2
            go_ret
            exact ⟨by rw [hno.out]; rfl, hG1⟩
          · have e1 : decide ((2305843009213693952 : Int) < (z : Int)) = false := by simp; omega
            have e2 : decide (2305843009213693952 < z) = false := by simp; omega
            have hle : z * 2 ≤ 4611686018427387904 := by have := fun h => hbig (hdiv.2 h); omega
            obtain ⟨pd, hpd⟩ : ∃ pd, z * 2 = pd := ⟨_, rfl⟩
            have hmul : (z : Int) * (2 : Int) = (pd : Int) := by rw [← hpd]; simp
            have hz2 : HidO (pd = prodW (((L.map Rf.td).map unsT).take (i + 1))) := by show _ = _; rw [hpt'.out, hpd]
            rw [hpd] at hle
            clear hdiv hbig hpt' hps' hz hpd
            go_wp2
            go_roundw
            case rel => exact ⟨i + 1, pd, by go_num, by first | rfl | go_num, by omega, hle, hz2, hG1⟩
            case measure => simp [intOf]; omega
        | false =>
          rw [hnl] at q4 ga hwv
          rw [hth, hnl] at hG1
          obtain rfl : wn = 2 := by have := hwv.out; simp at this; omega
          have h9 : (qd : Int) = 2305843009213693952 := by rw [← hq]; rfl
          obtain rfl : qd = 2305843009213693952 := by omega
          clear hwv
          by_cases hbig : 2305843009213693952 < z
          · have e1 : decide ((2305843009213693952 : Int) < (z : Int)) = true := by simp; omega
            have e2 : decide (2305843009213693952 < z) = true := by simpa using hbig
            have hno : HidO (V = 4611686018427387905) := by
              have h1 := hdiv.1 hbig
              have h2 := hpt'.out
              have h3 := hps'.out
              show _ = _
              rw [← hV.out, if_neg (by unfold prodR; omega)]
            clear hdiv hbig hpt' hps' hz
            go_wp2
            go_ret
            exact ⟨by rw [hno.out]; rfl, hG1⟩
          · have e1 : decide ((2305843009213693952 : Int) < (z : Int)) = false := by simp; omega
            have e2 : decide (2305843009213693952 < z) = false := by simp; omega
            have hle : z * 2 ≤ 4611686018427387904 := by have := fun h => hbig (hdiv.2 h); omega
            obtain ⟨pd, hpd⟩ : ∃ pd, z * 2 = pd := ⟨_, rfl⟩
            have hmul : (z : Int) * (2 : Int) = (pd : Int) := by rw [← hpd]; simp
            have hz2 : HidO (pd = prodW (((L.map Rf.td).map unsT).take (i + 1))) := by show _ = _; rw [hpt'.out, hpd]
            rw [hpd] at hle
            clear hdiv hbig hpt' hps' hz hpd
            go_wp2
            go_roundw
            case rel => exact ⟨i + 1, pd, by go_num, by first | rfl | go_num, by omega, hle, hz2, hG1⟩
            case measure => simp [intOf]; omega
    · obtain rfl : i = L.length := by omega
      have dl : decide ((L.length : Int) < (L.length : Int)) = false := by simp
      have hM : HidO (z = prodR L) := by show _ = _; rw [hz.out, List.take_of_length_le (by simp)]; rfl
      have hVz : HidO (V = (z : Int)) := by show _ = _; rw [← hV.out, ← hM.out, if_pos hz62]
      clear hz
      go_wp2
      go_ret
      exact ⟨by rw [hVz.out]; rfl, hgw⟩
/-- The document's crash in one word. -/
theorem crashE_r (h : Rv w T rb L fs st) (hl : L.length ≤ 4000) (hsz : ∀ f ∈ L, f.la ≤ f.bs.length ∧ f.bs.length ≤ 1000000) (o : Option Addr) (pn pc : Nat) (l : List Int) (hi : Ip w o pn l) (hpn : pn ≤ 1000000) (hx : ∀ x ∈ l, x < 9223372036854775808) :
    Calls Try.prog 16 #[.pointer (some ⟨rb, 0, none⟩), .slice o pn pc] w fun e w' => ∃ p ao ac vo PP, e = .returned (.tuple #[p, .slice ao PP.length ac, vo, .int .i64 (if negB l = true then 2 else 0)]) ∧ PP = (if negB l = true then [] else (cgs l L).1) ∧ Ip w' ao PP.length PP ∧ w.grownBy w' none := by
  cases hb : negB l with
  | true =>
    have hn : ¬ ∀ x ∈ l, 0 ≤ x := fun hh => by
      unfold negB at hb
      obtain ⟨x, h1, h2⟩ := List.any_eq_true.1 hb
      have := hh x h1
      simp at h2
      omega
    refine (crash_r_neg o pn pc l hi (by omega) hn).mono ?_
    rintro e w2 ⟨rfl, rfl⟩
    exact ⟨_, none, 0, _, [], rfl, rfl, ⟨rfl, fun i x hx => by simp at hx⟩, grown_refl _ _⟩
  | false =>
    have hpos := negB_no hb
    refine (crash_r h hl (fun f hf => by have := hsz f hf; omega) o pn pc l hi (by omega) (fun x hx9 => ⟨hpos x hx9, hx x hx9⟩)).mono ?_
    rintro e w2 ⟨z, vp, vo, rfl, _, hro, hg⟩
    obtain ⟨ao, ac, rfl⟩ := oSlice hro
    have hV : Vo w2 w.heap.size 3 ao (cgs l L).1.length ac ((cgs l L).1.map iv) := ⟨by simp, hro, iv_one _⟩
    exact ⟨_, ao, ac, vo, _, rfl, rfl, (Is'.of_vo hV).ip, hg⟩
end
end Go.Proofs.Ytgkeflgfnagnjaa
