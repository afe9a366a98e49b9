/-
  TimesPlays: the walk.
-/
import Derived.Test.YtmnfdiffneobpaaT21
import Derived.Test.YtmnfdiffneobpaaT23
import Derived.Test.YtmnfdiffneobpaaT24
namespace Go.Proofs.Ytmnfdiffneobpaa
open Go.RowKit Go.Shelf
set_option linter.unusedVariables false

set_option maxRecDepth 100000 in
set_option maxHeartbeats 16000000 in
theorem timesPlays_any {w : World} (bs : Int) (so : Option Addr) (n sc : Nat) (ks : List Ak) (hS : Sx w so n ks) :
    Calls Try.prog 3 #[.int .i64 bs, .slice so n sc] w fun e w' => e = .returned (.bool true) ∧ w.grownBy w' none := by
  have hlen : Hid (ks.length = n) := hS.len
  by_cases hn : 40 < n
  · have d : decide ((40 : Int) < (n : Int)) = true := by simp; omega
    have hwk := works_any w
    go_enter Try.func3, Try.ntmps3
    go_wp2_with fail
    refine hwk.mono ?_
    rintro e w2 ⟨rfl, hg2⟩
    go_wp2
    go_ret
    exact ⟨rfl, hg2⟩
  have d : decide ((40 : Int) < (n : Int)) = false := by simp; omega
  go_enter Try.func3, Try.ntmps3
  go_wp2_with fail
  go_loopw [5] (fun v5 wr => ∃ k : Nat, v5 = .int .i64 k ∧ k ≤ n ∧ Hid (∀ j a, j < k → ks[j]? = some a → a.ln ≤ 100) ∧ wr = w) (fun v5 _ => n - (intOf v5).toNat)
  case atStart => exact ⟨0, rfl, Nat.zero_le _, fun j a hj => by omega, rfl⟩
  case round =>
    obtain ⟨k, rfl, hk, hsm, hwr⟩ := hrel
    replace hwr := hwr.symm
    subst hwr
    by_cases hlt : k < n
    · have d2 : decide ((k : Int) < (n : Int)) = true := by simp; omega
      have d3 : decide (k < n) = true := by simpa using hlt
      obtain ⟨a, ha⟩ : ∃ a, ks[k]? = some a := ⟨_, List.getElem?_eq_getElem (by have := hlen.out; omega)⟩
      obtain ⟨g, o, rfl, hcs⟩ := hS.pl (by omega)
      obtain ⟨-, -, c2, -⟩ := hcs k a ha
      have i1 : (0 : Int) ≤ (k : Int) := by omega
      have i2 : (k : Int) < (n : Int) := by omega
      clear hcs
      by_cases h1 : 100 < a.ln
      · have d4 : decide ((100 : Int) < (a.ln : Int)) = true := by simp; omega
        have hwk := works_any w
        clear ha
        go_wp2_with fail
        refine hwk.mono ?_
        rintro e w2 ⟨rfl, hg2⟩
        go_wp2
        go_ret
        exact ⟨rfl, hg2⟩
      · have d4 : decide ((100 : Int) < (a.ln : Int)) = false := by simp; omega
        have hsm2 : Hid (∀ j b, j < k + 1 → ks[j]? = some b → b.ln ≤ 100) := fun j b hj hb => by
          rcases Nat.lt_or_ge j k with h9 | h9
          · exact hsm.out j b h9 hb
          · obtain rfl : j = k := by omega
            rw [ha] at hb
            cases hb
            omega
        clear ha hsm
        go_wp2
        go_roundw
        case rel => exact ⟨k + 1, by go_num, by omega, hsm2, trivial⟩
        case measure => simp [intOf]; omega
    · have d2 : decide ((k : Int) < (n : Int)) = false := by simp; omega
      have d3 : decide (k < n) = false := by simpa using hlt
      have hsmall : Hid (∀ (j : Nat) (a : Ak), ks[j]? = some a → a.ln ≤ 100) := fun j a ha => hsm.out j a (by have := (List.getElem?_eq_some_iff.1 ha).1; have := hlen.out; omega) ha
      clear hsm
      by_cases hbad : bs < 0 ∨ 9007199254740992 < bs
      · have hnw := new_bad w bs hbad
        by_cases hb1 : bs < 0
        · have d5 : decide (bs < 0) = true := by simpa using hb1
          clear hbad hb1
          go_wp2_with fail
          refine hnw.mono ?_
          rintro e w2 ⟨rfl, hw⟩
          replace hw := hw.symm
          subst hw
          clear hnw
          have hnu := num_any w 2
          go_wp2_with fail
          refine hnu.mono ?_
          rintro e w2 ⟨rfl, hw⟩
          replace hw := hw.symm
          subst hw
          clear hnu
          have hwk := works_any w
          go_wp2_with fail
          refine hwk.mono ?_
          rintro e w2 ⟨rfl, hg2⟩
          go_wp2
          go_ret
          exact ⟨rfl, hg2⟩
        · have d5 : decide (bs < 0) = false := by simpa using hb1
          have d6 : decide (9007199254740992 < bs) = true := by simp; omega
          clear hbad hb1
          go_wp2_with fail
          refine hnw.mono ?_
          rintro e w2 ⟨rfl, hw⟩
          replace hw := hw.symm
          subst hw
          clear hnw
          have hnu := num_any w 2
          go_wp2_with fail
          refine hnu.mono ?_
          rintro e w2 ⟨rfl, hw⟩
          replace hw := hw.symm
          subst hw
          clear hnu
          have hwk := works_any w
          go_wp2_with fail
          refine hwk.mono ?_
          rintro e w2 ⟨rfl, hg2⟩
          go_wp2
          go_ret
          exact ⟨rfl, hg2⟩
      have h0 : 0 ≤ bs := by omega
      have h1 : bs ≤ 9007199254740992 := by omega
      have d5 : decide (bs < 0) = false := by simp; omega
      have d6 : decide (9007199254740992 < bs) = false := by simp; omega
      have hnw := new_ok w bs h0 h1
      clear hbad
      go_wp2_with fail
      refine hnw.mono ?_
      rintro e w1 ⟨rfl, hX1, hg1⟩
      clear hnw
      have hnu := num_any w1 0
      go_wp2_with fail
      refine hnu.mono ?_
      rintro e w2 ⟨rfl, hw⟩
      replace hw := hw.symm
      subst hw
      clear hnu
      have hC0 := Cur.start h0 h1 hX1 hg1
      go_wp2_with fail
      clear hX1 hg1
      generalize w1.alloc (.cells #[.int .i64 bs, .int .i64 bs, .slice none 0 0] 35) = wc at *
      generalize w1.heap.size + 1 = base at *
      generalize w1.heap.size = r at *
      generalize hT0 : w.heap.size = T0 at hC0 ⊢
      clear hT0
      clear d d2 d3 d5 d6 h0 h1 hlt hk
      go_loopw [6, 9, 10, 11] (fun v6 v9 v10 v11 wr => ∃ (k b : Nat) (ro : Option Addr) (rc : Nat) (rr : Option Addr) (rc2 : Nat) (en : Int) (l : List Sd) (T : Nat) (oo : Option Addr) (oc : Nat) (wo : Option Addr) (wc : Nat) (A : List Asd), v11 = .int .i64 k ∧ v6 = .pointer (some ⟨b, 0, none⟩) ∧ v9 = .slice oo A.length oc ∧ v10 = .slice wo A.length wc ∧ k ≤ n ∧ A.length ≤ k ∧ Hid (Cur w wr b ro rc r rr rc2 bs en l (100 * k) base T oo oc wo wc A)) (fun _ _ _ v11 _ => n - (intOf v11).toNat)
      case atStart => exact ⟨0, _, _, _, _, _, _, _, _, _, _, _, _, [], rfl, rfl, rfl, rfl, Nat.zero_le _, Nat.le_refl _, hC0⟩
      case round =>
        clear hC0
        obtain ⟨k, b, ro, rc, rr, rc2, en, l, T, oo, oc, wo, wcc, A, rfl, rfl, rfl, rfl, hk, hAk, hC'⟩ := hrel
        have hC := hC'.out
        clear hC'
        by_cases hlt : k < n
        · have d2 : decide ((k : Int) < (n : Int)) = true := by simp; omega
          have d3 : decide (k < n) = true := by simpa using hlt
          obtain ⟨a, ha⟩ : ∃ a, ks[k]? = some a := ⟨_, List.getElem?_eq_getElem (by have := hlen.out; omega)⟩
          obtain ⟨g, o, rfl, -⟩ := hS.pl (by omega)
          have hat := hS.at (by omega) ha
          have hR := hS.rs a (List.mem_of_getElem? ha)
          have hl1 := hsmall.out k a ha
          obtain ⟨c0, -, -, -⟩ := hat wr hC.g
          have i1 : (0 : Int) ≤ (k : Int) := by omega
          have i2 : (k : Int) < (n : Int) := by omega
          clear ha
          have hat' : Hid _ := hat
          clear hat
          by_cases h7 : a.kd = 7
          · have e7 : (a.kd == 7) = true := by simpa using h7
            clear h7
            have hold := hC.sta.old
            have hwas := hC.sta.was
            have hbas := hC.bs0
            have y0 := hC.bo.y.ix.c0
            have y1 := hC.bo.y.ix.c1
            have y2 := hC.bo.y.ix.c2
            have q1 := alloc_grown wr (.cells #[.pointer (some ⟨b, 0, none⟩)] 27)
            have hone : Vs (wr.alloc (.cells #[.pointer (some ⟨b, 0, none⟩)] 27)) (some ⟨wr.heap.size, 0, none⟩) 1 1 [.pointer (some ⟨b, 0, none⟩)] := Ro.shows (e := 27) (l := [.pointer (some ⟨b, 0, none⟩)]) (World.alloc_heap_new wr _) (by simp [Value.oneCell']) (by simp [maxLen])
            have hold1 := hold.grown q1
            go_wp2_with (at_builtin; refine wpList_append_vs _ rfl _ _ 36 rfl base 27 (.pointer none) 8 Try.underlying36 info27 rfl (by decide) rfl hold1 rfl hone (by omega) (Nat.le_trans hbas q1.size) ?_)
            intro oo2 oc2 w2 ho2 g2
            clear hone hold1 hold
            have hC1 := hC.grown (m' := 100 * k) q1 (Nat.le_refl _)
            have c2 := grown_chg g2
            have hB2 := hC1.bo.rows c2 (fun q hq => .inl (own_ty hC1.sta.old.row hq))
            have z0 := hB2.y.ix.c0
            have z1 := hB2.y.ix.c1
            have z2 := hB2.y.ix.c2
            have hat2 : Hid _ := hat'.out w2 (grown_trans hC1.g g2 (fun q e => .inr (by have := (hC1.sta.old.from_base q e).1; have := hC1.sta.ne; have := hC1.r0; omega)))
            have w2w : Iw w2 base bs wo A.length wcc A := ⟨hwas.len, own_chg hC1.sta.was.row c2 (fun q hq e => (own_ty hC1.sta.was.row hq).ne (own_ty hC1.sta.old.row e) (by decide) rfl)⟩
            have q3 := alloc_grown w2 (.cells #[.int .i64 bs, .int .i64 en, .slice rr l.length rc2] 35)
            have k3 := World.alloc_heap_new w2 (.cells #[.int .i64 bs, .int .i64 en, .slice rr l.length rc2] 35)
            have w3w : Iw (w2.alloc (.cells #[.int .i64 bs, .int .i64 en, .slice rr l.length rc2] 35)) base bs wo A.length wcc A := ⟨w2w.len, own_chg w2w.row (Chg.of_grown q3 (fun _ => False)) (fun _ _ e => e)⟩
            have hb3 : base ≤ (w2.alloc (.cells #[.int .i64 bs, .int .i64 en, .slice rr l.length rc2] 35)).heap.size := Nat.le_trans hbas (Nat.le_trans q1.size (Nat.le_trans g2.size q3.size))
            clear hwas w2w y0 y1 y2 c0
            go_wp2_with (at_builtin; refine wpList_append_ic _ rfl _ _ rfl base bs rfl w3w ⟨b, ro, rc, rr, rc2, en, l⟩ rfl k3 (by omega) hb3 ?_)
            intro wo2 wc2 w4 hw4 g4
            clear k3 z0 z1 z2 hb3
            have hpush := hC.sta.push hC.bo q1 g2 q3 g4 ho2 hw4
            obtain ⟨hst4, hB4⟩ := hpush
            have hG4 : w.grownBy w4 none := grown_trans (grown_trans (grown_trans hC1.g g2 (fun q e => .inr (by have := (hC1.sta.old.from_base q e).1; have := hC1.sta.ne; have := hC1.r0; omega))) q3 (by simp)) g4 (fun q e => .inr (by have := (w3w.from_base q e).1; have := hC1.sta.ne; have := hC1.r0; omega))
            obtain ⟨d0, -, -, -⟩ := hat'.out w4 hG4
            obtain ⟨og, rfl, -, -⟩ := hst4.old.addr (by simp)
            have hoc2 := hst4.old.shows.room
            clear w3w hat2 hB2 c2 hC1
            have hcp := copy_any hB4.x
            go_wp2_with fail
            refine hcp.mono ?_
            rintro e w5 ⟨b2, ro2, rc3, rfl, hx5, hb2, hf2, g5⟩
            have hC5 := hC.turn q1 g2 q3 g4 ho2 hw4 g5 hx5 hb2 hf2
            clear hcp hx5 hb2 hf2 g5 q1 g2 q3 g4 ho2 hw4 hst4 hB4 d0
            have hAt : w5.cell? ⟨og, A.length, none⟩ = some (.pointer (some ⟨b, 0, none⟩)) := by
              have h9 := hC5.sta.old.shows.at (j := A.length) (u := .pointer (some ⟨b, 0, none⟩)) (by simp [Asd.pv])
              rwa [Nat.zero_add] at h9
            have hok5 := (hC5.sta.ok ⟨b, ro, rc, rr, rc2, en, l⟩ (by simp)).1
            have hsm := same_yes hC5.bo.x hok5
            have j1 : (0 : Int) ≤ (A.length : Int) := by omega
            have j2 : (A.length : Int) < (A.length : Int) + 1 := by omega
            have j3 : A.length ≤ 40 := by omega
            clear hok5
            go_wp2_with fail
            refine hsm.mono ?_
            rintro e w7 ⟨rfl, hg7⟩
            have hC7 := hC5.grown (m' := 100 * k) hg7 (Nat.le_refl _)
            clear hsm hAt hC5 hC
            go_wp2_with fail
            refine wp_mono (reg30 _ _ _ _ _ _ _ _ _ _ _ _ _ _ _ _ _ _ _ hC7 (by omega) g o k n sc a hlt hat'.out hR hl1 _ _ _ _ _ _ _ _ _ _ _ _ _ _ _ _ _ _ _ _ _ _ _ _ _ _ _ _ _ _ _ _ _ _ _ _ _ _ _ _ _ _ _ _ _ _ _ _ _ _ _ _ _ _ _ _ _ _ _ _ _ _ _ _ _ _ _ _ _ _ _ _ _ _ _ _ _ _ _ _ _ _ _ _ _ _ _ _ _ _ _ _ _ _ _ _ _ _ _ _ _ _ _ _ _ _ _ _ _ _ _ _ _ _ _ _ _ _ _ _ _ _ _ _ _ _ _ _ _ _ _ _ _ _ _ _ _ _ _ _ _ _ _ _ _ _ _ _ _ _ _ _ _ _ _ _ _ _ _ _ _ _ _ _ _ _ _ _ _ _ _ _ _ _ _ _ _ _ _ _ _ _) ?_
            rintro e a9 w9 ⟨rfl, x126, x127, x128, x129, x130, x131, x132, x133, x134, x135, x136, x137, x138, x139, x140, x141, x142, x143, x144, x145, x146, x147, rfl, hN9⟩
            obtain ⟨en9, l9, ro9, rc9, rr9, rc29, hC9⟩ := hN9
            have hC9' : Hid (Cur w w9 b2 ro9 rc9 r rr9 rc29 bs en9 l9 (100 * (k + 1)) base w4.heap.size (some ⟨og, 0, none⟩) oc2 wo2 wc2 (A ++ [⟨b, ro, rc, rr, rc2, en, l⟩])) := by
              have e9 : 100 * (k + 1) = 100 * k + 100 := by omega
              rw [e9]
              exact hC9
            clear hC9 hC7 hat' hR
            go_wp2
            go_roundw
            case rel => exact ⟨k + 1, _, _, _, _, _, _, _, _, _, _, _, _, _, by go_num, rfl, by simp, by simp, by omega, by simp; omega, hC9'⟩
            case measure => simp [intOf]; omega
          have e7 : (a.kd == 7) = false := by simpa using h7
          by_cases h8 : a.kd = 8
          · have e8 : (a.kd == 8) = true := by simpa using h8
            clear h7 h8
            have hold := hC.sta.old
            have hwas := hC.sta.was
            have hbas := hC.bs0
            have y0 := hC.bo.y.ix.c0
            have y1 := hC.bo.y.ix.c1
            have y2 := hC.bo.y.ix.c2
            have q1 := alloc_grown wr (.cells #[.pointer (some ⟨b, 0, none⟩)] 27)
            have hone : Vs (wr.alloc (.cells #[.pointer (some ⟨b, 0, none⟩)] 27)) (some ⟨wr.heap.size, 0, none⟩) 1 1 [.pointer (some ⟨b, 0, none⟩)] := Ro.shows (e := 27) (l := [.pointer (some ⟨b, 0, none⟩)]) (World.alloc_heap_new wr _) (by simp [Value.oneCell']) (by simp [maxLen])
            have hold1 := hold.grown q1
            go_wp2_with (at_builtin; refine wpList_append_vs _ rfl _ _ 36 rfl base 27 (.pointer none) 8 Try.underlying36 info27 rfl (by decide) rfl hold1 rfl hone (by omega) (Nat.le_trans hbas q1.size) ?_)
            intro oo2 oc2 w2 ho2 g2
            clear hone hold1 hold
            have hC1 := hC.grown (m' := 100 * k) q1 (Nat.le_refl _)
            have c2 := grown_chg g2
            have hB2 := hC1.bo.rows c2 (fun q hq => .inl (own_ty hC1.sta.old.row hq))
            have z0 := hB2.y.ix.c0
            have z1 := hB2.y.ix.c1
            have z2 := hB2.y.ix.c2
            have hat2 : Hid _ := hat'.out w2 (grown_trans hC1.g g2 (fun q e => .inr (by have := (hC1.sta.old.from_base q e).1; have := hC1.sta.ne; have := hC1.r0; omega)))
            have w2w : Iw w2 base bs wo A.length wcc A := ⟨hwas.len, own_chg hC1.sta.was.row c2 (fun q hq e => (own_ty hC1.sta.was.row hq).ne (own_ty hC1.sta.old.row e) (by decide) rfl)⟩
            have q3 := alloc_grown w2 (.cells #[.int .i64 bs, .int .i64 en, .slice rr l.length rc2] 35)
            have k3 := World.alloc_heap_new w2 (.cells #[.int .i64 bs, .int .i64 en, .slice rr l.length rc2] 35)
            have w3w : Iw (w2.alloc (.cells #[.int .i64 bs, .int .i64 en, .slice rr l.length rc2] 35)) base bs wo A.length wcc A := ⟨w2w.len, own_chg w2w.row (Chg.of_grown q3 (fun _ => False)) (fun _ _ e => e)⟩
            have hb3 : base ≤ (w2.alloc (.cells #[.int .i64 bs, .int .i64 en, .slice rr l.length rc2] 35)).heap.size := Nat.le_trans hbas (Nat.le_trans q1.size (Nat.le_trans g2.size q3.size))
            clear hwas w2w y0 y1 y2 c0
            go_wp2_with (at_builtin; refine wpList_append_ic _ rfl _ _ rfl base bs rfl w3w ⟨b, ro, rc, rr, rc2, en, l⟩ rfl k3 (by omega) hb3 ?_)
            intro wo2 wc2 w4 hw4 g4
            clear k3 z0 z1 z2 hb3
            have hpush := hC.sta.push hC.bo q1 g2 q3 g4 ho2 hw4
            obtain ⟨hst4, hB4⟩ := hpush
            have hG4 : w.grownBy w4 none := grown_trans (grown_trans (grown_trans hC1.g g2 (fun q e => .inr (by have := (hC1.sta.old.from_base q e).1; have := hC1.sta.ne; have := hC1.r0; omega))) q3 (by simp)) g4 (fun q e => .inr (by have := (w3w.from_base q e).1; have := hC1.sta.ne; have := hC1.r0; omega))
            obtain ⟨d0, -, -, -⟩ := hat'.out w4 hG4
            obtain ⟨og, rfl, -, -⟩ := hst4.old.addr (by simp)
            have hoc2 := hst4.old.shows.room
            clear w3w hat2 hB2 c2 hC1
            have hiv := hB4.iv
            have hbe := hiv.be
            have he1 := hiv.e1
            have hb1 := hiv.b1
            have hb0 := hiv.b0
            have hll := hiv.len
            have hok := hiv.ok
            have hgd := hiv.good
            obtain ⟨B, hB⟩ : ∃ B : Nat, bs = (B : Int) := Int.eq_ofNat_of_zero_le hb0
            obtain ⟨E, hE⟩ : ∃ E : Nat, en = (E : Int) := Int.eq_ofNat_of_zero_le (by omega)
            have hx4 := hB4.x
            rw [hB, hE] at hx4 hok
            replace hB : Hid (bs = (B : Int)) := hB
            replace hE : Hid (en = (E : Int)) := hE
            have hB1 : B ≤ 9007199254740992 := by have := hB.out; omega
            have hE1 : E ≤ 9007199254740993 := by have := hE.out; omega
            have hby := bytes_any hx4 (by omega) (by omega) hgd (by omega)
            clear hiv
            go_wp2_with fail
            refine hby.mono ?_
            rintro e w5 ⟨bo5, bc5, rfl, hO5, g5⟩
            have hop := open_any w5 bo5 _ bc5 _ hO5.shows (by rw [iby_len]; omega)
            clear hby
            go_wp2_with fail
            refine hop.mono ?_
            rintro e w6 hpost
            obtain ⟨b2, ro2, rc3, rfl, hx6, hb2, hf2, g6⟩ := open_own hgd (by omega) (by omega) (by omega) hok hpost
            rw [← hB.out, ← hE.out] at hx6
            clear hop hpost hO5 hx4
            have hC5 := hC.turn q1 g2 q3 g4 ho2 hw4 (grown_trans g5 g6 (by simp)) hx6 (Nat.le_trans g5.size hb2) (fun q hq => Nat.le_trans g5.size (hf2 q hq))
            clear hx6 hb2 hf2 g5 g6 q1 g2 q3 g4 ho2 hw4 hst4 hB4 d0 hB hE hB1 hE1 hok hgd hbe he1 hb1 hb0 hll
            have hnu := num_any w6 0
            go_wp2_with fail
            refine hnu.mono ?_
            rintro e w7 ⟨rfl, hw⟩
            replace hw := hw.symm
            subst hw
            clear hnu
            have hAt : w6.cell? ⟨og, A.length, none⟩ = some (.pointer (some ⟨b, 0, none⟩)) := by
              have h9 := hC5.sta.old.shows.at (j := A.length) (u := .pointer (some ⟨b, 0, none⟩)) (by simp [Asd.pv])
              rwa [Nat.zero_add] at h9
            have hok5 := (hC5.sta.ok ⟨b, ro, rc, rr, rc2, en, l⟩ (by simp)).1
            have hsm := same_yes hC5.bo.x hok5
            have j1 : (0 : Int) ≤ (A.length : Int) := by omega
            have j2 : (A.length : Int) < (A.length : Int) + 1 := by omega
            have j3 : A.length ≤ 40 := by omega
            clear hok5
            go_wp2_with fail
            refine hsm.mono ?_
            rintro e w7 ⟨rfl, hg7⟩
            have hC7 := hC5.grown (m' := 100 * k) hg7 (Nat.le_refl _)
            clear hsm hAt hC5 hC
            go_wp2_with fail
            refine wp_mono (reg30 _ _ _ _ _ _ _ _ _ _ _ _ _ _ _ _ _ _ _ hC7 (by omega) g o k n sc a hlt hat'.out hR hl1 _ _ _ _ _ _ _ _ _ _ _ _ _ _ _ _ _ _ _ _ _ _ _ _ _ _ _ _ _ _ _ _ _ _ _ _ _ _ _ _ _ _ _ _ _ _ _ _ _ _ _ _ _ _ _ _ _ _ _ _ _ _ _ _ _ _ _ _ _ _ _ _ _ _ _ _ _ _ _ _ _ _ _ _ _ _ _ _ _ _ _ _ _ _ _ _ _ _ _ _ _ _ _ _ _ _ _ _ _ _ _ _ _ _ _ _ _ _ _ _ _ _ _ _ _ _ _ _ _ _ _ _ _ _ _ _ _ _ _ _ _ _ _ _ _ _ _ _ _ _ _ _ _ _ _ _ _ _ _ _ _ _ _ _ _ _ _ _ _ _ _ _ _ _ _ _ _ _ _ _ _ _) ?_
            rintro e a9 w9 ⟨rfl, x126, x127, x128, x129, x130, x131, x132, x133, x134, x135, x136, x137, x138, x139, x140, x141, x142, x143, x144, x145, x146, x147, rfl, hN9⟩
            obtain ⟨en9, l9, ro9, rc9, rr9, rc29, hC9⟩ := hN9
            have hC9' : Hid (Cur w w9 b2 ro9 rc9 r rr9 rc29 bs en9 l9 (100 * (k + 1)) base w4.heap.size (some ⟨og, 0, none⟩) oc2 wo2 wc2 (A ++ [⟨b, ro, rc, rr, rc2, en, l⟩])) := by
              have e9 : 100 * (k + 1) = 100 * k + 100 := by omega
              rw [e9]
              exact hC9
            clear hC9 hC7 hat' hR
            go_wp2
            go_roundw
            case rel => exact ⟨k + 1, _, _, _, _, _, _, _, _, _, _, _, _, _, by go_num, rfl, by simp, by simp, by omega, by simp; omega, hC9'⟩
            case measure => simp [intOf]; omega
          have e8 : (a.kd == 8) = false := by simpa using h8
          clear h7 h8
          go_wp2_with fail
          refine wp_mono (reg30 _ _ _ _ _ _ _ _ _ _ _ _ _ _ _ _ _ _ _ hC (by omega) g o k n sc a hlt hat'.out hR hl1 _ _ _ _ _ _ _ _ _ _ _ _ _ _ _ _ _ _ _ _ _ _ _ _ _ _ _ _ _ _ _ _ _ _ _ _ _ _ _ _ _ _ _ _ _ _ _ _ _ _ _ _ _ _ _ _ _ _ _ _ _ _ _ _ _ _ _ _ _ _ _ _ _ _ _ _ _ _ _ _ _ _ _ _ _ _ _ _ _ _ _ _ _ _ _ _ _ _ _ _ _ _ _ _ _ _ _ _ _ _ _ _ _ _ _ _ _ _ _ _ _ _ _ _ _ _ _ _ _ _ _ _ _ _ _ _ _ _ _ _ _ _ _ _ _ _ _ _ _ _ _ _ _ _ _ _ _ _ _ _ _ _ _ _ _ _ _ _ _ _ _ _ _ _ _ _ _ _ _ _ _ _) ?_
          rintro e a9 w9 ⟨rfl, x126, x127, x128, x129, x130, x131, x132, x133, x134, x135, x136, x137, x138, x139, x140, x141, x142, x143, x144, x145, x146, x147, rfl, hN9⟩
          obtain ⟨en9, l9, ro9, rc9, rr9, rc29, hC9⟩ := hN9
          have hC9' : Hid (Cur w w9 b ro9 rc9 r rr9 rc29 bs en9 l9 (100 * (k + 1)) base T oo oc wo wcc A) := by
            have e9 : 100 * (k + 1) = 100 * k + 100 := by omega
            rw [e9]
            exact hC9
          clear hC9 hC hat' hR
          go_wp2
          go_roundw
          case rel => exact ⟨k + 1, _, _, _, _, _, _, _, _, _, _, _, _, _, by go_num, rfl, rfl, rfl, by omega, by omega, hC9'⟩
          case measure => simp [intOf]; omega
        · have d2 : decide ((k : Int) < (n : Int)) = false := by simp; omega
          have d3 : decide (k < n) = false := by simpa using hlt
          go_wp2_with fail
          go_loopw [14] (fun v14 wr => ∃ j : Nat, v14 = .int .i64 j ∧ j ≤ A.length ∧ Hid (Cur w wr b ro rc r rr rc2 bs en l (100 * k) base T oo oc wo wcc A)) (fun v14 _ => A.length - (intOf v14).toNat)
          case atStart => exact ⟨0, rfl, Nat.zero_le _, hC⟩
          case round =>
            clear hC
            obtain ⟨j, rfl, hj, hCh⟩ := hrel
            have hC := hCh.out
            clear hCh
            by_cases hjl : j < A.length
            · have f2 : decide ((j : Int) < (A.length : Int)) = true := by simp; omega
              have f3 : decide (j < A.length) = true := by simpa using hjl
              obtain ⟨og, rfl, -, -⟩ := hC.sta.old.addr (by omega)
              obtain ⟨wg, rfl⟩ := hC.sta.was.addr (by omega)
              obtain ⟨q, hq⟩ : ∃ q, A[j]? = some q := ⟨_, List.getElem?_eq_getElem hjl⟩
              have hq' : Hid (A[j]? = some q) := hq
              clear hq
              go_wp2_with fail
              refine wp_mono (reg35 _ _ _ _ _ _ _ _ _ _ _ _ _ _ _ _ _ _ A hC j A.length rfl hjl q hq'.out _ _ _ _ _ _ _ _ _ _ _ _ _ _ _ _ _ _ _ _ _ _ _ _ _ _ _ _ _ _ _ _ _ _ _ _ _ _ _ _ _ _ _ _ _ _ _ _ _ _ _ _ _ _ _ _ _ _ _ _ _ _ _ _ _ _ _ _ _ _ _ _ _ _ _ _ _ _ _ _ _ _ _ _ _ _ _ _ _ _ _ _ _ _ _ _ _ _ _ _ _ _ _ _ _ _ _ _ _ _ _ _ _ _ _ _ _ _ _ _ _ _ _ _ _ _ _ _ _ _ _ _ _ _ _ _ _ _ _ _ _ _ _ _ _ _ _ _ _ _ _ _ _ _ _ _ _ _ _ _ _ _ _ _ _ _ _ _ _ _ _ _ _ _ _ _ _ _ _ _ _) ?_
              rintro e a9 w9 ⟨rfl, x155, x156, x157, x158, x159, x160, x161, x162, x163, x164, x165, x166, x167, x168, x169, x170, x171, x172, x173, x174, x175, x176, x177, x178, x179, x180, rfl, hC9⟩
              replace hC9 : Hid _ := hC9
              clear hC hq'
              go_wp2
              go_roundw
              case rel => exact ⟨j + 1, by go_num, by omega, hC9⟩
              case measure => simp [intOf]; omega
            · have f2 : decide ((j : Int) < (A.length : Int)) = false := by simp; omega
              have f3 : decide (j < A.length) = false := by simpa using hjl
              have hG := hC.g
              clear hC
              have hno := nothing_any wr
              go_wp2_with fail
              refine hno.mono ?_
              rintro e w2 ⟨rfl, hg2⟩
              have hwk := works_any w2
              go_wp2_with fail
              refine hwk.mono ?_
              rintro e w3 ⟨rfl, hg3⟩
              have hG3 := grown_trans (grown_trans hG hg2 (by simp)) hg3 (by simp)
              go_wp2
              go_ret
              exact ⟨rfl, hG3⟩
end Go.Proofs.Ytmnfdiffneobpaa
