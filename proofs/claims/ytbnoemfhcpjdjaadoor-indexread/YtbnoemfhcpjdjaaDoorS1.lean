/-
  Read of any bytes: the index that they are, or the refusal.
-/
import Derived.Test.YtbnoemfhcpjdjaaDoorR8
import Derived.Test.YtbnoemfhcpjdjaaDoorQ3
import Derived.ScopeJumps
namespace Go.Proofs.YtbnoemfhcpjdjaaDoor
open Go.RowKit
set_option linter.unusedVariables false

theorem scan_step {st : Int} {bs : List UInt8} {k : Nat} {l : List Sd} (h : scanR st bs k = some l) : scanR st bs (k + 1) = if (addR st l (spotAt bs k)).1 = true then some (l ++ [spotAt bs k]) else none := by simp [scanR, h]
theorem addR_true {st : Int} {l : List Sd} {s : Sd} (h : (addR st l s).1 = true) : addR st l s = (true, 0, l ++ [s]) := by
  unfold addR at h ⊢
  split
  · rename_i hb; rw [if_pos hb] at h; cases h
  · rename_i hb
    rw [if_neg hb] at h
    split
    · rename_i hn; rw [if_pos hn] at h; cases h
    · rfl
theorem bad_false {st : Int} {l : List Sd} {s : Sd} (h : badB l s = true) : (addR st l s).1 = false := by unfold addR; rw [if_pos h]
theorem scan_good {st : Int} {bs : List UInt8} {k : Nat} {l : List Sd} (h : scanR st bs k = some l) : Good l := by
  induction k generalizing l with
  | zero => simp [scanR] at h; subst h; exact fun t ht => nomatch ht
  | succ k ih =>
    unfold scanR at h
    split at h
    · cases h
    · rename_i l' hl'
      split at h
      · rename_i ha
        have hg := addR_good (ih hl') st (spotAt bs k)
        rw [addR_true ha] at hg
        cases h
        exact hg
      · cases h
theorem big_bad (l : List Sd) (v : Nat) (p : Int) (hv : 9007199254740992 < v) : badB l ⟨(v : Int), p⟩ = true := by
  have : decide ((9007199254740992 : Int) < (v : Int)) = true := by simp; omega
  unfold badB
  simp only [this, Bool.or_true, Bool.true_or]
theorem wrap_bad {l : List Sd} (hl : Good l) (v : Nat) (p : Int) (hv : 9007199254740992 < v) (hv2 : v < 18446744073709551616) : badB l ⟨wrap64 (v : Int), p⟩ = true := by
  have ha := ahead_good hl l.length
  by_cases h : v < 9223372036854775808
  · rw [show wrap64 (v : Int) = (v : Int) by unfold wrap64; omega]
    exact big_bad l v p hv
  · have h1 : wrap64 (v : Int) < 0 := by unfold wrap64; omega
    have : decide ((ahead l l.length).o < wrap64 (v : Int)) = false := by simp; omega
    unfold badB risesB
    simp only [this, Bool.false_and, Bool.not_false, Bool.true_or]
section
variable {l : Nat} {J : Act → World → Prop} {Q : Exit → Act → World → Prop} {a : Act} {w : World}
theorem jump_normal : Exit.jump l J Q .normal a w = Q .normal a w := rfl
theorem jump_exit (id : Nat) : Exit.jump l J Q (.exit id) a w = Q (.exit id) a w := rfl
theorem jump_ret : Exit.jump l J Q .ret a w = Q .ret a w := rfl
theorem jump_panic (ch : List PanicEntry) : Exit.jump l J Q (.panic ch) a w = Q (.panic ch) a w := rfl
end
attribute [local go_sem] jump_normal jump_exit jump_ret jump_panic

set_option maxRecDepth 100000 in
theorem new_some (w : World) (st : Int) : Calls Tryd.prog 9 #[.int .i64 st] w fun e w' => ∃ p k, e = .returned (.tuple #[.pointer p, .int .i64 k]) ∧ w.grownBy w' none := by
  by_cases h : st < 1 ∨ 16777216 < st
  · exact (new_bad w st h).mono fun e w' ⟨h1, h2⟩ => ⟨none, 2, h1, by rw [h2]; exact grown_refl _ _⟩
  · exact (new_ok w st (by omega) (by omega)).mono fun e w' ⟨b, h1, _, h2⟩ => ⟨_, 0, h1, h2⟩

/-- What Read answers. -/
def RdSays (w : World) (bs : List UInt8) (e : Ending) (w' : World) : Prop :=
  (∃ b base l, e = .returned (.tuple #[.pointer (some ⟨b, 0, none⟩), .int .i64 0]) ∧ ¬ headBad bs ∧ scanR (hdS bs : Nat) bs (hdN bs) = some l ∧ Xd w' base b (hdS bs : Nat) l ∧ w.heap.size ≤ base) ∨ (e = .returned (.tuple #[.pointer none, .int .i64 190]) ∧ (headBad bs ∨ scanR (hdS bs : Nat) bs (hdN bs) = none))

set_option maxRecDepth 100000 in
set_option maxHeartbeats 4000000 in
theorem read_any (w : World) (hD : Dt w) (bo : Option Addr) (n bc : Nat) (bs : List UInt8) (hb : Bs w bo n bc bs) (hn : n ≤ 20000) :
    Calls Tryd.prog 21 #[.slice bo n bc] w fun e w' => RdSays w bs e w' ∧ w.grownBy w' none := by
  have hlen := hb.len
  have hnw := new_far w bo n bc _ hb (by omega)
  go_enter Tryd.func21, Tryd.ntmps21
  go_wp2_with fail
  refine wp_scope_jumps 0 (fun a w' => a.tmps.size = 75 ∧ a.defers = [] ∧ (headBad bs ∨ scanR (hdS bs : Nat) bs (hdN bs) = none) ∧ w.grownBy w' none) (fun _ _ => 0) rfl ?_ ?_
  rotate_left
  · rintro ⟨tmps, defers⟩ w9 ⟨hs, hd, hbad, hg9⟩
    simp only at hs hd
    subst hd
    clear hnw hb hD hlen hn
    go_wp2
    show bodyPost Tryd.prog Tryd.f21 (fun e w' => RdSays w bs e w' ∧ w.grownBy w' none) .ret _ _
    exact bodyPost_ret (v := .tuple #[.pointer none, .int .i64 190]) (by simp [results, Tryd.results21, go_sem, hs]) rfl ⟨Or.inr ⟨rfl, hbad⟩, hg9⟩
  go_wp2_with fail
  refine hnw.mono ?_
  clear hnw
  rintro e w1 ⟨br, gr, rfl, hR1, hbr, hgr, hg1⟩
  by_cases h4 : n < 4
  · have hbad : headBad bs := Or.inl (by omega)
    have hu1 := u32_no w1 br gr 0 n n _ 0 hR1 h4
    go_wp2_with fail
    refine hu1.mono ?_
    rintro e w2 ⟨rfl, rfl⟩
    go_wp2_with fail
    refine hu1.mono ?_
    clear hu1 hR1 hb hlen
    rintro e w3 ⟨rfl, rfl⟩
    go_wp2_with fail
    refine (new_bad _ 0 (by decide)).mono ?_
    rintro e w4 ⟨rfl, rfl⟩
    go_wp2_with fail
    go_step3
    exact ⟨rfl, rfl, rfl, Or.inl hbad, hg1⟩
  have hu1 := u32_yes w1 br gr 0 n n _ 0 hR1 (by omega)
  go_wp2_with fail
  refine hu1.mono ?_
  clear hu1
  rintro e w2 ⟨rfl, o2, cap2, hR2, hg2⟩
  have hG2 : w.grownBy w2 none := grown_trans hg1 hg2 (fun k e => Or.inr (by cases e; exact hbr))
  have vS : Hid (val (bs.take 4) = hdS bs) := (rfl : val (bs.take 4) = hdS bs)
  rw [vS.out]
  have vl : hdS bs < 4294967296 := by have := val_lt (bs.take 4); rw [List.length_take, hlen, Nat.min_eq_left (by omega)] at this; exact this
  have hwt : IntKind.i64.wrap (hdS bs : Int) = (hdS bs : Int) := by rw [IntWalk.i64_in _ (by omega)]
  obtain ⟨S, hS⟩ : ∃ S, Hid (hdS bs = S) := ⟨_, (rfl : hdS bs = hdS bs)⟩
  rw [hS.out] at vl hwt ⊢
  by_cases h8 : n < 8
  · have hbad : headBad bs := Or.inl (by omega)
    have hu2 := u32_no w2 br gr o2 _ cap2 _ _ hR2 (by omega)
    clear hR1 hR2 hb hlen
    go_wp2_with fail
    refine hu2.mono ?_
    clear hu2
    rintro e w3 ⟨rfl, rfl⟩
    go_wp2_with fail
    refine (new_some _ _).mono ?_
    rintro e w4 ⟨p4, k4, rfl, hg4⟩
    have hG4 := grown_trans hG2 hg4 (by simp)
    go_wp2_with fail
    go_step3
    exact ⟨rfl, rfl, rfl, Or.inl hbad, hG4⟩
  have hu2 := u32_yes w2 br gr o2 _ cap2 _ _ hR2 (by omega)
  go_wp2_with fail
  refine hu2.mono ?_
  clear hu2
  rintro e w3 ⟨rfl, o3, cap3, hR3, hg3⟩
  have hG3 : w.grownBy w3 none := grown_trans hG2 hg3 (fun k e => Or.inr (by cases e; exact hbr))
  have vN : Hid (val ((bs.drop 4).take 4) = hdN bs) := (rfl : val ((bs.drop 4).take 4) = hdN bs)
  rw [vN.out]
  have nl : hdN bs < 4294967296 := by have := val_lt ((bs.drop 4).take 4); rw [List.length_take, List.length_drop, hlen, Nat.min_eq_left (by omega)] at this; exact this
  have hwl : IntKind.i64.wrap (hdN bs : Int) = (hdN bs : Int) := by rw [IntWalk.i64_in _ (by omega)]
  have hwm : IntKind.i64.wrap ((hdN bs : Int) * 12) = ((12 * hdN bs : Nat) : Int) := by rw [IntWalk.i64_in _ (by omega)]; omega
  obtain ⟨N, hN⟩ : ∃ N, Hid (hdN bs = N) := ⟨_, (rfl : hdN bs = hdN bs)⟩
  rw [hN.out] at nl hwl hwm ⊢
  rw [List.drop_drop, show n - 4 - 4 = n - 8 by omega, show 0 + 4 + 4 = 8 from rfl] at hR3
  change Rd w3 br gr o3 (n - 8) cap3 (bs.drop 8) 8 at hR3
  have hbrl : br < w3.heap.size := World.block_lt_of_cell? w3 _ hR3.c0
  have hgrl := hR3.gl
  clear hR1 hR2 hg1 hg2 hg3 vN vS hb
  by_cases hst : S < 1 ∨ 16777216 < S
  · have hbad : headBad bs := by unfold headBad; rw [hS.out]; omega
    have hne := new_bad w3 (S : Int) (by omega)
    clear hR3 hlen
    go_wp2_with fail
    refine hne.mono ?_
    clear hne
    rintro e w4 ⟨rfl, rfl⟩
    go_wp2_with fail
    go_step3
    exact ⟨rfl, rfl, rfl, Or.inl hbad, hG3⟩
  have hne := new_ok w3 (S : Int) (by omega) (by omega)
  go_wp2_with fail
  refine hne.mono ?_
  clear hne
  rintro e w4 ⟨bx, rfl, hX4, hg4⟩
  have hR4 := hR3.kept (Chg.of_grown hg4 (fun _ => False)) (fun e => e) (fun e => e)
  have hG4 := grown_trans hG3 hg4 (by simp)
  have hle := left_any w4 br gr o3 _ cap3 _ _ hR4
  obtain ⟨base, hbase⟩ : ∃ base, w3.heap.size = base := ⟨_, rfl⟩
  rw [hbase] at hX4 hbrl hgrl
  have hwb : w.heap.size ≤ base := by have := hG3.size; omega
  clear hwt hR3 hg4 hG3 hbase
  by_cases hne : n - 8 = 12 * N
  rotate_left
  · have hbad : headBad bs := by unfold headBad; rw [hS.out, hN.out, hlen]; omega
    have hd : (((n - 8 : Nat) : Int) != ((12 * N : Nat) : Int)) = true := by simp; omega
    clear hR4 hlen hX4
    go_wp2_with fail
    refine hle.mono ?_
    clear hle
    rintro e w4 ⟨rfl, rfl⟩
    go_wp2_with fail
    go_step3
    exact ⟨rfl, rfl, rfl, Or.inl hbad, hG4⟩
  rw [hne] at hle hR4
  have hhead : ¬ headBad bs := by unfold headBad; rw [hS.out, hN.out, hlen]; omega
  go_wp2_with fail
  refine hle.mono ?_
  clear hle
  rintro e w4 ⟨rfl, rfl⟩
  go_wp2_with fail
  clear hwl hwm
  go_loopw [50] (fun v50 wr => ∃ (k o cap : Nat) (l : List Sd), v50 = .int .u32 k ∧ k ≤ N ∧ Hid (scanR (S : Int) bs k = some l) ∧ Rd wr br gr o (12 * (N - k)) cap (bs.drop (8 + 12 * k)) (8 + 12 * k) ∧ Xd wr base bx S l ∧ Chg w4 wr (fun q => q = br ∨ base ≤ q)) (fun v50 _ => N - (intOf v50).toNat)
  case atStart => exact ⟨0, o3, cap3, [], rfl, Nat.zero_le _, (rfl : scanR (S : Int) bs 0 = some []), by simpa using hR4, hX4, Chg.refl _ _⟩
  case round =>
    obtain ⟨k, o, cap, l, rfl, hk, hsc, hR, hX, hC⟩ := hrel
    have hGr : w.grownBy wr none := ((Chg.of_grown hG4 _).trans hC).grown (fun q hq e => by omega)
    have hlk := scan_some hsc.out
    have hgood := scan_good hsc.out
    by_cases hlt : k < N
    · have d1 : decide ((k : Int) < (N : Int)) = true := by simp; omega
      have hi8 := i64_yes wr br gr o _ cap _ _ hR (by omega)
      obtain ⟨v, hv⟩ : ∃ v, Hid (val ((bs.drop (8 + 12 * k)).take 8) = v) := ⟨_, (rfl : _ = val ((bs.drop (8 + 12 * k)).take 8))⟩
      have hv2 : v < 18446744073709551616 := by rw [← hv.out]; exact val_lt8 (by simp; omega)
      rw [hv.out, List.drop_drop, show 8 + 12 * k + 8 = 16 + 12 * k by omega] at hi8
      have hwk : IntKind.u32.wrap ((k : Int) + 1) = ((k + 1 : Nat) : Int) := by rw [IntWalk.u32_in _ (by omega)]; omega
      go_wp2_with fail
      refine hi8.mono ?_
      clear hi8
      rintro e w5 ⟨rfl, o5, cap5, hR5, hg5⟩
      have hc5 : Chg wr w5 (fun q => q = br) := ⟨hg5.os, hg5.tape, hg5.output, hg5.size, fun q hq hn => hg5.block q hq (fun e => hn (by simpa using e))⟩
      have hu5 := u32_yes w5 br gr o5 _ cap5 _ _ hR5 (by omega)
      obtain ⟨pn, hpn⟩ : ∃ pn, Hid (val ((bs.drop (16 + 12 * k)).take 4) = pn) := ⟨_, (rfl : _ = val ((bs.drop (16 + 12 * k)).take 4))⟩
      have hp2 : pn < 4294967296 := by
        rw [← hpn.out]
        have h3 := val_lt ((bs.drop (16 + 12 * k)).take 4)
        have h4 : ((bs.drop (16 + 12 * k)).take 4).length = 4 := by simp; omega
        rw [h4] at h3
        exact h3
      rw [hpn.out, List.drop_drop] at hu5
      have hwp : IntKind.i64.wrap (pn : Int) = (pn : Int) := by rw [IntWalk.i64_in _ (by omega)]
      have hspot : Hid (spotAt bs k = ⟨(v : Int), (pn : Int)⟩) := by show spotAt bs k = _; unfold spotAt; rw [hv.out, hpn.out]
      go_wp2_with fail
      refine hu5.mono ?_
      clear hu5
      rintro e w6 ⟨rfl, o6, cap6, hR6, hg6⟩
      have hc6 : Chg w5 w6 (fun q => q = br) := ⟨hg6.os, hg6.tape, hg6.output, hg6.size, fun q hq hn => hg6.block q hq (fun e => hn (by simpa using e))⟩
      have hX6 := (hX.chg hc5 (fun q hq _ e => by omega)).chg hc6 (fun q hq _ e => by omega)
      have hC6 := (hC.trans (hc5.mono (fun q _ e => Or.inl e))).trans (hc6.mono (fun q _ e => Or.inl e))
      have hG6 : w.grownBy w6 none := ((Chg.of_grown hG4 _).trans hC6).grown (fun q hq e => by omega)
      have had := add_any hX6 (hD.grown hG6) hgood (by omega) (by omega) ⟨wrap64 (v : Int), (pn : Int)⟩
      unfold Sd.val at had
      simp only at had
      have hss := scan_step hsc.out
      rw [hspot.out] at hss
      have hlate : (addR (S : Int) l ⟨wrap64 (v : Int), (pn : Int)⟩).1 = (addR (S : Int) l ⟨(v : Int), (pn : Int)⟩).1 ∧ ((addR (S : Int) l ⟨(v : Int), (pn : Int)⟩).1 = true → wrap64 (v : Int) = (v : Int)) := by
        by_cases hbig : 9007199254740992 < v
        · rw [bad_false (wrap_bad hgood v pn hbig hv2), bad_false (big_bad l v pn hbig)]
          exact ⟨rfl, fun h => nomatch h⟩
        · have : wrap64 (v : Int) = (v : Int) := by unfold wrap64; omega
          rw [this]
          exact ⟨rfl, fun _ => rfl⟩
      have hss2 : Hid _ := hss
      have hlate2 : Hid _ := hlate
      clear hss hlate hX hX6 hR5 hg5 hg6 hR hC hspot hv hpn hsc
      go_wp2_with fail
      refine had.mono ?_
      clear had
      rintro e w7 ⟨rfl, hX7, hc7⟩
      have hR7 := hR6.kept hc7 (by omega) (by omega)
      have hC7 := hC6.trans (hc7.mono (fun q _ e => Or.inr e))
      have hG7 : w.grownBy w7 none := ((Chg.of_grown hG4 _).trans hC7).grown (fun q hq e => by omega)
      clear hR6 hC6 hc7 hc5 hc6
      by_cases hadd : (addR (S : Int) l ⟨wrap64 (v : Int), (pn : Int)⟩).1 = true
      · have ha2 : (addR (S : Int) l ⟨(v : Int), (pn : Int)⟩).1 = true := hlate2.out.1 ▸ hadd
        have hw64 := hlate2.out.2 ha2
        have hss3 := hss2.out
        rw [if_pos ha2] at hss3
        have hsn : Hid (scanR (S : Int) bs (k + 1) = some (l ++ [⟨(v : Int), (pn : Int)⟩])) := hss3
        rw [addR_true hadd, hw64] at hX7
        simp only at hX7
        rw [hadd]
        clear hss2 hss3 hlate2 ha2 hw64 hadd
        go_wp2
        go_roundw
        case rel =>
          refine ⟨k + 1, o6, cap6, _, by simp, by omega, hsn, ?_, hX7, hC7⟩
          rw [show 12 * (N - (k + 1)) = 12 * (N - k) - 8 - 4 by omega, show 8 + 12 * (k + 1) = 8 + 12 * k + 8 + 4 by omega]
          rw [show 16 + 12 * k + 4 = 8 + 12 * k + 8 + 4 by omega] at hR7
          exact hR7
        case measure => simp [intOf]; omega
      · rw [Bool.not_eq_true] at hadd
        have ha2 : (addR (S : Int) l ⟨(v : Int), (pn : Int)⟩).1 = false := hlate2.out.1 ▸ hadd
        have hss3 := hss2.out
        rw [ha2, if_neg (by simp)] at hss3
        have hno : Hid (scanR (S : Int) bs N = none) := scan_more (by omega) hss3
        rw [hadd]
        clear hss2 hss3 hlate2 ha2 hadd hX7 hR7 hC7
        go_wp2_with fail
        go_step3
        exact ⟨rfl, rfl, rfl, Or.inr (by rw [hS.out, hN.out]; exact hno.out), hG7⟩
    · obtain rfl : k = N := by omega
      have d1 : decide ((k : Int) < (k : Int)) = false := by simp
      clear hlk
      go_wp2
      try rw [jump_ret]
      go_ret2
      exact ⟨Or.inl ⟨bx, base, l, rfl, hhead, by rw [hS.out, hN.out]; exact hsc.out, by rw [hS.out]; exact hX, hwb⟩, hGr⟩
end Go.Proofs.YtbnoemfhcpjdjaaDoor
