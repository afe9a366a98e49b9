/-
  The walk of the document's reader's List.
-/
import Derived.Test.YtocicepnlepfeaaR2
namespace Go.Proofs.Ytocicepnlepfeaa
open Go.RowKit
set_option linter.unusedVariables false

set_option maxRecDepth 100000 in
set_option maxHeartbeats 400000 in
theorem refLst_arg (w : World) (rb : Nat) (i m : Int) (hk : i < 0 ∨ m < 0) :
    Calls Try.prog 50 #[.pointer (some ⟨rb, 0, none⟩), .int .i64 i, .int .i64 m] w fun e w' => e = .returned (.tuple #[.slice none 0 0, .int .i64 2]) ∧ w' = w := by
  by_cases hi : i < 0
  · go_enter Try.func50, Try.ntmps50
    go_wp2
    go_ret2
    exact ⟨rfl, rfl⟩
  · have hm : m < 0 := by omega
    go_enter Try.func50, Try.ntmps50
    go_wp2
    go_ret2
    exact ⟨rfl, rfl⟩

set_option maxRecDepth 100000 in
set_option maxHeartbeats 400000 in
theorem refLst_more (w : World) (rb : Nat) (ao : Option Addr) (n cap i m : Nat) (L : List UInt8) (at' : Nat) (h : Rf w rb ao n cap L at') (hn : n - at' < 4) :
    Calls Try.prog 50 #[.pointer (some ⟨rb, 0, none⟩), .int .i64 i, .int .i64 m] w fun e w' => e = .returned (.tuple #[.slice none 0 0, .int .i64 111]) ∧ Rf w' rb ao n cap L at' ∧ w.grownBy w' (some rb) := by
  have h1 := h.c1
  have hin : ¬ (i : Int) < 0 := by omega
  have hmn : ¬ (m : Int) < 0 := by omega
  go_enter Try.func50, Try.ntmps50
  go_wp2_with fail
  refine (word_no _ rb ao n cap 4 L at' h hn (by omega)).mono ?_
  rintro e w1 ⟨rfl, hg1⟩
  go_wp2
  go_ret2
  exact ⟨rfl, h.grown hg1, grown_any hg1 _⟩

set_option maxRecDepth 100000 in
set_option maxHeartbeats 400000 in
theorem refLst_never (w : World) (rb : Nat) (ao : Option Addr) (n cap i m v : Nat) (L : List UInt8) (at' : Nat) (h : Rf w rb ao n cap L at') (hi : i < 9223372036854775808) (hn : 4 ≤ n - at') (hV : Hid (v = val ((L.drop at').take 4))) (hvl : v < 4294967296) (hv : i < v) :
    Calls Try.prog 50 #[.pointer (some ⟨rb, 0, none⟩), .int .i64 i, .int .i64 m] w fun e w' => e = .returned (.tuple #[.slice none 0 0, .int .i64 110]) ∧ Rf w' rb ao n cap L at' ∧ w.grownBy w' (some rb) := by
  have h1 := h.c1
  have h2 := h.le
  have hin : ¬ (i : Int) < 0 := by omega
  have hmn : ¬ (m : Int) < 0 := by omega
  go_enter Try.func50, Try.ntmps50
  go_wp2_with fail
  refine (word_yes _ rb ao n cap 4 L at' h hn (by omega) (by omega)).mono ?_
  rw [← hV.out]
  rintro e w1 ⟨rfl, hr1, hg1⟩
  have k1 := hr1.c1
  have kf := hr1.fz
  have hm := hr1.moved at' (by omega)
  go_wp2
  go_ret2
  exact ⟨rfl, hm.1, grown_trans hg1 hm.2 (fun k hk => Or.inl hk)⟩

/-- What the document's List answers where the count may be. -/
structure RLstOk (w w' : World) (rb ab : Nat) (ao : Option Addr) (n cap v : Nat) (L D : List UInt8) (e : Ending) : Prop where
  ok : ∃ lo lc us at2, e = .returned (.tuple #[.slice lo v lc, .int .i64 0]) ∧ Lr w' w.heap.size 22 lo v lc us ∧ InG w' ab us (its v D) 0 ∧ Rf w' rb ao n cap L at2 ∧ L.drop at2 = rst v D

set_option maxRecDepth 100000 in
set_option maxHeartbeats 4000000 in
theorem refLst_any (w : World) (rb ab aof n cap i m v : Nat) (L : List UInt8) (at' : Nat) (hR : Rf w rb (some ⟨ab, aof, none⟩) n cap L at') (hi : i < 9223372036854775808) (hm : m < 9223372036854775808) (hn : 4 ≤ n - at') (hV : Hid (v = val ((L.drop at').take 4))) (hvl : v < 4294967296) (hv : v ≤ i) :
    Calls Try.prog 50 #[.pointer (some ⟨rb, 0, none⟩), .int .i64 i, .int .i64 m] w fun e w' =>
      (lErr m v (L.drop (at' + 4)) = 0 ∧ RLstOk w w' rb ab (some ⟨ab, aof, none⟩) n cap v L (L.drop (at' + 4)) e ∧ w.grownBy w' (some rb)) ∨
      (lErr m v (L.drop (at' + 4)) ≠ 0 ∧ e = .returned (.tuple #[.slice none 0 0, .int .i64 (lErr m v (L.drop (at' + 4)) : Nat)]) ∧ Rf w' rb (some ⟨ab, aof, none⟩) n cap L at' ∧ w.grownBy w' (some rb)) := by
  have h1 := hR.c1
  have h2 := hR.le
  have hlt := hR.lt
  have hab : ab < w.heap.size := by obtain ⟨b, o, e1, e2⟩ := hR.bs.addr (by omega); cases e1; exact e2
  have hap : ab ≠ rb := hR.ap _ rfl
  have hin : ¬ (i : Int) < 0 := by omega
  have hmn : ¬ (m : Int) < 0 := by omega
  generalize hD : L.drop (at' + 4) = D at *
  have HD : Hid (L.drop (at' + 4) = D) := hD
  clear hD
  go_enter Try.func50, Try.ntmps50
  go_wp2_with fail
  refine (word_yes _ rb _ n cap 4 L at' hR hn (by omega) (by omega)).mono ?_
  rw [← hV.out]
  rintro e w1 ⟨rfl, hr1, hg1⟩
  have hs1 := hg1.size
  have hiv : ¬ i < v := by omega
  have hiv2 : decide (i < v) = false := by simp; omega
  go_wp2_with fail
  clear hiv
  go_loopw [11, 12, 13, 14] (fun x i _ _ wr => ∃ (k : Nat) (lo : Option Addr) (lc : Nat) (us : List (Option Addr × Nat × Nat)) (at2 : Nat), k ≤ v ∧ i = .int .u64 k ∧ x = .slice lo k lc ∧ Lr wr w.heap.size 22 lo k lc us ∧
      InG wr ab us (its k D) 0 ∧ Rf wr rb (some ⟨ab, aof, none⟩) n cap L at2 ∧ Hid (L.drop at2 = rst k D) ∧ Hid (lErr m k D = 0) ∧ w.grownBy wr (some rb)) (fun _ i _ _ _ => v - (intOf i).toNat)
  case atStart => exact ⟨0, none, 0, [], at' + 4, Nat.zero_le _, rfl, rfl, Lr.nil _ _ _, ⟨fun j u s _ hu => by simp at hu⟩, hr1, HD, rfl, hg1⟩
  case round =>
    obtain ⟨k, lo, lc, us, at2, hk, rfl, rfl, hLr, hIn, hRf, hat, hEr, hGr⟩ := hrel
    clear hr1 hg1 hs1
    have hszr := hGr.size
    have hl2 := hRf.left_len
    have hle2 := hRf.le
    by_cases hltk : k < v
    · by_cases hse : sErr (rst k D) m = 0
      · have hso := sErr_ok (n := n - at2) hse (by rw [← hat.out]; exact hl2)
        obtain ⟨vv, hvv⟩ : ∃ vv, vv = val ((rst k D).take 4) := ⟨_, rfl⟩
        have hVV : Hid (vv = val ((L.drop at2).take 4)) := by show _ = _; rw [hat.out, hvv]
        rw [← hvv] at hso
        have hvvl : vv < 4294967296 := by
          have h3 := val_lt ((rst k D).take 4)
          rw [List.length_take, ← hat.out, hl2, Nat.min_eq_left (by omega), hat.out, ← hvv] at h3
          exact h3
        have hEr2 : Hid (lErr m (k + 1) D = 0) := by show _ = _; rw [lErr, if_neg (by simp [hEr.out]), hse]
        have hat2 : Hid (L.drop (at2 + 4 + vv) = rst (k + 1) D) := by
          show _ = _
          rw [rst, sRest, ← hvv, ← hat.out, List.drop_drop, List.drop_drop, Nat.add_assoc]
        have hIT : Hid (sItem (L.drop at2) = sItem (rst k D)) := by show _ = _; rw [hat.out]
        obtain ⟨ha1, ha2, ha3⟩ := hso
        clear hse hvv hl2
        go_wp2_with fail
        refine (refStr_ok _ rb _ n cap m vv L at2 hRf hm ha1 hVV hvvl ha2 ha3).mono ?_
        rintro e w5 ⟨so, sc, rfl, hbs5, hblk5, hr5, hg5⟩
        rw [hIT.out] at hbs5
        have hLr5 := hLr.kept hg5 (Or.inr (fun e1 => by have := hLr.from_base _ e1; omega))
        have hIn5 := hIn.kept hg5 (by simp [hap])
        have hga := World.grownBy_alloc w5 (.cells #[.slice so vv sc] 22) none
        have hs5 := hg5.size
        go_wp2_with (at_builtin; refine wpList_append_lr _ rfl _ _ 42 rfl w.heap.size 22 Try.underlying42 Try.info22 rfl (hLr5.grown hga) (so, vv, sc) rfl (by simp [sv]) (by omega) (by simp; omega) ?_)
        intro lo6 lc6 w6 hLr6 hg6
        have hne : some ab ≠ blk lo := fun e1 => by have := hLr.from_base _ e1.symm; omega
        have hIn6 := ((hIn5.kept hga (by simp)).snoc (v := (so, vv, sc)) hLr.len (hbs5.grown hga) hblk5).kept hg6 hne
        have hr6 := (hr5.grown hga).kept hg6 (fun e1 => by have := hLr.from_base _ e1.symm; omega) (fun a ha => by obtain rfl := Option.some.inj ha; exact hne)
        have hG6 := grown_trans (grown_trans (grown_trans hGr hg5 (fun q hq => Or.inl hq)) hga (by simp)) hg6 (fun q hq => Or.inr (by have := hLr.from_base q hq; omega))
        clear hLr hIn hRf hat hEr hGr hVV hbs5 hr5 hg5 hLr5 hIn5 hga hg6 hne hIT hblk5
        go_wp2
        go_roundw
        case rel => first | exact ⟨k + 1, lo6, lc6, _, at2 + 4 + vv, by omega, by go_num, rfl, hLr6, hIn6, hr6, hat2, hEr2, hG6⟩ | ((repeat apply Exists.intro); exact ⟨⟨k + 1, lo6, lc6, _, at2 + 4 + vv, by omega, by go_num, rfl, hLr6, hIn6, hr6, hat2, hEr2, hG6⟩, rfl⟩)
        case measure => simp [intOf]; omega
      · obtain ⟨c, hc⟩ : ∃ c, sErr (rst k D) m = c := ⟨_, rfl⟩
        rw [hc] at hse
        have hfin : Hid (lErr m v D = c) := by
          have h3 : lErr m (k + 1) D = c := by rw [lErr, if_neg (by simp [hEr.out]), hc]
          have h4 := lErr_mono (c := v) (by rw [h3]; exact hse) hltk
          show _ = _
          rw [h4, h3]
        have HC : Hid (sErr (L.drop at2) m = c) := by show _ = _; rw [hat.out, hc]
        have hcb : ((c : Int) != 0) = true := by rw [bne_iff_ne]; omega
        clear hc hl2
        go_wp2_with fail
        refine (refStr_err _ rb _ n cap m c L at2 hRf hm HC hse).mono ?_
        rintro e w5 ⟨rfl, hr5, hg5⟩
        have hG5 := grown_trans hGr hg5 (fun q hq => Or.inl hq)
        have k1 := hr5.c1
        have kf := hr5.fz
        have hmv := hr5.moved at' (by omega)
        clear hLr hIn hRf hat hEr hGr hg5 HC
        go_wp2
        go_ret2
        exact Or.inr ⟨by rw [hfin.out]; exact hse, by rw [hfin.out]; rfl, hmv.1, grown_trans hG5 hmv.2 (fun q hq => Or.inl hq)⟩
    · obtain rfl : k = v := by omega
      clear hl2
      go_wp2
      go_ret2
      exact Or.inl ⟨hEr.out, ⟨_, _, _, _, rfl, hLr, hIn, hRf, hat.out⟩, hGr⟩

end Go.Proofs.Ytocicepnlepfeaa
