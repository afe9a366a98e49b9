/-
  WireReads: the walk.
-/
import Derived.Test.YtocicepnlepfeaaR12
import Derived.Test.YtocicepnlepfeaaR13
import Derived.Test.YtocicepnlepfeaaR15
import Derived.Test.YtocicepnlepfeaaR21
import Derived.Deep.RegionHeld
namespace Go.Proofs.Ytocicepnlepfeaa
open Go.RowKit
set_option linter.unusedVariables false

set_option maxRecDepth 100000 in
set_option maxHeartbeats 1000000 in
theorem wireReads_many (w : World) (ao so : Option Addr) (n cap m sc : Nat) (hm : 60 < m) :
    Calls Try.prog 5 #[.slice ao n cap, .slice so m sc] w fun e w' => e = .returned (.bool true) ∧ w.grownBy w' none := by
  go_enter Try.func5, Try.ntmps5
  go_wp2_with fail
  refine (works_any _).mono ?_
  rintro e w1 ⟨rfl, hg1⟩
  go_wp2
  go_ret
  exact ⟨rfl, hg1⟩

theorem Sc.grown {w w' : World} {so : Option Addr} {m : Nat} {qs : List (Int × Int × Int)} (h : Sc w so m qs) (hg : w.grownBy w' none) : Sc w' so m qs :=
  ⟨h.len, fun j K N M hq => by
    obtain ⟨sb, sof, h1, h2, h3, h4, h5, h6⟩ := h.cells j K N M hq
    exact ⟨sb, sof, h1, Nat.lt_of_lt_of_le h2 hg.size, hg.cell h3 (by simp), hg.cell h4 (by simp), hg.cell h5 (by simp), h6⟩⟩

section
variable {w wr : World} {b g o cp rb : Nat} {ao : Option Addr} {n cap : Nat} {L : List UInt8} {at' : Nat} {oo : Option Addr} {oc : Nat} {wo : Option Addr} {wc m : Nat} {os : List OldR}
theorem Main.rf1 {w' w4 : World} (h : Main w wr b g o cp rb ao n cap L at' oo oc wo wc m os) (hga : wr.grownBy w' none) (hg4 : w'.grownBy w4 (blk oo)) : Rf w4 rb ao n cap L at' :=
  (h.both.grown hga).rf.kept hg4 (fun e => (h.apo _ e.symm).2.2.1 rfl) (fun a ha e => by
    have h1 := h.abl a ha
    have h2 := (h.old.from_base _ e.symm).1
    omega)
theorem Main.rd1 {w' w4 : World} (h : Main w wr b g o cp rb ao n cap L at' oo oc wo wc m os) (hga : wr.grownBy w' none) (hg4 : w'.grownBy w4 (blk oo)) : Rd w4 b g o (n - at') cp (L.drop at') at' :=
  (h.both.grown hga).rd.kept hg4 (fun e => (h.apo _ e.symm).1 rfl) (fun e => (h.apo _ e.symm).2.1 rfl)
theorem Main.rd2 {w' w4 w5 w6 : World} (h : Main w wr b g o cp rb ao n cap L at' oo oc wo wc m os) (hga : wr.grownBy w' none) (hg4 : w'.grownBy w4 (blk oo)) (hg5 : w4.grownBy w5 none) (hg6 : w5.grownBy w6 (blk wo)) : Rd w6 b g o (n - at') cp (L.drop at') at' :=
  ((h.rd1 hga hg4).grown hg5).kept hg6 (fun e => (h.apw _ e.symm).1 rfl) (fun e => (h.apw _ e.symm).2.1 rfl)
theorem Main.was1 {w' w4 : World} (h : Main w wr b g o cp rb ao n cap L at' oo oc wo wc m os) (hga : wr.grownBy w' none) (hg4 : w'.grownBy w4 (blk oo)) : Vr w4 w.heap.size 3 wo m wc (os.map fun t => .int .i64 t.at') := by
  refine (h.was.grown hga).kept hg4 ?_
  cases hw : blk wo with
  | none => exact Or.inl rfl
  | some x => exact Or.inr (fun e => (h.apo x e.symm).2.2.2.2 hw)
end

set_option maxRecDepth 100000 in
set_option maxHeartbeats 4000000 in
theorem wireReads_few (w : World) (ao so : Option Addr) (n cap m sc : Nat) (L : List UInt8) (qs : List (Int × Int × Int)) (hb : Bs w ao n cap L) (hs : Sc w so m qs) (hm : m ≤ 60) (hsz : cap ≤ 140737488351232) (hao : ao = none ∨ ∃ ab aof, ao = some ⟨ab, aof, none⟩) (hab : ∀ a, ao = some a → a.block < w.heap.size) :
    Calls Try.prog 5 #[.slice ao n cap, .slice so m sc] w fun e w' => e = .returned (.bool true) ∧ w.grownBy w' none := by
  have hrm := hb.room
  have hd60 : decide ((60 : Int) < (m : Int)) = false := by simp; omega
  go_enter Try.func5, Try.ntmps5
  go_wp2_with fail
  refine (lent_any _ _ n cap L hb (by omega)).mono ?_
  rintro e w1 ⟨gm, cm, rfl, hm1, hg1⟩
  have hM1 := hm1.shows
  have hmm1 := hM1.take n (by omega)
  rw [List.take_left' hb.len] at hmm1
  go_wp2_with fail
  refine (new_far _ _ n cm L hmm1 (by omega)).mono ?_
  rintro e w2 ⟨b, g, rfl, hr2, hbb, hgb, hg2⟩
  have hG2 := grown_trans hg1 hg2 (by simp)
  have hgm := (hm1.from_base gm rfl)
  have hm2 := hm1.grown hg2
  clear hM1 hmm1 hm1
  go_wp2_with (go_at_call 21; refine (kept_any _ gm ao n cm cap L hm2.shows (hb.grown hG2) (by omega)).mono ?_; rintro e w2 ⟨rfl, hw⟩; subst hw)
  have hs1 := hg1.size
  go_loopw [7] (fun i' wr => ∃ (i : Nat) (l' : List UInt8), i ≤ n ∧ i' = .int .i64 i ∧ Ow wr w.heap.size 5 (some ⟨gm, 0, none⟩) (n + 1) cm l' ∧ Rd wr b g 0 n n L 0 ∧ w.grownBy wr none) (fun i' _ => n - (intOf i').toNat)
  case atStart => exact ⟨0, _, Nat.zero_le _, rfl, hm2, hr2, hG2⟩
  case round =>
    obtain ⟨i, l', hi, rfl, ho, hr, hg⟩ := hrel
    by_cases hlt : i < n
    · have hfz := ho.there
      have hj : i < l'.length := by rw [ho.len]; omega
      have hcell := ho.shows.at hj
      rw [Nat.zero_add] at hcell
      have hset := ho.set i 90
      have hgs := below_of_new (w := w) hg (setCell_grown wr gm i (bv 90)) hgm.1
      have hrs := hr.kept (setCell_grown wr gm i (bv 90)) (by simp; omega) (by simp; omega)
      go_wp2
      go_roundw
      case rel => exact ⟨i + 1, _, by omega, by go_num, hset, hrs, hgs⟩
      case measure => simp [intOf]; omega
    · have hd : decide ((i : Int) < (n : Int)) = false := by simp; omega
      clear ho hm2 hr2 hG2
      go_wp2_with fail
      have hMn : Main w (wr.alloc (.cells #[.slice ao n cap, .int .i64 0] 55)) b g 0 n wr.heap.size ao n cap L 0 none 0 none 0 0 [] := by
        have hga := alloc_grown wr (.cells #[.slice ao n cap, .int .i64 0] 55)
        have hlb := hr.lt
        have hlg := hr.gl
        have hsz2 := hg.size
        refine ⟨⟨?_, ⟨by simp, by simp, fun q => by simp, hb.grown (grown_trans hg hga (by simp)), Nat.zero_le _, by omega, fun a e => ?_⟩, by omega, fun a e => ?_, by omega⟩, Vr.nil _ _ _, Vr.nil _ _ _, (fun t ht => by cases ht), (fun x e => by cases e), (fun x e => by cases e), by omega, by omega, hab, grown_trans hg hga (by simp)⟩
        · have h9 := hr.grown hga
          simpa using h9
        · have := hab a e; omega
        · have := hab a e; omega
      go_loopw [6, 9, 10, 11] (fun p6 p9 p10 i' wk => ∃ (b g o cp at' : Nat) (oo : Option Addr) (oc : Nat) (wo : Option Addr) (wc mm i : Nat) (os : List OldR), i ≤ m ∧ mm ≤ i ∧ p6 = .pointer (some ⟨b, 0, none⟩) ∧ p9 = .slice oo mm oc ∧ p10 = .slice wo mm wc ∧ i' = .int .i64 i ∧ Main w wk b g o cp wr.heap.size ao n cap L at' oo oc wo wc mm os) (fun _ _ _ i' _ => m - (intOf i').toNat)
      case atStart => exact ⟨b, g, 0, n, 0, none, 0, none, 0, 0, 0, [], Nat.zero_le _, Nat.le_refl _, rfl, rfl, rfl, rfl, hMn⟩
      case round =>
        obtain ⟨b, g, o, cp, at', oo, oc, wo, wc, mm, i, os, him, hmi, rfl, rfl, rfl, rfl, hMk⟩ := hrel
        by_cases hlt : i < m
        · obtain ⟨⟨K, N, M⟩, hq⟩ : ∃ q, qs[i]? = some q := ⟨qs[i]'(by rw [hs.len]; exact hlt), List.getElem?_eq_getElem _⟩
          obtain ⟨sb, sof, rfl, hsb, hk0, hk1, hk2, hN, hM⟩ := (hs.grown hMk.gr).cells i K N M hq
          by_cases hK : K = 10
          · subst hK
            have hga := World.grownBy_alloc wr (.cells #[.pointer (some ⟨b, 0, none⟩)] 51) none
            have hszk := hMk.gr.size
            go_wp2_with (at_builtin; refine wpList_append_vr _ rfl _ _ 56 rfl w.heap.size 51 (.pointer none) (by kernel_rfl) Try.info51 rfl rfl (hMk.old.grown hga) (.pointer (some ⟨b, 0, none⟩)) rfl (by simp) rfl (by omega) (by simp; omega) ?_)
            intro oo' oc' w4 hv4 hg4 hb4
            have hrf1 := (hMk.rf1 hga hg4).c1
            have hga2 := World.grownBy_alloc w4 (.cells #[.int .i64 at'] 3) none
            have hsz4 := hg4.size
            simp at hsz4
            have hwas := (hMk.was1 hga hg4).grown hga2
            go_wp2_with (at_builtin; refine wpList_append_vr _ rfl _ _ 57 rfl w.heap.size 3 (.int .i64 0) (by kernel_rfl) Try.info3 rfl rfl hwas (.int .i64 at') rfl (by simp) rfl (by omega) (by simp; omega) ?_)
            intro wo' wc' w6 hv6 hg6 hb6
            have hrd := hMk.rd2 hga hg4 hga2 hg6
            go_wp2_with fail
            refine (copy_any _ b g o _ cp _ at' hrd).mono ?_
            rintro e w7 ⟨b2, g2, rfl, hr7, hb7, hg7b, hg7⟩
            have hMp := hMk.push hga hv4 hg4 (by simpa using hb4) hga2 hv6 hg6 (by simpa using hb6) hr7 hb7 hg7b hg7
            obtain ⟨sb', sof', ee, hsb', hj0, hj1, hj2, _⟩ := (hs.grown hMp.gr).cells i 10 N M hq
            cases ee
            clear hv4 hv6 hwas hrf1 hrd hr7
            go_wp2_with fail
            have hgd := grown_drew w7 none
            have hMd := hMp.grown hgd
            refine wp_region_any (by kernel_rfl) ?_
            change wpAny _ _ _ _ _ _ _ (World.drew _)
            refine reg23_at (by kernel_rfl) hMd.both hao rfl hlt (hgd.cell hj0 (by simp)) (hgd.cell hj1 (by simp)) (hgd.cell hj2 (by simp)) hN hM rfl rfl rfl rfl rfl rfl rfl ?_
            rintro ⟨tm, df⟩ w3 hsz' hdf' hsame h122 ⟨at2, o', cp', hB'⟩ hG
            have hM3 := hMd.asked hB' hG
            obtain ⟨mid, hl, e⟩ := mid_of 68 55 158 rfl hsz' (by omega) hsame
            obtain ⟨v0, v1, v2, v3, v4, v5, v6, v7, v8, v9, v10, v11, v12, v13, v14, v15, v16, v17, v18, v19, v20, v21, v22, v23, v24, v25, v26, v27, v28, v29, v30, v31, v32, v33, v34, v35, v36, v37, v38, v39, v40, v41, v42, v43, v44, v45, v46, v47, v48, v49, v50, v51, v52, v53, v54, rfl⟩ := fifty_five hl
            dsimp only [List.take_succ_cons, List.drop_succ_cons, List.take_zero, List.drop_zero, List.cons_append, List.nil_append] at e
            subst e
            obtain rfl : v54 = .bool false := by simpa using h122
            obtain rfl : df = [] := hdf'
            clear hsame hsz' h122 hl
            go_wp2
            go_roundw
            case rel => exact ⟨b2, g2, o', cp', at2, oo', oc', wo', wc', mm + 1, i + 1, _, by omega, by omega, rfl, rfl, rfl, by go_num, hM3⟩
            case measure => simp [intOf]; omega
          · have hKd : decide (K = 10) = false := by simp [hK]
            have hKb : (K == 10) = false := by simp [hK]
            go_wp2_with fail
            have hgd := grown_drew wr none
            have hMd := hMk.grown hgd
            refine wp_region_any (by kernel_rfl) ?_
            change wpAny _ _ _ _ _ _ _ (World.drew _)
            refine reg23_at (by kernel_rfl) hMd.both hao rfl hlt (hgd.cell hk0 (by simp)) (hgd.cell hk1 (by simp)) (hgd.cell hk2 (by simp)) hN hM rfl rfl rfl rfl rfl rfl rfl ?_
            rintro ⟨tm, df⟩ w3 hsz' hdf' hsame h122 ⟨at2, o', cp', hB'⟩ hG
            have hM3 := hMd.asked hB' hG
            obtain ⟨mid, hl, e⟩ := mid_of 68 55 158 rfl hsz' (by omega) hsame
            obtain ⟨v0, v1, v2, v3, v4, v5, v6, v7, v8, v9, v10, v11, v12, v13, v14, v15, v16, v17, v18, v19, v20, v21, v22, v23, v24, v25, v26, v27, v28, v29, v30, v31, v32, v33, v34, v35, v36, v37, v38, v39, v40, v41, v42, v43, v44, v45, v46, v47, v48, v49, v50, v51, v52, v53, v54, rfl⟩ := fifty_five hl
            dsimp only [List.take_succ_cons, List.drop_succ_cons, List.take_zero, List.drop_zero, List.cons_append, List.nil_append] at e
            subst e
            obtain rfl : v54 = .bool false := by simpa using h122
            obtain rfl : df = [] := hdf'
            clear hsame hsz' h122 hl
            go_wp2
            go_roundw
            case rel => exact ⟨b, g, o', cp', at2, oo, oc, wo, wc, mm, i + 1, os, by omega, by omega, rfl, rfl, rfl, by go_num, hM3⟩
            case measure => simp [intOf]; omega
        · have hd : decide ((i : Int) < (m : Int)) = false := by simp; omega
          go_wp2_with fail
          clear hMn
          go_loopw [12] (fun i' wk => ∃ rb i3 : Nat, i3 ≤ mm ∧ i' = .int .i64 i3 ∧ Main w wk b g o cp rb ao n cap L at' oo oc wo wc mm os) (fun i' _ => mm - (intOf i').toNat)
          case atStart => exact ⟨_, 0, Nat.zero_le _, rfl, hMk⟩
          case round =>
            obtain ⟨rb3, i3, hi3, rfl, hM3⟩ := hrel
            clear hMk
            by_cases hlt3 : i3 < mm
            · have hlo : os.length = mm := by have h9 := hM3.old.len; simpa using h9
              obtain ⟨t, ht⟩ : ∃ t, os[i3]? = some t := ⟨os[i3]'(by omega), List.getElem?_eq_getElem _⟩
              obtain ⟨hr3, hta, _⟩ := hM3.each t (List.mem_of_getElem? ht)
              obtain ⟨gO, rfl, _⟩ := hM3.old.addr (by omega)
              obtain ⟨gW, rfl, _⟩ := hM3.was.addr (by omega)
              have hk0 := hM3.old.cell (j := i3) (u := .pointer (some ⟨t.b, 0, none⟩)) (by simp [ht])
              have hk1 := hM3.was.cell (j := i3) (u := .int .i64 t.at') (by simp [ht])
              have hgd := grown_drew wr none
              go_wp2_with fail
              refine wp_region_any (by kernel_rfl) ?_
              change wpAny _ _ _ _ _ _ _ (World.drew _)
              refine reg28 (by kernel_rfl) (hr3.grown hgd) hta (hM3.both.rf.bs.grown hgd) hao hM3.both.rf.bd rfl rfl hlt3 (hgd.cell hk0 (by simp)) (hgd.cell hk1 (by simp)) rfl rfl rfl rfl rfl rfl ?_
              rintro ⟨tm, df⟩ w3 hsz' hdf' hsame h153 hG
              have hM4 := (hM3.grown hgd).grown hG
              obtain ⟨mid, hl, e⟩ := mid_of 129 25 158 rfl hsz' (by omega) hsame
              obtain ⟨v0, v1, v2, v3, v4, v5, v6, v7, v8, v9, v10, v11, v12, v13, v14, v15, v16, v17, v18, v19, v20, v21, v22, v23, v24, rfl⟩ := twenty_five hl
              dsimp only [List.take_succ_cons, List.drop_succ_cons, List.take_zero, List.drop_zero, List.cons_append, List.nil_append] at e
              subst e
              obtain rfl : v24 = .bool false := by simpa using h153
              obtain rfl : df = [] := hdf'
              clear hsame hsz' h153 hl hM3 hr3 hk0 hk1
              go_wp2
              go_roundw
              case rel => exact ⟨rb3, i3 + 1, by omega, by go_num, hM4⟩
              case measure => simp [intOf]; omega
            · have hd3 : decide ((i3 : Int) < (mm : Int)) = false := by simp; omega
              go_wp2_with fail
              refine (nothing_any _).mono ?_
              rintro e w8 ⟨rfl, hg8⟩
              go_wp2_with fail
              refine (works_any _).mono ?_
              rintro e w9 ⟨rfl, hg9⟩
              go_wp2
              go_ret
              exact ⟨rfl, grown_trans (grown_trans hM3.gr hg8 (by simp)) hg9 (by simp)⟩

end Go.Proofs.Ytocicepnlepfeaa
