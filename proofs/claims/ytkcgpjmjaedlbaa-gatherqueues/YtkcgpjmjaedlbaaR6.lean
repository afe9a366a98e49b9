/-
  GatherTakes: the walk, first half.
-/
import Derived.Test.YtkcgpjmjaedlbaaR4
import Derived.Test.YtkcgpjmjaedlbaaR5
import Derived.Deep.DeepCutAuto
import Derived.Deep.CutRange
import Derived.Deep.CutBlock
namespace Go.Proofs.Ytkcgpjmjaedlbaa
open Go.RowKit
set_option linter.unusedVariables false
theorem Als.mem {l m : List Cl} (h : Als l m) {c : Cl} (hc : c ∈ l) : ∃ d ∈ m, c.al d := by
  obtain ⟨j, hj⟩ := List.getElem?_of_mem hc
  have hjl : j < m.length := by have := (List.getElem?_eq_some_iff.1 hj).1; have := h.1; omega
  exact ⟨_, List.getElem_mem hjl, h.2 j c _ hj (List.getElem?_eq_getElem hjl)⟩
theorem Als.allP {l m : List Cl} (h : Als l m) : allP l = allP m := by
  have key : ∀ (a b : List Cl), a.map Cl.k = b.map Cl.k → Ytkcgpjmjaedlbaa.allP a = Ytkcgpjmjaedlbaa.allP b := fun a b e => by
    have e2 : ∀ x : List Cl, Ytkcgpjmjaedlbaa.allP x = (x.map Cl.k).all fun k => decide (k = 1) := fun x => by
      unfold Ytkcgpjmjaedlbaa.allP
      rw [List.all_map]
      rfl
    rw [e2, e2, e]
  apply key
  apply List.ext_getElem?
  intro j
  rw [List.getElem?_map, List.getElem?_map]
  cases h1 : l[j]? with
  | none =>
    have : m[j]? = none := by rw [List.getElem?_eq_none_iff] at h1 ⊢; have := h.1; omega
    rw [this]
  | some c =>
    cases h2 : m[j]? with
    | none => rw [List.getElem?_eq_none_iff] at h2; have := (List.getElem?_eq_some_iff.1 h1).1; have := h.1; omega
    | some d => simp [(h.2 j c d h1 h2).k]
theorem Cl.al.trans {a b c : Cl} (h : a.al b) (k : b.al c) : a.al c := ⟨h.k.trans k.k, h.p.trans k.p, h.b.trans k.b, h.i.trans k.i, h.n.trans k.n, h.ds.trans k.ds⟩
theorem Als.trans {a b c : List Cl} (h : Als a b) (k : Als b c) : Als a c := ⟨h.1.trans k.1, fun j x z hx hz => by
  have hj : j < b.length := by have := (List.getElem?_eq_some_iff.1 hx).1; have := h.1; omega
  exact (h.2 j x _ hx (List.getElem?_eq_getElem hj)).trans (k.2 j _ z (List.getElem?_eq_getElem hj) hz)⟩
/-- The five cells of a call. -/
def Five (w : World) (b o : Nat) (c : Cl) : Prop := w.cell? ⟨b, o, none⟩ = some (.int .i64 c.k) ∧ w.cell? ⟨b, o + 1, none⟩ = some (.int .i64 c.p) ∧ w.cell? ⟨b, o + 2, none⟩ = some (.slice c.y.o c.y.n c.y.c) ∧ w.cell? ⟨b, o + 3, none⟩ = some (.int .i64 c.b) ∧ w.cell? ⟨b, o + 4, none⟩ = some (.int .i64 c.i)
theorem call_al (w : World) (c d : Cl) (h : c.al d) (hc : Rs w c.y.o c.y.n c.y.c c.y.l) (hd : Rs w d.y.o d.y.n d.y.c d.y.l) :
    Calls Try.prog 31 #[.agg #[.int .i64 c.k, .int .i64 c.p, .slice c.y.o c.y.n c.y.c, .int .i64 c.b, .int .i64 c.i], .agg #[.int .i64 d.k, .int .i64 d.p, .slice d.y.o d.y.n d.y.c, .int .i64 d.b, .int .i64 d.i]] w fun e w' => e = .returned (.bool true) ∧ w.grownBy w' none :=
  Rq.call_same w c d h.k h.p h.b h.i hc hd h.ds
theorem lookC_al {take : Int} {l m : List Cl} (h : Als l m) (hs : shl (ys l) = shl (ys m)) : lookC take l = lookC take m := by
  unfold lookC
  rw [h.allP, refR_al hs]
theorem lookC_take {take : Int} {l : List Cl} (h : take < 1) : lookC take l = 2 := by
  unfold lookC refR
  rw [if_pos h]
  split <;> rfl
theorem lookC_kind {take : Int} {l : List Cl} (h : allP l = false) : lookC take l = 2 := by
  unfold lookC
  rw [h]
  rfl
theorem lookC_lists {take : Int} {l : List Cl} (h : ¬ take < 1) (hp : allP l = true) : lookC take l = lref (ys l) := by
  unfold lookC refR
  rw [if_pos hp, if_neg h]

set_option maxRecDepth 100000 in
set_option maxHeartbeats 8000000 in
theorem gatherTakes_any (w : World) (take : Int) (ao : Option Addr) (n cap : Nat) (l : List Cl) (hv : Vc w ao n cap l) (hp : Plain ao) (hr : ∀ c ∈ l, Rs w c.y.o c.y.n c.y.c c.y.l) :
    Calls Try.prog 4 #[.int .i64 take, .slice ao n cap] w fun e w' => e = .returned (.bool true) ∧ w.grownBy w' none := by
  have hlen := hv.len
  by_cases h256 : n ≤ 256
  · have hd0 : decide ((n : Int) > 256) = false := by simp; omega
    go_enter Try.func4, Try.ntmps4
    go_wp2_with fail
    go_loopw [5, 6, 7] (fun s' f' i' wr => ∃ (i : Nat) (lo : Option Addr) (lc : Nat) (F : Bool), i ≤ n ∧ i' = .int .i64 i ∧ s' = .slice lo i lc ∧ f' = .bool F ∧ Hid (F = !allP (l.take i)) ∧ Vo wr w.heap.size 32 lo i lc ((ys (l.take i)).map Rl.head) ∧ Hid (i = 0 → lo = none ∧ lc = 0) ∧ w.grownBy wr none) (fun _ _ i' _ => n - (intOf i').toNat)
    case atStart => exact ⟨0, none, 0, false, Nat.zero_le _, rfl, rfl, rfl, (by simp [allP] : _ = _), by simpa [ys] using Vo.nil _ _ _, fun _ => ⟨rfl, rfl⟩, grown_refl _ _⟩
    case round =>
      obtain ⟨i, lo, lc, F, hi, rfl, rfl, rfl, hF, hV, hz, hgr⟩ := hrel
      by_cases hlt : i < n
      · have hd : decide ((i : Int) < (n : Int)) = true := by simp; omega
        have h1 : i < l.length := by omega
        obtain ⟨xb, xo, rfl, hxl⟩ := hv.addr (by omega)
        have hu := List.getElem?_eq_getElem h1
        have hU : ∀ W, w.grownBy W none → W.cell? ⟨xb, xo + i * 5, none⟩ = some (.int .i64 (l[i]).k) ∧ W.cell? ⟨xb, xo + i * 5 + 2, none⟩ = some (.slice (l[i]).y.o (l[i]).y.n (l[i]).y.c) := fun W hW => by
          obtain ⟨u0, u1, u2, u3, u4⟩ := (hv.grown hW).five hu
          exact ⟨u0, u2⟩
        have htk : Hid ((ys (l.take (i + 1))).map Rl.head = (ys (l.take i)).map Rl.head ++ [(l[i]).y.head]) := by show _ = _; rw [List.take_succ_eq_append_getElem h1, ys_snoc, List.map_append]; rfl
        have hap : Hid (allP (l.take (i + 1)) = (allP (l.take i) && decide ((l[i]).k = 1))) := by show _ = _; unfold allP; rw [List.take_succ_eq_append_getElem h1, List.all_append]; simp
        generalize l[i] = u at *
        obtain ⟨a0, a2⟩ := hU _ hgr
        have i1 : (0 : Int) ≤ (i : Int) := by omega
        have i2 : (i : Int) < (n : Int) := by omega
        have gb := alloc_grown wr (.cells #[.slice u.y.o u.y.n u.y.c] 32)
        have hvx := Vs.one1 wr (.slice u.y.o u.y.n u.y.c) 32 rfl
        clear hu
        go_wp2_with (at_builtin; refine wpList_append_blk _ rfl (.tmp 35) (.tmp 41) 22 rfl w.heap.size 32 (.slice none 0 0) 24 Try.underlying22 Try.info32 rfl (by decide) rfl (hV.grown gb) rfl hvx (by decide) (by omega) (Nat.le_trans hgr.size gb.size) ?_)
        intro lo3 lc3 w3 hv3 hg3 hb3
        have hG3 : w.grownBy w3 none := grown_trans (grown_trans hgr gb (by simp)) hg3 (fun k hk => Or.inr (hV.from_base k hk).1)
        obtain ⟨b0, b2⟩ := hU _ hG3
        have hV3 : Vo w3 w.heap.size 32 lo3 (i + 1) lc3 ((ys (l.take (i + 1))).map Rl.head) := by rw [htk.out]; exact hv3
        clear hV hvx gb hv3 hg3 hb3 a0 a2 hU
        cases F
        · have hal : allP (l.take i) = true := by have := hF.out; simpa using this
          have HAL : Hid (allP (l.take i) = true) := hal
          clear hal
          by_cases hk : u.k = 1
          · have hkd : (u.k != 1) = false := by simpa using hk
            have hF3 : Hid (false = !allP (l.take (i + 1))) := by show _ = _; rw [hap.out, HAL.out, hk]; rfl
            clear hk
            go_wp2
            go_roundw
            case rel => exact ⟨i + 1, lo3, lc3, false, by omega, by go_num, rfl, rfl, hF3, hV3, fun e => absurd e (by omega), hG3⟩
            case measure => simp [intOf]; omega
          · have hkd : (u.k != 1) = true := by simpa using hk
            have hF3 : Hid (true = !allP (l.take (i + 1))) := by show _ = _; rw [hap.out, HAL.out]; simp [hk]
            clear hk
            go_wp2
            go_roundw
            case rel => exact ⟨i + 1, lo3, lc3, true, by omega, by go_num, rfl, rfl, hF3, hV3, fun e => absurd e (by omega), hG3⟩
            case measure => simp [intOf]; omega
        · have hF3 : Hid (true = !allP (l.take (i + 1))) := by
            show _ = _
            have h9 : allP (l.take i) = false := by have := hF.out; simpa using this
            rw [hap.out, h9]
            rfl
          go_wp2
          go_roundw
          case rel => exact ⟨i + 1, lo3, lc3, true, by omega, by go_num, rfl, rfl, hF3, hV3, fun e => absurd e (by omega), hG3⟩
          case measure => simp [intOf]; omega
      · obtain rfl : i = n := by omega
        have hd : decide ((i : Int) < (i : Int)) = false := by simp
        have htl : l.take i = l := List.take_of_length_le (by omega)
        rw [htl] at hV
        have HF : Hid (F = !allP l) := by have := hF.out; rw [htl] at this; exact this
        have hLs : Ls wr lo i lc (ys l) := ⟨hV.shows, hV.plain, fun x hx => by obtain ⟨c, hc, rfl⟩ := List.mem_map.1 hx; exact (hr c hc).grown hgr⟩
        clear hF htl
        go_wp2_with fail
        refine (many2_any _ lo i lc (ys l) hLs).mono ?_
        rintro e w0 ⟨⟨B, rfl, hB⟩, hw0⟩
        replace hw0 := hw0.symm
        subst hw0
        cases B
        · obtain ⟨_, hfl, hs3⟩ := hB rfl
          have hs : ∀ c ∈ l, c.y.n ≤ 4096 := fun c hc => by have := hs3 c.y (List.mem_map.2 ⟨c, hc, rfl⟩); omega
          clear hB hs3
          go_wp2_with fail
          refine (Rq.queue_any _ ao i cap l (hv.grown hgr) hp (fun c hc => (hr c hc).grown hgr) h256 hs).mono ?_
          rintro e w2 ⟨b, g, qs, rfl, hq2, hals, haq2, hb, hg, hg2⟩
          have hqs : ∀ c ∈ qs, c.y.n ≤ 4096 := fun c hc => by obtain ⟨d, hd, h9⟩ := hals.mem hc; rw [h9.n]; exact hs d hd
          have hql : qs.length = i := by rw [hals.1]; exact hlen
          have hshl : shl (ys qs) = shl (ys l) := shl_rs (fun x hx => by obtain ⟨c, hc, rfl⟩ := List.mem_map.1 hx; exact hr c hc) (fun x hx => by obtain ⟨c, hc, rfl⟩ := List.mem_map.1 hx; exact (haq2 c hc).rs) hals.ds
          have hlkC : lookC take qs = lookC take l := lookC_al hals hshl
          go_wp2_with fail
          refine (Rq.look_any _ take b g 256 0 qs hq2 (fun c hc => (haq2 c hc).rs) hqs).mono ?_
          rintro e w3 ⟨⟨cn, ce, rfl, hLF⟩, hg3⟩
          have hq3 := hq2.grown hg3
          have haq3 := fun c hc => (haq2 c hc).grown hg3
          have hlen3 := Rq.len_any w3 b g 256 0 qs.length hq3.hd (by decide)
          rw [hql] at hlen3
          clear hq2 haq2
          go_wp2_with fail
          refine hlen3.mono ?_
          rintro e w3' ⟨rfl, hw3⟩
          replace hw3 := hw3.symm
          subst hw3
          clear hlen3
          go_wp2_with fail
          refine (Rq.take_all _ take b g 256 0 qs hq3 haq3 hqs).mono ?_
          rintro e w4 ⟨co, k, kc, ro, N, rc, ce2, rfl, hT⟩
          have hcn : cn = k := by
            rcases hLF with ⟨h1, h2, _⟩ | ⟨h1, h2, h3⟩
            · rw [h2, hT.no h1]
            · exact h3.one (hT.tk h1)
          have hce : ce = lookC take qs := by
            rcases hLF with ⟨h1, h2, h3⟩ | ⟨h1, h2, h3⟩
            · exact h3
            · rw [h2, h1]
          have hce2 := hT.code
          rw [hlkC] at hce hce2
          obtain ⟨C, hC⟩ : ∃ C, lookC take l = C := ⟨_, rfl⟩
          rw [hC] at hce hce2 hlkC
          replace hcn := hcn.symm
          subst hcn
          replace hce := hce.symm
          subst hce
          replace hce2 := hce2.symm
          subst hce2
          have HC : Hid (lookC take l = C) := hC
          have hki : k ≤ i := by
            by_cases h9 : lookC take qs = 0
            · have := (hT.tk h9).le; rw [ys_len, hql] at this; exact this
            · have := hT.no h9; omega
          have hTl : Hid (C = 0 → Tk take (ys l) k) := fun h => (hT.tk (hlkC.trans h)).al hshl
          have hTn : Hid (C ≠ 0 → k = 0) := fun h => hT.no (fun e => h (hlkC.symm.trans e))
          have hG4 : wr.grownBy w4 none := (((Chg.of_grown hg2 (Rq.two b g)).trans (Chg.of_grown hg3 _)).trans hT.chg).grown (fun q hq e => by rcases e with e | e <;> omega)
          have hLs4 := hLs.grown hG4
          have hrl := rlists_any w4 lo i lc (ys l) hLs4 (fun x hx => by obtain ⟨c, hc, rfl⟩ := List.mem_map.1 hx; exact hs c hc) (by omega)
          have hqR : ∀ c ∈ qs.drop k, Rs w4 c.y.o c.y.n c.y.c c.y.l := fun c hc => haq3 c (List.mem_of_mem_drop hc) w4 hT.chg
          clear hLF hC hlkC hq3 haq3 hg2 hg3
          go_wp2_with fail
          refine hrl.mono ?_
          rintro e w5 ⟨rfl, hg5⟩
          clear hrl
          generalize hcode : lref (ys l) = code at *
          have HCD : Hid (lref (ys l) = code) := hcode
          clear hcode
          obtain ⟨D, hDD⟩ : ∃ D, (decide (take < 1) || F) = D := ⟨_, rfl⟩
          have hD : Hid (D = true → C = 2) := fun h => by
            rw [← HC.out]
            rw [← hDD] at h
            by_cases ht : take < 1
            · exact lookC_take ht
            · have h9 : F = true := by simpa [ht] using h
              rw [h9] at HF
              exact lookC_kind (by have := HF.out; simpa using this)
          have hD2 : Hid (D = false → code = C ∧ 1 ≤ take) := fun h => by
            rw [← HC.out, ← HCD.out]
            rw [← hDD] at h
            have h8 : ¬ take < 1 ∧ F = false := by simpa using h
            obtain ⟨ht, h9⟩ := h8
            rw [h9] at HF
            exact ⟨(lookC_lists ht (by have := HF.out; simpa using this)).symm, by omega⟩
          have HDD : Hid ((decide (take < 1) || F) = D) := hDD
          clear hDD
          go_upto_region 20 with fail
          go_cut [83] from 79 to 83 (fun v wx => v = .bool D ∧ wx = w5)
          case first =>
            by_cases ht : take < 1
            · have d1 : decide (take < 1) = true := by simpa using ht
              go_wp2
              go_meet
              case rel => exact ⟨by rw [← HDD.out, d1]; rfl, rfl⟩
            · have d1 : decide (take < 1) = false := by simpa using ht
              go_wp2
              go_meet
              case rel => exact ⟨by rw [← HDD.out, d1]; rfl, rfl⟩
          case rest =>
            obtain ⟨rfl, hwc⟩ := hcut
            replace hwc := hwc.symm
            subst hwc
            go_upto_if 83 with fail
            go_cut [14] from 79 to 83 (fun v wx => v = .int .i64 C ∧ wx = w5)
            case first =>
              cases D
              · obtain ⟨rfl, _⟩ := hD2.out rfl
                go_wp2
                go_meet
                case rel => exact ⟨rfl, rfl⟩
              · obtain rfl := hD.out rfl
                go_wp2
                go_meet
                case rel => exact ⟨rfl, rfl⟩
            case rest =>
              obtain ⟨rfl, hwc⟩ := hcut
              replace hwc := hwc.symm
              subst hwc
              have hG5 := grown_trans hG4 hg5 (by simp)
              have hcnt : Hid (∀ W, wr.grownBy W none → C = 0 → Calls Try.prog 24 #[.int .i64 take, .slice lo i lc] W fun e w' => e = .returned (.int .i64 k) ∧ W.grownBy w' none) := fun W hW h0 => by
                have hDf : D = false := by
                  cases hDD : D with
                  | false => rfl
                  | true => have := hD.out hDD; omega
                obtain ⟨h8, h9⟩ := hD2.out hDf
                refine (rcount_any W take lo i lc (ys l) (hLs.grown hW) (by rw [HCD.out, h8, h0]) h9 (by omega)).mono ?_
                rintro e w' ⟨⟨k', rfl, hk'⟩, hg'⟩
                obtain rfl := hk'.one (hTl.out h0)
                exact ⟨rfl, hg'⟩
              clear hD hD2 HDD HCD HF
              go_wp2_with fail
              refine (Rq.take_nil _ _).mono ?_
              rintro e w' ⟨rfl, hw'⟩
              replace hw' := hw'.symm
              subst hw'
              go_wp2_with fail
              refine (Rq.look_nil _ _).mono ?_
              rintro e w' ⟨rfl, hw'⟩
              replace hw' := hw'.symm
              subst hw'
              go_upto_if 118 with (go_at_call 18; refine (num_any _ _).mono ?_; rintro e w' ⟨rfl, hw'⟩; replace hw' := hw'.symm; subst hw')
              go_cut [20] from 118 to 121 (fun v wx => v = .int .i64 k ∧ w5.grownBy wx none)
              case first =>
                by_cases h0 : C = 0
                · have d1 : (C == 0) = true := by simpa using h0
                  have hc9 := hcnt.out w5 hG5 h0
                  clear h0
                  go_wp2_with fail
                  refine hc9.mono ?_
                  rintro e w6 ⟨rfl, hg6⟩
                  go_wp2
                  go_meet
                  case rel => exact ⟨rfl, hg6⟩
                · have d1 : (C == 0) = false := by simpa using h0
                  have hk0 : Hid (k = 0) := hTn.out h0
                  clear h0
                  go_wp2
                  go_meet
                  case rel => exact ⟨by rw [hk0.out]; rfl, grown_refl _ _⟩
              case rest =>
                obtain ⟨rfl, hg6⟩ := hcut
                have hG6 := grown_trans hG5 hg6 (by simp)
                have hg46 := grown_trans hg5 hg6 (by simp)
                clear hcnt hTl hTn HC
                have hdF : Hid (ds (flat (ys (qs.take k))) = ds (flat ((ys l).take k))) := by
                  show _ = _
                  rw [← ys_take]
                  exact ds_flat (hals.take k).ds
                have hLk : ∀ W, wr.grownBy W none → Ls W lo k lc ((ys l).take k) := fun W hW => by
                  have h9 := hLs.grown hW
                  refine ⟨⟨by simp [ys_len]; omega, by have := h9.vs.room; omega, h9.vs.top, h9.vs.nil, fun u hu => h9.vs.one u (by rw [List.map_take] at hu; exact List.mem_of_mem_take hu), fun a ha j u hu => h9.vs.cells a ha j u ?_⟩, h9.plain, fun x hx => h9.shows x (List.mem_of_mem_take hx)⟩
                  rw [List.map_take, List.getElem?_take] at hu
                  split at hu
                  · exact hu
                  · cases hu
                obtain ⟨FL, hFL⟩ : ∃ FL, flat ((ys l).take k) = FL := ⟨_, rfl⟩
                rw [hFL] at hdF
                have hFLn : FL.length ≤ 3000 := by
                  rw [← hFL]
                  have h9 := flat_append ((ys l).take k) ((ys l).drop k)
                  rw [List.take_append_drop] at h9
                  rw [h9, List.length_append] at hfl
                  omega
                have hTog : Hid (∀ W, wr.grownBy W none → Calls Try.prog 17 #[.slice lo k lc] W fun e w' => ∃ tq tc, e = .returned (.slice tq FL.length tc) ∧ Rs w' tq FL.length tc FL ∧ W.grownBy w' none) := fun W hW => by
                  refine (rtogether_any W lo k lc _ (hLk W hW) (by omega) (by rw [hFL]; omega)).mono ?_
                  rw [hFL]
                  rintro e w' ⟨tq, tc, rfl, hR, hg'⟩
                  refine ⟨tq, tc, rfl, hR.shows (fun r hr' => ?_), hg'⟩
                  rw [← hFL] at hr'
                  obtain ⟨l9, h8, h9⟩ := List.mem_flatten.1 hr'
                  obtain ⟨x, hx, rfl⟩ := List.mem_map.1 h8
                  exact (((hLk W hW).grown hg').shows x hx).shows r h9
                have hSm : Hid (∀ W, w4.grownBy W none → ∀ tq tc, Rs W tq FL.length tc FL → Calls Try.prog 20 #[.slice ro N rc, .slice tq FL.length tc] W fun e w' => e = .returned (.bool true) ∧ W.grownBy w' none) := fun W hW tq tc hQ => by
                  obtain ⟨rs, h8, h9⟩ := hT.recs
                  have h7 := rsame_any W ro tq N FL.length rc tc rs FL (h8.grown hW) hQ
                  rwa [show sameAllB rs FL = true from decide_eq_true (h9.trans hdF.out)] at h7
                clear hdF hFL hLk
                generalize FL.length = M at *
                go_upto_region 29 with fail
                go_cut [151] from 122 to 151 (fun v wx => v = .bool false ∧ wc.grownBy wx none)
                case first =>
                  have k1 : (0 : Int) ≤ (k : Int) := by omega
                  have k3 : ((k : Int) != (k : Int)) = false := by simp
                  have k4 : (C != C) = false := by simp
                  by_cases hi0 : i = 0
                  · obtain ⟨rfl, rfl⟩ := hz.out hi0
                    have k2 : (k : Int) ≤ ((0 : Nat) : Int) := by omega
                    have hT9 := hTog.out wc hG6
                    have HI : Hid (i = 0) := hi0
                    clear hi0 hTog
                    go_wp2_with (first | (go_at_call 18; refine (num_any _ _).mono ?_; rintro e w' ⟨rfl, hw'⟩; replace hw' := hw'.symm; subst hw') | (go_at_call 20; refine (hSm.out _ (grown_trans hg46 hg7 (by simp)) _ _ hQ7).mono ?_; rintro e w8 ⟨rfl, hg8⟩) | (go_at_call 17; refine hT9.mono ?_; rintro e w7 ⟨tq, tc, rfl, hQ7, hg7⟩))
                    go_meet
                    case rel => exact ⟨rfl, grown_trans hg7 hg8 (by simp)⟩
                  · obtain ⟨lb, rfl, _, _⟩ := hV.addr (by omega)
                    have hrm := hLs.vs.room
                    have k2 : (k : Int) ≤ (lc : Int) := by omega
                    have hc0 : ¬ lc = 0 := by omega
                    have hT9 := hTog.out wc hG6
                    clear hi0 hTog
                    go_wp2_with (first | (go_at_call 18; refine (num_any _ _).mono ?_; rintro e w' ⟨rfl, hw'⟩; replace hw' := hw'.symm; subst hw') | (go_at_call 20; refine (hSm.out _ (grown_trans hg46 hg7 (by simp)) _ _ hQ7).mono ?_; rintro e w8 ⟨rfl, hg8⟩) | (go_at_call 17; refine hT9.mono ?_; rintro e w7 ⟨tq, tc, rfl, hQ7, hg7⟩))
                    go_meet
                    case rel => exact ⟨rfl, grown_trans hg7 hg8 (by simp)⟩
                case rest =>
                  obtain ⟨rfl, hg7⟩ := hcut
                  have hG7 := grown_trans hG6 hg7 (by simp)
                  have hg47 := grown_trans hg46 hg7 (by simp)
                  have hW4 : w.grownBy w4 none := grown_trans hgr hG4 (by simp)
                  obtain ⟨cs, hcs, hcal, hcr⟩ := hT.row
                  have hcl := hcs.len
                  have hCL : Als cs (l.take k) := hcal.trans (hals.take k)
                  have hRg := hT.rg
                  have hDal : Als (qs.drop k) (l.drop k) := hals.drop k
                  have hqr : ∀ c ∈ qs.drop k, Rs w4 c.y.o c.y.n c.y.c c.y.l := hqR
                  clear hTog hSm hG6 hg46 hG5 hg5 hg6 hg7 hG7 hLs hLs4 hz hV hT hcal
                  go_wp2_with fail
                  go_loopw [21] (fun j' wr => ∃ (j : Nat), j ≤ k ∧ j' = .int .i64 j ∧ w4.grownBy wr none) (fun j' _ => k - (intOf j').toNat)
                  case atStart => exact ⟨0, Nat.zero_le _, rfl, hg47⟩
                  case round =>
                    obtain ⟨j, hj, rfl, hgj⟩ := hrel
                    by_cases hjk : j < k
                    · have hd2 : decide ((j : Int) < (k : Int)) = true := by simp; omega
                      obtain ⟨cb, cf, rfl, _⟩ := hcs.addr (by omega)
                      obtain ⟨xb, xo, rfl, _⟩ := hv.addr (by omega)
                      have hjc : j < cs.length := by omega
                      have hjl : j < l.length := by omega
                      have hcj := List.getElem?_eq_getElem hjc
                      have hlj := List.getElem?_eq_getElem hjl
                      have hal1 := hCL.2 j _ _ hcj (by rw [List.getElem?_take, if_pos hjk]; exact hlj)
                      have hS : ∀ W, w4.grownBy W none → Five W cb (cf + j * 5) cs[j] ∧ Five W xb (xo + j * 5) l[j] := fun W hW => ⟨(hcs.grown hW).five hcj, (hv.grown (grown_trans hW4 hW (by simp))).five hlj⟩
                      have hcall := fun W (hW : w4.grownBy W none) => call_al W _ _ hal1 ((hcr _ (List.getElem_mem hjc)).grown hW) ((hr _ (List.getElem_mem hjl)).grown (grown_trans hW4 hW (by simp)))
                      generalize cs[j] = c at *
                      generalize l[j] = d at *
                      have j1 : (0 : Int) ≤ (j : Int) := by omega
                      have j2 : (j : Int) < (k : Int) := by omega
                      have j3 : (j : Int) < (i : Int) := by omega
                      have hS9 : ∀ w', w4.grownBy w' none → w'.cell? ⟨cb, cf + j * 5, none⟩ = some (.int .i64 c.k) ∧ w'.cell? ⟨cb, cf + j * 5 + 1, none⟩ = some (.int .i64 c.p) ∧ w'.cell? ⟨cb, cf + j * 5 + 2, none⟩ = some (.slice c.y.o c.y.n c.y.c) ∧ w'.cell? ⟨cb, cf + j * 5 + 3, none⟩ = some (.int .i64 c.b) ∧ w'.cell? ⟨cb, cf + j * 5 + 4, none⟩ = some (.int .i64 c.i) ∧ w'.cell? ⟨xb, xo + j * 5, none⟩ = some (.int .i64 d.k) ∧ w'.cell? ⟨xb, xo + j * 5 + 1, none⟩ = some (.int .i64 d.p) ∧ w'.cell? ⟨xb, xo + j * 5 + 2, none⟩ = some (.slice d.y.o d.y.n d.y.c) ∧ w'.cell? ⟨xb, xo + j * 5 + 3, none⟩ = some (.int .i64 d.b) ∧ w'.cell? ⟨xb, xo + j * 5 + 4, none⟩ = some (.int .i64 d.i) := fun W hW => by
                        obtain ⟨⟨a0, a1, a2, a3, a4⟩, b0, b1, b2, b3, b4⟩ := hS W hW
                        exact ⟨a0, a1, a2, a3, a4, b0, b1, b2, b3, b4⟩
                      have hS1 := hS9 _ hgj
                      clear hcj hlj hal1 hS
                      go_wp2_with fail
                      go_region_held3 (fun w' => w'.cell? ⟨cb, cf + j * 5, none⟩ = some (.int .i64 c.k) ∧ w'.cell? ⟨cb, cf + j * 5 + 1, none⟩ = some (.int .i64 c.p) ∧ w'.cell? ⟨cb, cf + j * 5 + 2, none⟩ = some (.slice c.y.o c.y.n c.y.c) ∧ w'.cell? ⟨cb, cf + j * 5 + 3, none⟩ = some (.int .i64 c.b) ∧ w'.cell? ⟨cb, cf + j * 5 + 4, none⟩ = some (.int .i64 c.i) ∧ w'.cell? ⟨xb, xo + j * 5, none⟩ = some (.int .i64 d.k) ∧ w'.cell? ⟨xb, xo + j * 5 + 1, none⟩ = some (.int .i64 d.p) ∧ w'.cell? ⟨xb, xo + j * 5 + 2, none⟩ = some (.slice d.y.o d.y.n d.y.c) ∧ w'.cell? ⟨xb, xo + j * 5 + 3, none⟩ = some (.int .i64 d.b) ∧ w'.cell? ⟨xb, xo + j * 5 + 4, none⟩ = some (.int .i64 d.i)) (first | with_reducible exact hS1 | with_reducible exact hS2 | go_keep)
                        ((go_at_call 31; refine (hcall _ (grown_trans hgj (grown_drewN wr 1 none) (by simp))).mono ?_; rintro e w8 ⟨rfl, hg8⟩; have hgd : w4.grownBy w8 none := grown_trans hgj (grown_trans (grown_drewN wr 1 none) hg8 (by simp)) (by simp); have hS2 := hS9 _ hgd))
                      clear hS1 hS2 hS9 hcall
                      go_wp2
                      go_roundw
                      case rel => exact ⟨j + 1, by omega, by go_num, hgd⟩
                      case measure => simp [intOf]; omega
                    · obtain rfl : j = k := by omega
                      have hd2 : decide ((j : Int) < (j : Int)) = false := by simp
                      go_wp2_with fail
                      go_loopw [22, 23, 24] (fun j' _ _ wr => ∃ (q : Nat), q + j ≤ i ∧ j' = .int .i64 q ∧ w4.grownBy wr none) (fun j' _ _ _ => i - j - (intOf j').toNat)
                      case atStart => exact ⟨0, by omega, rfl, hgj⟩
                      case round =>
                        obtain ⟨q, hq, rfl, hgq⟩ := hrel
                        by_cases hlt3 : q + j < i
                        · have hd3 : decide ((q : Int) < (i : Int) - (j : Int)) = true := by simp; omega
                          obtain ⟨xb, xo, rfl, _⟩ := hv.addr (by omega)
                          have hqc : q < (qs.drop j).length := by simp; omega
                          obtain ⟨T, hTe⟩ : ∃ T, j + q = T := ⟨_, rfl⟩
                          have hjl : T < l.length := by omega
                          have hcj := List.getElem?_eq_getElem hqc
                          have hlj := List.getElem?_eq_getElem hjl
                          have hal1 := hDal.2 q _ _ hcj (by rw [List.getElem?_drop, hTe]; exact hlj)
                          have hpk := Rq.peek_any wr b g 256 ((0 + j) % 256) q (qs.drop j) _ (hRg.grown hgq) hcj
                          have hS5 : ∀ W, w4.grownBy W none → Five W xb (xo + T * 5) l[T] := fun W hW => (hv.grown (grown_trans hW4 hW (by simp))).five hlj
                          have hcall := fun W (hW : w4.grownBy W none) => call_al W _ _ hal1 ((hqr _ (List.getElem_mem hqc)).grown hW) ((hr _ (List.getElem_mem hjl)).grown (grown_trans hW4 hW (by simp)))
                          generalize (qs.drop j)[q] = u at *
                          generalize l[T] = d at *
                          unfold Cl.val at hpk
                          have t0 : (j : Int) + (q : Int) = (T : Int) := by omega
                          have t1 : IntKind.i64.wrap (T : Int) = (T : Int) := by rw [IntWalk.i64_in _ (by omega)]
                          have t2 : (0 : Int) ≤ (T : Int) := by omega
                          have t3 : (T : Int) < (i : Int) := by omega
                          have HTE : Hid (j + q = T) := hTe
                          clear hTe
                          clear hcj hlj hal1
                          go_wp2_with fail
                          refine hpk.mono ?_
                          rintro e w8 ⟨rfl, hg8⟩
                          clear hpk
                          have hg48 := grown_trans hgq hg8 (by simp)
                          have ga := alloc_grown w8 (.cells #[.int .i64 u.k, .int .i64 u.p, .slice u.y.o u.y.n u.y.c, .int .i64 u.b, .int .i64 u.i] 55)
                          have kA := heap_alloc_new w8 (.cells #[.int .i64 u.k, .int .i64 u.p, .slice u.y.o u.y.n u.y.c, .int .i64 u.b, .int .i64 u.i] 55)
                          have hg4A := grown_trans hg48 ga (by simp)
                          have hS9 : ∀ w', (w8.alloc (.cells #[.int .i64 u.k, .int .i64 u.p, .slice u.y.o u.y.n u.y.c, .int .i64 u.b, .int .i64 u.i] 55)).grownBy w' none → w'.cell? ⟨w8.heap.size, 0, none⟩ = some (.int .i64 u.k) ∧ w'.cell? ⟨w8.heap.size, 1, none⟩ = some (.int .i64 u.p) ∧ w'.cell? ⟨w8.heap.size, 2, none⟩ = some (.slice u.y.o u.y.n u.y.c) ∧ w'.cell? ⟨w8.heap.size, 3, none⟩ = some (.int .i64 u.b) ∧ w'.cell? ⟨w8.heap.size, 4, none⟩ = some (.int .i64 u.i) ∧ w'.cell? ⟨xb, xo + T * 5, none⟩ = some (.int .i64 d.k) ∧ w'.cell? ⟨xb, xo + T * 5 + 1, none⟩ = some (.int .i64 d.p) ∧ w'.cell? ⟨xb, xo + T * 5 + 2, none⟩ = some (.slice d.y.o d.y.n d.y.c) ∧ w'.cell? ⟨xb, xo + T * 5 + 3, none⟩ = some (.int .i64 d.b) ∧ w'.cell? ⟨xb, xo + T * 5 + 4, none⟩ = some (.int .i64 d.i) := fun W hW => by
                            obtain ⟨b0, b1, b2, b3, b4⟩ := hS5 W (grown_trans hg4A hW (by simp))
                            have k9 := heap_kept hW kA (by simp)
                            exact ⟨cell_of (i := 0) k9 rfl, cell_of (i := 1) k9 rfl, cell_of (i := 2) k9 rfl, cell_of (i := 3) k9 rfl, cell_of (i := 4) k9 rfl, b0, b1, b2, b3, b4⟩
                          go_wp2_with fail
                          generalize w8.alloc (.cells #[.int .i64 u.k, .int .i64 u.p, .slice u.y.o u.y.n u.y.c, .int .i64 u.b, .int .i64 u.i] 55) = wA at *
                          have hS1 := hS9 _ (grown_refl wA none)
                          clear hS5 ga kA
                          go_region_held3 (fun w' => w'.cell? ⟨w8.heap.size, 0, none⟩ = some (.int .i64 u.k) ∧ w'.cell? ⟨w8.heap.size, 1, none⟩ = some (.int .i64 u.p) ∧ w'.cell? ⟨w8.heap.size, 2, none⟩ = some (.slice u.y.o u.y.n u.y.c) ∧ w'.cell? ⟨w8.heap.size, 3, none⟩ = some (.int .i64 u.b) ∧ w'.cell? ⟨w8.heap.size, 4, none⟩ = some (.int .i64 u.i) ∧ w'.cell? ⟨xb, xo + T * 5, none⟩ = some (.int .i64 d.k) ∧ w'.cell? ⟨xb, xo + T * 5 + 1, none⟩ = some (.int .i64 d.p) ∧ w'.cell? ⟨xb, xo + T * 5 + 2, none⟩ = some (.slice d.y.o d.y.n d.y.c) ∧ w'.cell? ⟨xb, xo + T * 5 + 3, none⟩ = some (.int .i64 d.b) ∧ w'.cell? ⟨xb, xo + T * 5 + 4, none⟩ = some (.int .i64 d.i)) (first | with_reducible exact hS1 | with_reducible exact hS2 | go_keep)
                            (first | (go_at_call 18; refine (num_any _ _).mono ?_; rintro e w' ⟨rfl, hw'⟩; replace hw' := hw'.symm; subst hw') | (go_at_call 31; refine (hcall _ (grown_trans hg4A (grown_drewN wA 1 none) (by simp))).mono ?_; rintro e w9 ⟨rfl, hg9⟩; have hgd : w4.grownBy w9 none := grown_trans hg4A (grown_trans (grown_drewN wA 1 none) hg9 (by simp)) (by simp); have hS2 := hS9 _ (grown_trans (grown_drewN wA 1 none) hg9 (by simp))))
                          clear hS1 hS2 hS9 hcall
                          go_wp2
                          go_roundw
                          case rel => exact ⟨q + 1, by omega, by go_num, hgd⟩
                          case measure => simp [intOf]; omega
                        · have hqe : q = i - j := by omega
                          have hd3 : decide ((q : Int) < (i : Int) - (j : Int)) = false := by simp; omega
                          have hlen9 := Rq.len_any wr b g 256 ((0 + j) % 256) (qs.drop j).length (hRg.grown hgq).hd (by decide)
                          obtain ⟨Z, hZ⟩ : ∃ Z : Nat, (qs.drop j).length = Z := ⟨_, rfl⟩
                          have hZ2 : ((Z : Int) == (i : Int) - (j : Int)) = true := by simp at hZ ⊢; omega
                          rw [hZ] at hlen9
                          clear hqe hZ
                          go_wp2_with fail
                          refine hlen9.mono ?_
                          rintro e w' ⟨rfl, hw'⟩
                          replace hw' := hw'.symm
                          subst hw'
                          go_wp2_with fail
                          refine (works_any _).mono ?_
                          rintro e w9 ⟨rfl, hg9⟩
                          go_wp2
                          go_ret
                          exact ⟨rfl, grown_trans hW4 (grown_trans hgq hg9 (by simp)) (by simp)⟩
        · go_wp2_with fail
          refine (works_any _).mono ?_
          rintro e w2 ⟨rfl, hg2⟩
          go_wp2
          go_ret
          exact ⟨rfl, grown_trans hgr hg2 (by simp)⟩
  · have hd0 : decide ((n : Int) > 256) = true := by simp; omega
    go_enter Try.func4, Try.ntmps4
    go_wp2_with fail
    refine (works_any _).mono ?_
    rintro e w2 ⟨rfl, hg2⟩
    go_wp2
    go_ret
    exact ⟨rfl, hg2⟩
end Go.Proofs.Ytkcgpjmjaedlbaa
