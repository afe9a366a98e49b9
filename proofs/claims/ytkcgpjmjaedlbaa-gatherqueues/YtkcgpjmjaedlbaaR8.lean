/-
  GatherQueues: the walk.
-/
import Derived.Test.YtkcgpjmjaedlbaaR7
namespace Go.Proofs.Ytkcgpjmjaedlbaa
open Go.RowKit
set_option linter.unusedVariables false
set_option maxRecDepth 100000 in
set_option maxHeartbeats 8000000 in
theorem gatherQueues_any (w : World) (take : Int) (ao : Option Addr) (n cap : Nat) (l : List Cl) (hv : Vc w ao n cap l) (hp : Plain ao) (hat : ∀ a, ao = some a → a.block < w.heap.size) (hr : ∀ c ∈ l, Rs w c.y.o c.y.n c.y.c c.y.l) :
    Calls Try.prog 7 #[.int .i64 take, .slice ao n cap] w fun e w' => e = .returned (.bool true) ∧ w.grownBy w' none := by
  have hlen := hv.len
  by_cases h256 : n ≤ 256
  · have hd0 : decide ((n : Int) > 256) = false := by simp; omega
    go_enter Try.func7, Try.ntmps7
    go_wp2_with fail
    go_loopw [5, 6] (fun s' i' wr => ∃ (i : Nat) (lo : Option Addr) (lc : Nat), i ≤ n ∧ i' = .int .i64 i ∧ s' = .slice lo i lc ∧ Hid (allP (l.take i) = true) ∧ Vo wr w.heap.size 32 lo i lc ((ys (l.take i)).map Rl.head) ∧ w.grownBy wr none) (fun _ i' _ => n - (intOf i').toNat)
    case atStart => exact ⟨0, none, 0, Nat.zero_le _, rfl, rfl, (by simp [allP] : _ = _), by simpa [ys] using Vo.nil _ _ _, grown_refl _ _⟩
    case round =>
      obtain ⟨i, lo, lc, hi, rfl, rfl, hF, hV, hgr⟩ := hrel
      by_cases hlt : i < n
      · have hd : decide ((i : Int) < (n : Int)) = true := by simp; omega
        have h1 : i < l.length := by omega
        obtain ⟨xb, xo, rfl, hxl⟩ := hv.addr (by omega)
        have hu := List.getElem?_eq_getElem h1
        have hU : ∀ W, w.grownBy W none → W.cell? ⟨xb, xo + i * 5, none⟩ = some (.int .i64 (l[i]).k) ∧ W.cell? ⟨xb, xo + i * 5 + 2, none⟩ = some (.slice (l[i]).y.o (l[i]).y.n (l[i]).y.c) := fun W hW => by
          obtain ⟨u0, u1, u2, u3, u4⟩ := (hv.grown hW).five hu
          exact ⟨u0, u2⟩
        have htk : Hid ((ys (l.take (i + 1))).map Rl.head = (ys (l.take i)).map Rl.head ++ [(l[i]).y.head]) := by show _ = _; rw [List.take_succ_eq_append_getElem h1, ys_snoc, List.map_append]; rfl
        have hap : (l[i]).k = 1 → Hid (allP (l.take (i + 1)) = true) := fun hk => allP_take h1 hF.out hk
        generalize l[i] = u at *
        obtain ⟨a0, a2⟩ := hU _ hgr
        have i1 : (0 : Int) ≤ (i : Int) := by omega
        have i2 : (i : Int) < (n : Int) := by omega
        by_cases hk : u.k = 1
        · have hF3 := hap hk
          have hkd : (u.k != 1) = false := by simpa using hk
          have gb := alloc_grown wr (.cells #[.slice u.y.o u.y.n u.y.c] 32)
          have hvx := Vs.one1 wr (.slice u.y.o u.y.n u.y.c) 32 rfl
          clear hu hk hap hF hU
          go_wp2_with (at_builtin; refine wpList_append_blk _ rfl (.tmp 39) (.tmp 45) 22 rfl w.heap.size 32 (.slice none 0 0) 24 Try.underlying22 Try.info32 rfl (by decide) rfl (hV.grown gb) rfl hvx (by decide) (by omega) (Nat.le_trans hgr.size gb.size) ?_)
          intro lo3 lc3 w3 hv3 hg3 hb3
          have hG3 : w.grownBy w3 none := grown_trans (grown_trans hgr gb (by simp)) hg3 (fun k hk => Or.inr (hV.from_base k hk).1)
          have hV3 : Vo w3 w.heap.size 32 lo3 (i + 1) lc3 ((ys (l.take (i + 1))).map Rl.head) := by rw [htk.out]; exact hv3
          clear hV hvx gb hv3 hg3 hb3 a0 a2
          go_wp2
          go_roundw
          case rel => exact ⟨i + 1, lo3, lc3, by omega, by go_num, rfl, hF3, hV3, hG3⟩
          case measure => simp [intOf]; omega
        · have hkd : (u.k != 1) = true := by simpa using hk
          clear hu hk hap hF hU
          go_wp2_with fail
          refine (works_any _).mono ?_
          rintro e w2 ⟨rfl, hg2⟩
          go_wp2
          go_ret
          exact ⟨rfl, grown_trans hgr hg2 (by simp)⟩
      · obtain rfl : i = n := by omega
        have hd : decide ((i : Int) < (i : Int)) = false := by simp
        have htl : l.take i = l := List.take_of_length_le (by omega)
        rw [htl] at hV
        have HF : Hid (allP l = true) := by have := hF.out; rw [htl] at this; exact this
        have hLs : Ls wr lo i lc (ys l) := ⟨hV.shows, hV.plain, fun x hx => by obtain ⟨c, hc, rfl⟩ := List.mem_map.1 hx; exact (hr c hc).grown hgr⟩
        clear hF htl
        go_wp2_with fail
        refine (many2_any _ lo i lc (ys l) hLs).mono ?_
        rintro e w0 ⟨⟨B, rfl, hB⟩, hw0⟩
        replace hw0 := hw0.symm
        subst hw0
        cases B
        · obtain ⟨_, hfl, hs3⟩ := hB rfl
          have hs : ∀ c ∈ l, c.y.n ≤ 4096 := fun c hc => by have := hs3 c.y (List.mem_map.2 ⟨c, hc, rfl⟩); omega
          clear hB hs3
          go_wp2_with fail
          refine (plan_all _ take lo i lc (ys l) hLs (fun x hx => by obtain ⟨c, hc, rfl⟩ := List.mem_map.1 hx; exact hs c hc) (by omega)).mono ?_
          rintro e w2 ⟨⟨po, pn, pc, pe, rfl, hP⟩, hg2⟩
          have hG2 := grown_trans hgr hg2 (by simp)
          rcases hP with ⟨hne, rfl, rfl⟩ | ⟨hR0, rfl, ps, rfl, hPn, hVp⟩
          · obtain ⟨pe, hpe⟩ : ∃ pe, refR take (ys l) = pe := ⟨_, rfl⟩
            rw [hpe] at hne ⊢
            have hd1 : (pe != 0) = true := by simpa using hne
            clear hpe hne
            go_wp2_with fail
            refine (num_any _ _).mono ?_
            rintro e w' ⟨rfl, hw'⟩
            replace hw' := hw'.symm
            subst hw'
            go_wp2_with fail
            refine (works_any _).mono ?_
            rintro e w3 ⟨rfl, hg3⟩
            go_wp2
            go_ret
            exact ⟨rfl, grown_trans hG2 hg3 (by simp)⟩
          · have hpl := hPn.len
            rw [ys_len, hlen] at hpl
            clear hLs hV hgr hg2
            go_wp2_with fail
            refine (num_any _ _).mono ?_
            rintro e w' ⟨rfl, hw'⟩
            replace hw' := hw'.symm
            subst hw'
            go_wp2_with fail
            refine (Rq.new_any _ 256 (by decide) (by decide)).mono ?_
            rintro e w3 ⟨b, g, rfl, hrg3, hb3, hg3, hgr3⟩
            have hput := Rq.put_any w3 b g 256 0 i cap ao [] l hrg3 ((hv.grown hG2).grown hgr3) (by simpa using h256) (fun a ha e => by have := hat a ha; have := hG2.size; omega) hp
            go_wp2_with (first | (go_at_call 18; refine (num_any _ _).mono ?_; rintro e w' ⟨rfl, hw'⟩; replace hw' := hw'.symm; subst hw') | (go_at_call 36; refine hput.mono ?_; rintro e w4 ⟨rfl, hrg4, hc4⟩))
            rw [List.nil_append] at hrg4
            have h24 : w2.grownBy w4 none := ((Chg.of_grown hgr3 (Rq.two b g)).trans hc4).grown (fun q hq e => by rcases e with e | e <;> omega)
            have hsz := hG2.size
            have hsum := hPn.sum
            rw [ys_len, hlen] at hsum
            have hlk0 := fun q => lookC_drop HF.out hR0 q
            have hlr0 : ∀ c ∈ l, c.y.l ≠ [] := fun c hc => (fitsR_ok ((lref_ok (refR_pos hR0).2).2 c.y (List.mem_map.2 ⟨c, hc, rfl⟩))).2.1
            have haq : ∀ W, w2.grownBy W none → ∀ c ∈ l, Aq W (Rq.two b g) c.y := fun W hW c hc => Aq.old (hr c hc) (grown_trans hG2 hW (by simp)) (fun q e => by rcases e with e | e <;> omega)
            have HSUM : Hid (ps.sum = i) := hsum
            clear hput hrg3 hc4 hgr3 hsum hR0
            go_loopw [11, 12, 13, 14, 15, 16, 17, 18] (fun at' i' _ _ _ _ _ _ wr => ∃ (j s f : Nat), j ≤ ps.length ∧ i' = .int .i64 j ∧ at' = .int .i64 s ∧ Hid ((ps.take j).sum = s) ∧ s ≤ i ∧ Rq.Rg wr b g 256 f (l.drop s) ∧ w2.grownBy wr none) (fun _ i' _ _ _ _ _ _ _ => ps.length - (intOf i').toNat)
            case atStart => exact ⟨0, 0, 0, Nat.zero_le _, rfl, rfl, (by simp : _ = _), Nat.zero_le _, by simpa using hrg4, h24⟩
            case round =>
              obtain ⟨j, s, f, hj, rfl, rfl, hS, hsi, hRg, hg2r⟩ := hrel
              by_cases hjp : j < ps.length
              · have hd3 : decide ((j : Int) < (ps.length : Int)) = true := by simp; omega
                have htk := Rq.take_all wr take b g 256 f (l.drop s) hRg (fun c hc => haq wr hg2r c (List.mem_of_mem_drop hc)) (fun c hc => hs c (List.mem_of_mem_drop hc))
                go_wp2_with fail
                refine htk.mono ?_
                rintro e w5 ⟨co, k, kc, ro, N, rc, ce, rfl, hT⟩
                obtain rfl : ce = 0 := hT.code.trans (hlk0 s)
                have hTk := hT.tk (hlk0 s)
                have hpj : ps[j] = k := by
                  have h9 := hPn.tk j ps[j] (List.getElem?_eq_getElem hjp)
                  rw [hS.out] at h9
                  rw [ys_drop] at hTk
                  exact h9.one hTk
                have hS1 : Hid ((ps.take (j + 1)).sum = s + k) := by show _ = _; rw [sum_take_succ hjp, hS.out, hpj]
                have hkl : k ≤ i - s := by have := hTk.le; rw [ys_len] at this; simp at this; omega
                obtain ⟨pb, pf, rfl, _⟩ := hVp.addr (by omega)
                have h25 : w2.grownBy w5 none := ((Chg.of_grown hg2r (Rq.two b g)).trans hT.chg).grown (fun q hq e => by rcases e with e | e <;> omega)
                have cP : w5.cell? ⟨pb, pf + j, none⟩ = some (.int .i64 (k : Nat)) := by
                  have h9 := (hVp.grown h25).at (j := j) (u := iv k) (by rw [List.getElem?_map, List.getElem?_eq_getElem hjp, hpj]; rfl)
                  exact h9
                obtain ⟨cs, hcs, hcal, hcr⟩ := hT.row
                obtain ⟨rs, hrs, hds⟩ := hT.recs
                have hN := hT.num
                have hRg5 := hT.rg
                obtain ⟨lk, hlk⟩ : ∃ lk, (l.drop s).take k = lk := ⟨_, rfl⟩
                rw [hlk] at hcal hds hN
                rw [List.drop_drop] at hRg5
                have hlkl : lk.length = k := by rw [← hlk]; simp; omega
                have hcl := hcs.len
                have hlkg : ∀ q, q < k → lk[q]? = l[s + q]? := fun q hq => by rw [← hlk, List.getElem?_take, if_pos hq, List.getElem?_drop]
                have hW5 := grown_trans hG2 h25 (by simp)
                have HDS : Hid (ds rs = ds (flat (ys lk))) := hds
                have HN : Hid (N = (flat (ys lk)).length) := hN
                have hNb : N ≤ 3000 := by
                  rw [hN, ← hlk, ys_take, ys_drop]
                  have e1 := flat_append ((ys l).take s) ((ys l).drop s)
                  have e2 := flat_append (((ys l).drop s).take k) (((ys l).drop s).drop k)
                  rw [List.take_append_drop] at e1 e2
                  rw [e1, List.length_append, e2, List.length_append] at hfl
                  omega
                have hj1 : (0 : Int) ≤ (j : Int) := by omega
                have hj2 : (j : Int) < (ps.length : Int) := by omega
                have hd4 : ((k : Int) != (k : Int)) = false := by simp
                have hd5 : decide ((k : Int) > (i : Int) - (s : Int)) = false := by simp; omega
                clear hT htk hRg hTk hpj hlk hds hN
                go_wp2_with (go_at_call 18; refine (num_any _ _).mono ?_; rintro e w' ⟨rfl, hw'⟩; replace hw' := hw'.symm; subst hw')
                go_loopw [11, 16, 17, 18] (fun at' k' n' _ wr => ∃ (q a kk : Nat), q ≤ k ∧ n' = .int .i64 q ∧ at' = .int .i64 a ∧ k' = .int .i64 kk ∧ Hid (s + q = a) ∧ Hid ((flat (ys (lk.take q))).length = kk) ∧ w5.grownBy wr none) (fun _ _ n' _ _ => k - (intOf n').toNat)
                case atStart => exact ⟨0, s, 0, Nat.zero_le _, rfl, rfl, rfl, (by simp : _ = _), (by simp [ys, flat] : _ = _), grown_refl _ _⟩
                case round =>
                  obtain ⟨q, a, kk, hq, rfl, rfl, rfl, hA, hK, hg5r⟩ := hrel
                  by_cases hqk : q < k
                  · have hd6 : decide ((q : Int) < (k : Int)) = true := by simp; omega
                    obtain ⟨cb, cf, rfl, _⟩ := hcs.addr (by omega)
                    obtain ⟨xb, xo, rfl, _⟩ := hv.addr (by omega)
                    have hal : a < l.length := by have := hA.out; omega
                    have hai : a < i := by omega
                    have hqc : q < cs.length := by omega
                    have hql : q < lk.length := by omega
                    have hcj := List.getElem?_eq_getElem hqc
                    have hlj := List.getElem?_eq_getElem hal
                    have hlkq : lk[q]? = some l[a] := by rw [hlkg q hqk, hA.out]; exact hlj
                    have hlke : lk[q] = l[a] := by have := hlkq; rw [List.getElem?_eq_getElem hql] at this; exact Option.some.inj this
                    have hal1 := hcal.2 q _ _ hcj hlkq
                    have hS5 : ∀ W, w5.grownBy W none → Five W cb (cf + q * 5) cs[q] ∧ Five W xb (xo + a * 5) l[a] := fun W hW => ⟨(hcs.grown hW).five hcj, (hv.grown (grown_trans hW5 hW (by simp))).five hlj⟩
                    have hcall := fun W (hW : w5.grownBy W none) => call_al W _ _ hal1 ((hcr _ (List.getElem_mem hqc)).grown hW) ((hr _ (List.getElem_mem hal)).grown (grown_trans hW5 hW (by simp)))
                    have hRl : ∀ W, w5.grownBy W none → Rs W (l[a]).y.o (l[a]).y.n (l[a]).y.c (l[a]).y.l := fun W hW => (hr _ (List.getElem_mem hal)).grown (grown_trans hW5 hW (by simp))
                    have hxl : (l[a]).y.l.length = (l[a]).y.n := (hr _ (List.getElem_mem hal)).len
                    have hx0 : 0 < (l[a]).y.n := by have := List.length_pos_iff.2 (hlr0 _ (List.getElem_mem hal)); omega
                    have hqy : q < (ys lk).length := by rw [ys_len]; exact hql
                    have hyq : (ys lk)[q] = (l[a]).y := by simp [ys, hlke]
                    have hfp := flat_part hqy (ds rs) HDS.out
                    have hfl2 := flat_take_le (ys lk) q hqy
                    rw [hyq, hxl, ← ys_take, hK.out] at hfp hfl2
                    rw [← HN.out] at hfl2
                    have hK1 : Hid ((flat (ys (lk.take (q + 1)))).length = kk + (l[a]).y.n) := by
                      show _ = _
                      rw [ys_take, flat_succ hqy, List.length_append, hyq, hxl, ← ys_take, hK.out]
                    obtain ⟨rb, rf, rfl, _⟩ := hrs.addr (by omega)
                    have hroom := hrs.room
                    have hsm : ∀ W, w5.grownBy W none → Calls Try.prog 20 #[.slice (some ⟨rb, rf + kk * 3, none⟩) (l[a]).y.n (rc - kk), .slice (l[a]).y.o (l[a]).y.n (l[a]).y.c] W fun e w' => e = .returned (.bool true) ∧ W.grownBy w' none := fun W hW => by
                      have h9 := rsame_any W _ _ _ _ _ _ _ _ ((hrs.grown hW).part kk (l[a]).y.n (by omega)) (hRl W hW)
                      rwa [show sameAllB ((rs.drop kk).take (l[a]).y.n) (l[a]).y.l = true from decide_eq_true ((ds_part _ _ _).trans hfp)] at h9
                    clear hfp hqy hyq hlke hlkq hal1 hcj hlj hRl hxl
                    generalize cs[q] = c at *
                    generalize l[a] = d at *
                    obtain ⟨T, hTe⟩ : ∃ T, kk + d.y.n = T := ⟨_, rfl⟩
                    rw [hTe] at hK1
                    have t0 : (kk : Int) + (d.y.n : Int) = (T : Int) := by omega
                    have t1 : IntKind.i64.wrap (T : Int) = (T : Int) := by rw [IntWalk.i64_in _ (by omega)]
                    have t2 : (0 : Int) ≤ (kk : Int) := by omega
                    have t3 : (kk : Int) ≤ (T : Int) := by omega
                    have t4 : (T : Int) ≤ (rc : Int) := by omega
                    have t5 : T - kk = d.y.n := by omega
                    have t6 : ¬ rc = kk := by omega
                    obtain ⟨R, hRe⟩ : ∃ R, N - kk = R := ⟨_, rfl⟩
                    have r0 : (N : Int) - (kk : Int) = (R : Int) := by omega
                    have r1 : IntKind.i64.wrap (R : Int) = (R : Int) := by rw [IntWalk.i64_in _ (by omega)]
                    have r2 : decide ((d.y.n : Int) > (R : Int)) = false := by simp; omega
                    have r3 : decide ((R : Int) < (d.y.n : Int)) = false := by simp; omega
                    have r4 : decide (R < d.y.n) = false := by simp; omega
                    clear hRe
                    have a1 : (0 : Int) ≤ (a : Int) := by omega
                    have a2 : (a : Int) < (i : Int) := by omega
                    have q1 : (0 : Int) ≤ (q : Int) := by omega
                    have q2 : (q : Int) < (k : Int) := by omega
                    have hA1 : Hid (s + (q + 1) = a + 1) := by show _ = _; have := hA.out; omega
                    have hab : a + 1 ≤ 256 := by omega
                    have HTE : Hid (kk + d.y.n = T) := hTe
                    have hS9 : ∀ w', w5.grownBy w' none → w'.cell? ⟨cb, cf + q * 5, none⟩ = some (.int .i64 c.k) ∧ w'.cell? ⟨cb, cf + q * 5 + 1, none⟩ = some (.int .i64 c.p) ∧ w'.cell? ⟨cb, cf + q * 5 + 2, none⟩ = some (.slice c.y.o c.y.n c.y.c) ∧ w'.cell? ⟨cb, cf + q * 5 + 3, none⟩ = some (.int .i64 c.b) ∧ w'.cell? ⟨cb, cf + q * 5 + 4, none⟩ = some (.int .i64 c.i) ∧ w'.cell? ⟨xb, xo + a * 5, none⟩ = some (.int .i64 d.k) ∧ w'.cell? ⟨xb, xo + a * 5 + 1, none⟩ = some (.int .i64 d.p) ∧ w'.cell? ⟨xb, xo + a * 5 + 2, none⟩ = some (.slice d.y.o d.y.n d.y.c) ∧ w'.cell? ⟨xb, xo + a * 5 + 3, none⟩ = some (.int .i64 d.b) ∧ w'.cell? ⟨xb, xo + a * 5 + 4, none⟩ = some (.int .i64 d.i) := fun W hW => by
                      obtain ⟨⟨a0, a1, a2, a3, a4⟩, b0, b1, b2, b3, b4⟩ := hS5 W hW
                      exact ⟨a0, a1, a2, a3, a4, b0, b1, b2, b3, b4⟩
                    have hS1' := hS9 _ hg5r
                    obtain ⟨_, _, _, _, _, _, _, bx2, _, _⟩ := hS1'
                    have hS1' := hS9 _ hg5r
                    clear hTe hS5 hA hK
                    go_wp2_with fail
                    go_region_held3 (fun w' => w'.cell? ⟨cb, cf + q * 5, none⟩ = some (.int .i64 c.k) ∧ w'.cell? ⟨cb, cf + q * 5 + 1, none⟩ = some (.int .i64 c.p) ∧ w'.cell? ⟨cb, cf + q * 5 + 2, none⟩ = some (.slice c.y.o c.y.n c.y.c) ∧ w'.cell? ⟨cb, cf + q * 5 + 3, none⟩ = some (.int .i64 c.b) ∧ w'.cell? ⟨cb, cf + q * 5 + 4, none⟩ = some (.int .i64 c.i) ∧ w'.cell? ⟨xb, xo + a * 5, none⟩ = some (.int .i64 d.k) ∧ w'.cell? ⟨xb, xo + a * 5 + 1, none⟩ = some (.int .i64 d.p) ∧ w'.cell? ⟨xb, xo + a * 5 + 2, none⟩ = some (.slice d.y.o d.y.n d.y.c) ∧ w'.cell? ⟨xb, xo + a * 5 + 3, none⟩ = some (.int .i64 d.b) ∧ w'.cell? ⟨xb, xo + a * 5 + 4, none⟩ = some (.int .i64 d.i)) (first | with_reducible exact hS1' | with_reducible exact hS2' | with_reducible exact hS3' | go_keep)
                      (first | (go_at_call 31; refine (hcall _ (grown_trans hg5r (grown_drewN wr 1 none) (by simp))).mono ?_; rintro e w8 ⟨rfl, hg8⟩; have hgd : w5.grownBy w8 none := grown_trans hg5r (grown_trans (grown_drewN wr 1 none) hg8 (by simp)) (by simp); have hS2' := hS9 _ hgd) | (go_at_call 20; refine (hsm _ hgd).mono ?_; rintro e w9 ⟨rfl, hg9⟩; have hgd9 : w5.grownBy w9 none := grown_trans hgd hg9 (by simp); have hS3' := hS9 _ hgd9))
                    clear hS1' hS2' hS3' hS9 hcall hsm
                    go_wp2
                    go_roundw
                    case rel => exact ⟨q + 1, a + 1, T, by omega, by go_num, by go_num, by go_num, hA1, hK1, hgd9⟩
                    case measure => simp [intOf]; omega
                  · obtain rfl : q = k := by omega
                    have hd6 : decide ((q : Int) < (q : Int)) = false := by simp
                    have hkN : kk = N := by rw [HN.out, ← hK.out, List.take_of_length_le (by omega)]
                    subst hkN
                    have hd7 : ((kk : Int) != (kk : Int)) = false := by simp
                    have hRgr := hRg5.grown hg5r
                    have h2r := grown_trans h25 hg5r (by simp)
                    rw [hA.out] at hS1 hRgr
                    have hai : a ≤ i := by have := hA.out; omega
                    clear hcs hcal hcr hrs HDS HN hK hRg5 cP hlkg
                    go_wp2
                    go_roundw
                    case rel => exact ⟨j + 1, a, _, by omega, by go_num, rfl, hS1, hai, hRgr, h2r⟩
                    case measure => simp [intOf]; omega
              · obtain rfl : j = ps.length := by omega
                have hd3 : decide ((ps.length : Int) < (ps.length : Int)) = false := by simp
                obtain rfl : s = i := by rw [← hS.out, List.take_length, HSUM.out]
                have hlE : l.drop s = [] := List.drop_eq_nil_of_le (by omega)
                rw [hlE] at hRg
                have htk := Rq.take_all wr take b g 256 f [] hRg (fun c hc => (by cases hc)) (fun c hc => (by cases hc))
                have hl0 := hlk0 s
                rw [hlE] at hl0
                go_wp2_with fail
                refine htk.mono ?_
                rintro e w5 ⟨co, k, kc, ro, N, rc, ce, rfl, hT⟩
                obtain rfl : ce = 0 := hT.code.trans hl0
                obtain rfl : k = 0 := by have := (hT.tk hl0).le; simpa [ys] using this
                obtain rfl : N = 0 := by rw [hT.num]; simp [ys, flat]
                have hRg5 := hT.rg
                rw [List.drop_nil] at hRg5
                have h25 : w2.grownBy w5 none := ((Chg.of_grown hg2r (Rq.two b g)).trans hT.chg).grown (fun q hq e => by rcases e with e | e <;> omega)
                have hW5 := grown_trans hG2 h25 (by simp)
                have hlen5 := Rq.len_any w5 b g 256 _ 0 hRg5.hd (by decide)
                clear hT htk hRg hS
                go_wp2_with (first | (go_at_call 18; refine (num_any _ _).mono ?_; rintro e w' ⟨rfl, hw'⟩; replace hw' := hw'.symm; subst hw') | (go_at_call 29; refine hlen5.mono ?_; rintro e w' ⟨rfl, hw'⟩; replace hw' := hw'.symm; subst hw') | (go_at_call 9; refine (works_any _).mono ?_; rintro e w9 ⟨rfl, hg9⟩))
                go_ret
                exact ⟨rfl, grown_trans hW5 hg9 (by simp)⟩
        · go_wp2_with fail
          refine (works_any _).mono ?_
          rintro e w2 ⟨rfl, hg2⟩
          go_wp2
          go_ret
          exact ⟨rfl, grown_trans hgr hg2 (by simp)⟩
  · have hd0 : decide ((n : Int) > 256) = true := by simp; omega
    go_enter Try.func7, Try.ntmps7
    go_wp2_with fail
    refine (works_any _).mono ?_
    rintro e w2 ⟨rfl, hg2⟩
    go_wp2
    go_ret
    exact ⟨rfl, hg2⟩
end Go.Proofs.Ytkcgpjmjaedlbaa
