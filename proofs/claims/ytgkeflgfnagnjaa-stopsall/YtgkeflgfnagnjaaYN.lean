/-
  StopsAll: the document's Next, by numbers.
-/
import Derived.Test.YtgkeflgfnagnjaaYM
import Derived.Test.YtgkeflgfnagnjaaUH
namespace Go.Proofs.Ytgkeflgfnagnjaa
open Go.RowKit Go.Shelf
set_option linter.unusedVariables false
set_option maxRecDepth 100000

theorem irow_shape {w : World} {base n : Nat} {v : Value} {xs : List Value} (h : w.ownsRow base 3 1 v n xs) : ∃ ao cap, v = .slice ao n cap := by
  rcases h.2 with ⟨rfl, rfl⟩ | ⟨g, c, cur, rfl, _⟩
  · exact ⟨none, 0, rfl⟩
  · exact ⟨_, _, rfl⟩
theorem mdS_few : ∀ {U : List (Bool × Nat)} {ys : List Int}, (∀ u ∈ U, u.2 ≤ 1000000) → ∀ x ∈ mdS U ys, 2 ≤ x ∧ x ≤ 1000001
  | [], _, _, x, h => by simp [mdS] at h
  | _ :: _, [], _, x, h => by simp [mdS] at h
  | u :: t, y :: ys, hU, x, h => by
    simp only [mdS] at h
    rcases List.mem_append.1 h with h | h
    · have h2 := hU u (by simp)
      rw [mdL_is] at h
      split at h
      · split at h
        · simp at h; omega
        · split at h
          · simp at h; omega
          · simp at h; omega
      · split at h
        · simp at h
        · simp at h; omega
    · exact mdS_few (fun v hv => hU v (by simp [hv])) x h
section
variable {w : World} {T : Nat → Prop} {rb : Nat} {L : List Rf} {fs : List (Int × Int)} {st : Int}

set_option maxHeartbeats 8000000 in
theorem next_r (h : Rv w T rb L fs st) {i : Nat} {fs' : List (Int × Int)} {st' : Int} (hw : Lw L fs' st' i) (hi : i ≤ 300) (hg : Gd L) {k : Nat} (hk : k < prodW (unsF L)) (o : Option Addr) (pn pc : Nat) (hp : Ip w o pn (stpL (unsF L) (atW (unsF L) k))) :
    Calls Try.prog 26 #[.pointer (some ⟨rb, 0, none⟩), .slice o pn pc] w fun e w' => ∃ ao ac l' b, e = .returned (.tuple #[.slice ao (List.length l') ac, .bool b]) ∧ (k + 1 < prodW (unsF L) → b = true ∧ l' = stpL (unsF L) (atW (unsF L) (k + 1))) ∧ (¬ k + 1 < prodW (unsF L) → b = false ∧ l' = []) ∧ Ip w' ao l'.length l' ∧ (∀ q, blk ao = some q → w.heap.size ≤ q) ∧ w.grownBy w' none := by
  have hwy := atW_wy (unsF L) k
  have hin := stp_in hwy (way_few (uns_few hw hi) hwy)
  have hl600 := stpL_len (unsF L) (atW (unsF L) k)
  have hul := uns_len hw
  obtain ⟨a1, a2⟩ := ask_at hw hi hg k
  obtain ⟨n1, n2⟩ := nxt_at hw hi hk
  have ha := fun k => ask_at hw hi hg k
  have hlenL : L.length ≤ 4000 := by have := hw.len; omega
  have hsz : ∀ f ∈ L, f.la ≤ f.bs.length ∧ f.bs.length ≤ 1000000000000 := fun f hf => by have := hw.fl f hf; omega
  have hmf := mdS_few (ys := atW (unsF L) k) (uns_few hw hi)
  have hml := mdS_len (unsF L) (atW (unsF L) k)
  obtain ⟨l, hl⟩ : ∃ l, stpL (unsF L) (atW (unsF L) k) = l := ⟨_, rfl⟩
  obtain ⟨M, hM⟩ : ∃ M, mdS (unsF L) (atW (unsF L) k) = M := ⟨_, rfl⟩
  rw [hl] at hp a1 a2 n1 n2 hin hl600 hml
  rw [hM] at a2 n1 n2 hml hmf
  have hln : l.length = pn := hp.len
  have hcr := Mo.crash_r h hlenL hsz o pn pc l hp (by omega) (fun x hx => ⟨(hin x hx).1, by have := (hin x hx).2; omega⟩)
  rw [a1, a2] at hcr
  have N1 : HidO _ := n1
  have N2 : HidO _ := n2
  have HIN : HidO _ := hin
  have HA : HidO _ := ha
  have HSZ : HidO _ := hsz
  have HMF : HidO _ := hmf
  clear n1 n2 hin ha hsz hl hM hwy hp hmf
  go_enter Try.func26, Try.ntmps26
  go_wp2_with fail
  refine hcr.mono ?_
  rintro e w1 ⟨z, vp, vo, rfl, _, hP, hO, hg1⟩
  obtain ⟨po, pc1, rfl⟩ := irow_shape hP
  obtain ⟨oo, oc, rfl⟩ := irow_shape hO
  have hIp : Is' w1 po l.length pc1 l := Is'.of_vo ⟨by simp, hP, iv_one l⟩
  have hIo : Is' w1 oo M.length oc M := Is'.of_vo ⟨by simp, hO, iv_one M⟩
  rw [hml, hln] at hIo
  rw [hln] at hIp
  clear hcr hP hO
  go_wp2_with fail
  go_loopw [10] (fun v10 wr => ∃ (j : Nat) (y : Int), v10 = .int .i64 y ∧ y + 1 = (j : Int) ∧ j ≤ pn ∧ w1.grownBy wr none ∧ HidO (∀ (q : Nat) (a b : Int), j ≤ q → l[q]? = some a → M[q]? = some b → b - 1 ≤ a)) (fun v10 _ => (intOf v10 + 1).toNat)
  case atStart =>
    refine ⟨pn, (pn : Int) - 1, by first | rfl | go_num, by omega, Nat.le_refl _, grown_refl _ _, fun q a b hq ha _ => ?_⟩
    have := (List.getElem?_eq_some_iff.1 ha).1
    omega
  case round =>
    obtain ⟨j, y, rfl, hy, hj, hgw, hq⟩ := hrel
    have hIp := hIp.grownO hgw
    have hIo := hIo.grownO hgw
    by_cases hlt : 0 < j
    · obtain ⟨m, rfl⟩ : ∃ m, j = m + 1 := ⟨j - 1, by omega⟩
      obtain rfl : y = (m : Int) := by omega
      have hd : decide ((0 : Int) ≤ (m : Int)) = true := by simp
      obtain ⟨x, hx⟩ : ∃ x, l[m]? = some x := ⟨_, List.getElem?_eq_getElem (by omega)⟩
      obtain ⟨u, hu⟩ : ∃ u, M[m]? = some u := ⟨_, List.getElem?_eq_getElem (by omega)⟩
      obtain ⟨g, f, rfl⟩ : ∃ g f, po = some ⟨g, f, none⟩ := by
        cases po with
        | none => exact absurd (hIp.nil rfl) (by omega)
        | some a => obtain ⟨b, i, rfl⟩ := hIp.pl a rfl; exact ⟨b, i, rfl⟩
      obtain ⟨g2, f2, rfl⟩ : ∃ g f, oo = some ⟨g, f, none⟩ := by
        cases oo with
        | none => exact absurd (hIo.nil rfl) (by omega)
        | some a => obtain ⟨b, i, rfl⟩ := hIo.pl a rfl; exact ⟨b, i, rfl⟩
      have c1 := hIp.k g f rfl m x hx
      have c2 := hIo.k g2 f2 rfl m u hu
      have b1 : (0 : Int) ≤ (m : Int) := by omega
      have b2 : (m : Int) < (pn : Int) := by omega
      have hub := HMF.out u (List.mem_of_getElem? hu)
      have hxb := HIN.out x (List.mem_of_getElem? hx)
      have wu : IntKind.i64.wrap (u - 1) = u - 1 := by rw [IntWalk.i64_in _ (by omega)]
      have wx : IntKind.i64.wrap (x + 1) = x + 1 := by rw [IntWalk.i64_in _ (by omega)]
      by_cases hxu : x < u - 1
      · have dx : decide (x < u - 1) = true := by simpa using hxu
        have hnx : HidO (nxt l M = some (l.take m ++ [x + 1])) := nxt_idx l M m x u hx hu hxu (fun j a b hj h1 h2 => by have := hq.out j a b (by omega) h1 h2; omega)
        have r1 := hIp.room
        have r2 := hIp.top
        have r1' : (m : Int) ≤ (pc1 : Int) := by omega
        have hVs : Vs wr (some ⟨g, f, none⟩) pn pc1 (l.map iv) := ⟨by rw [List.length_map, hln], r1, r2, (fun e => by cases e), iv_one l, fun a e j u hu => by
          cases e
          rw [List.getElem?_map] at hu
          cases hj9 : l[j]? with
          | none => rw [hj9] at hu; cases hu
          | some z9 =>
            rw [hj9] at hu
            cases hu
            rw [Addr.add_lit]
            exact hIp.k g f rfl j z9 hj9⟩
        have hVm := hVs.cut 0 m (by omega) f (.inr rfl) pc1 (by omega) r2
        rw [List.drop_zero] at hVm
        have hgd := grown_drew wr none
        have hVm := hVm.grown hgd
        have hO0 := Vo.nil wr.drew wr.drew.heap.size 3
        clear hVs hx hu hIo hq
        go_wp2_with fail
        go_region
        go_wp2_with (at_builtin; (refine wpList_append_vs _ rfl _ _ 23 rfl wr.drew.heap.size 3 (.int .i64 0) 8 Try.underlying23 info3o rfl (by decide) rfl hO0 rfl hVm (by omega) (Nat.le_refl _) ?_))
        intro a5 c5 w5 hV5 hg5
        have hg5' : wr.drew.grownBy w5 none := by simpa [blk] using hg5
        have h51 := vs_one w5 (.int .i64 (x + 1)) rfl 3
        have g51 := aGrown w5 (.cells #[.int .i64 (x + 1)] 3)
        have hV6 := hV5.grown g51
        have hb5 : HidO (∀ q, blk a5 = some q → wr.heap.size ≤ q) := fun q hq => (hV5.from_base q hq).1
        have hs5 : wr.heap.size ≤ w5.heap.size := by have := hgd.size; have := hg5'.size; omega
        have hg05 := grown_trans (grown_trans (grown_trans hg1 hgw (by simp)) hgd (by simp)) hg5' (by simp)
        have c1' := hg5'.cell (hgd.cell c1 (by simp)) (by simp)
        clear hVm hO0 hg5 c1 hIp
        go_wp2_with (at_builtin; (refine wpList_append_vs _ rfl _ _ 23 rfl wr.heap.size 3 (.int .i64 0) 8 Try.underlying23 info3o rfl (by decide) rfl hV6 rfl h51 (by omega) (by simp; omega) ?_))
        intro a7 c7 w7 hV7 hg7
        have hg07 : wr.drew.grownBy w7 none := grown_trans (grown_trans hg5' g51 (by simp)) hg7 (fun q e => .inr (by have := hb5.out q e; simpa using this))
        have hg27 : w.grownBy w7 none := grown_trans (grown_trans (grown_trans hg1 hgw (by simp)) hgd (by simp)) hg07 (by simp)
        have e7 : (l.take m ++ [x + 1]).map iv = List.take m (l.map iv) ++ [.int .i64 (x + 1)] := by simp [iv, List.map_take]
        rw [← e7] at hV7
        have hpos : ∀ z9 ∈ l.take m ++ [x + 1], 0 ≤ z9 ∧ z9 < 9223372036854775808 := fun z9 hz => by
          rcases List.mem_append.1 hz with hz | hz
          · have := HIN.out z9 (List.mem_of_mem_take hz); omega
          · simp at hz; omega
        have hcr2 := Mo.crash_r (h.grown hg27) hlenL HSZ.out a7 (m + 1) c7 (l.take m ++ [x + 1]) (Is'.of_vo hV7).ip (by omega) hpos
        have hk1 : k + 1 < prodW (unsF L) := Classical.byContradiction fun hh => by
          have e1 := N2.out hh
          rw [hnx.out] at e1
          cases e1
        have hq7 : (cgs (l.take m ++ [x + 1]) L).1 = stpL (unsF L) (atW (unsF L) (k + 1)) := by
          obtain ⟨q, e1, e2⟩ := N1.out hk1
          rw [hnx.out] at e1
          cases e1
          rw [cgs_plain _ (fun z9 hz => (hpos z9 hz).1) hg]
          show plnL _ L = _
          rw [e2]
          show stpL (unsF L) (wbL _ (unsF L) 0) = _
          rw [wb_stp0 (atW_wy _ _)]
        rw [hq7] at hcr2
        clear hV5 hV6 hV7 h51 g51 hg7 hg05 c1' e7 hpos hq7
        go_wp2_with fail
        refine hcr2.mono ?_
        rintro e w8 ⟨z2, vp2, vo2, rfl, _, hP2, _, hg8⟩
        obtain ⟨po2, pc2, rfl⟩ := irow_shape hP2
        have hfin : HidO (Ip w8 po2 (stpL (unsF L) (atW (unsF L) (k + 1))).length (stpL (unsF L) (atW (unsF L) (k + 1))) ∧ (∀ q, blk po2 = some q → w.heap.size ≤ q) ∧ w.grownBy w8 none) := ⟨(Is'.of_vo ⟨by simp, hP2, iv_one _⟩).ip, fun q hq => Nat.le_trans hg27.size ((⟨by simp, hP2, iv_one _⟩ : Vo w8 w7.heap.size 3 po2 _ pc2 _).from_base q hq).1, grown_trans hg27 hg8 (by simp)⟩
        clear hcr2 hP2 hg8 hg27
        go_wp2
        refine bodyPost_ret (v := .tuple #[.slice po2 (stpL (unsF L) (atW (unsF L) (k + 1))).length pc2, .bool true]) (by simp [results, Try.results26, go_sem]) rfl ?_
        exact ⟨po2, pc2, _, true, rfl, fun _ => ⟨rfl, rfl⟩, fun hh => (hh hk1).elim, hfin.out.1, hfin.out.2.1, hfin.out.2.2⟩
      · have dx : decide (x < u - 1) = false := by simpa using hxu
        have hq2 : HidO (∀ (q : Nat) (a b : Int), m ≤ q → l[q]? = some a → M[q]? = some b → b - 1 ≤ a) := fun q a b h1 h2 h3 => by
          by_cases e : q = m
          · subst e
            rw [hx] at h2
            rw [hu] at h3
            cases h2
            cases h3
            omega
          · exact hq.out q a b (by omega) h2 h3
        clear hx hu hIp hIo hq
        go_wp2_with fail
        go_region
        go_wp2
        go_roundw
        case rel => exact ⟨m, (m : Int) - 1, by first | rfl | go_num, by omega, by omega, by first | exact grown_trans hgw (grown_drew wr none) (by simp) | exact hgw, hq2⟩
        case measure => simp [intOf]
    · obtain rfl : j = 0 := by omega
      obtain rfl : y = -1 := by omega
      have hn9 : ¬ k + 1 < prodW (unsF L) := fun hh => by
        obtain ⟨q, e1, _⟩ := N1.out hh
        rw [nxt_none l M (fun j a b h1 h2 => by have := hq.out j a b (by omega) h1 h2; omega)] at e1
        cases e1
      go_wp2
      refine bodyPost_ret (v := .tuple #[.slice none 0 0, .bool false]) (by simp [results, Try.results26, go_sem]) rfl ?_
      exact ⟨none, 0, [], false, rfl, fun hh => (hn9 hh).elim, fun _ => ⟨rfl, rfl⟩, ⟨rfl, fun i x hx => by cases hx⟩, (fun q e => by cases e), grown_trans hg1 hgw (by simp)⟩
end
end Go.Proofs.Ytgkeflgfnagnjaa
