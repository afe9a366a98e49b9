/-
  The document's Offsets, Count, Plan; ints, longs: the walks.
-/
import Derived.Test.YtkcgpjmjaedlbaaM5
namespace Go.Proofs.Ytkcgpjmjaedlbaa
open Go.RowKit
set_option linter.unusedVariables false

set_option maxRecDepth 100000 in
set_option maxHeartbeats 2000000 in
theorem roffsets_any (w : World) (base : Int) (ao : Option Addr) (n cap : Nat) (L : List Rl) (ha : Ls w ao n cap L) (hn3 : n ≤ 300) (h0 : 0 ≤ base) (h1 : base ≤ 9007199254740992) (hN : (flat L).length ≤ 10000000) :
    Calls Try.prog 22 #[.int .i64 base, .slice ao n cap] w fun e w' => ∃ oo oc, e = .returned (.tuple #[.slice oo n oc, .int .i64 (base + ((flat L).length : Nat))]) ∧ Vo w' w.heap.size 2 oo n oc (offL base L n) ∧ w.grownBy w' none := by
  have hlen := ha.len
  have hfl : ∀ i, (flat (L.take i)).length ≤ 10000000 := fun i => by
    have h9 := flat_append (L.take i) (L.drop i)
    rw [List.take_append_drop] at h9
    rw [h9, List.length_append] at hN
    omega
  go_enter Try.func22, Try.ntmps22
  go_wp2_with fail
  go_loopw [0, 6, 7] (fun b' o' i' wr => ∃ (i S : Nat) (oo : Option Addr) (oc : Nat), i ≤ n ∧ i' = .int .i64 i ∧ b' = .int .i64 (base + (S : Int)) ∧ o' = .slice oo i oc ∧ Hid ((flat (L.take i)).length = S) ∧ S ≤ 10000000 ∧ Vo wr w.heap.size 2 oo i oc (offL base L i) ∧ w.grownBy wr none) (fun _ _ i' _ => n - (intOf i').toNat)
  case atStart => exact ⟨0, 0, none, 0, Nat.zero_le _, rfl, by simp, rfl, (by simp [flat] : _ = _), Nat.zero_le _, Vo.nil _ _ _, grown_refl _ _⟩
  case round =>
    obtain ⟨i, S, oo, oc, hi, rfl, rfl, rfl, hS, hSb, hv, hg⟩ := hrel
    by_cases hlt : i < n
    · have h2 : i < L.length := by omega
      obtain ⟨b, o, rfl, hbl⟩ := ha.vs.addr (by omega)
      have hd : decide ((i : Int) < (n : Int)) = true := by simp; omega
      have hcl : ∀ W, w.grownBy W none → W.cell? ⟨b, o + i, none⟩ = some (.slice (L[i]).o (L[i]).n (L[i]).c) := fun W hW => ((ha.grown hW).at h2).1
      have hln := (ha.shows _ (List.getElem_mem h2)).len
      have hS1 : Hid ((flat (L.take (i + 1))).length = S + (L[i]).n) := by show _ = _; rw [flat_succ h2, List.length_append, hln, hS.out]
      have hb1 := hfl (i + 1)
      rw [hS1.out] at hb1
      have hoff : Hid (offL base L (i + 1) = offL base L i ++ [.int .i64 (base + (S : Int))]) := by show _ = _; rw [offL_succ, hS.out]
      clear hS hln
      generalize L[i] = x at *
      have hga := alloc_grown wr (.cells #[.int .i64 (base + (S : Int))] 2)
      have hvx := Vs.one1 wr (.int .i64 (base + (S : Int))) 2 rfl
      go_wp2_with (at_builtin; refine wpList_append_vs _ rfl (.tmp 14) (.tmp 16) 35 rfl w.heap.size 2 (.int .i64 0) 8 Try.underlying35 Try.info2 rfl (by decide) rfl (hv.grown hga) rfl hvx (by omega) (Nat.le_trans hg.size hga.size) ?_)
      intro oo' oc' w3 hv3 hg3
      have hG3 : w.grownBy w3 none := grown_trans (grown_trans hg hga (by simp)) hg3 (fun k hk => Or.inr (hv.from_base k hk).1)
      have a1 := hcl _ hG3
      rw [← hoff.out] at hv3
      clear hv hga hvx hg3 hoff hcl
      have i1 : (0 : Int) ≤ (i : Int) := by omega
      have i2 : (i : Int) < (n : Int) := by omega
      go_wp2
      go_roundw
      case rel => exact ⟨i + 1, S + x.n, oo', oc', by omega, by go_num, by congr 1; push_cast; omega, rfl, hS1, hb1, hv3, hG3⟩
      case measure => simp [intOf]; omega
    · obtain rfl : i = n := by omega
      have hd : decide ((i : Int) < (i : Int)) = false := by simp
      have hF : L.take i = L := List.take_of_length_le (by omega)
      rw [hF] at hS
      go_wp2
      go_ret2
      exact ⟨oo, oc, by rw [hS.out]; rfl, hv, hg⟩

set_option maxRecDepth 100000 in
set_option maxHeartbeats 2000000 in
theorem longs_any (w : World) (ao bo : Option Addr) (n c d : Nat) (l : List Int) (ha : Vs w ao n c (l.map fun z => .int .i64 z)) (hb : Vs w bo n d (l.map fun z => .int .i64 z)) :
    Calls Try.prog 23 #[.slice ao n c, .slice bo n d] w fun e w' => e = .returned (.bool true) ∧ w.grownBy w' none := by
  have hlen : l.length = n := by have := ha.len; simpa using this
  have htop := Nat.le_trans ha.room ha.top
  unfold maxLen at htop
  have hne : ((n : Int) != (n : Int)) = false := by simp
  go_enter Try.func23, Try.ntmps23
  go_wp2_with fail
  go_loopw [5] (fun i' wr => ∃ i : Nat, i ≤ n ∧ i' = .int .i64 i ∧ w.grownBy wr none) (fun i' _ => n - (intOf i').toNat)
  case atStart => exact ⟨0, Nat.zero_le _, rfl, grown_refl _ _⟩
  case round =>
    obtain ⟨i, hi, rfl, hg⟩ := hrel
    by_cases hlt : i < n
    · have h1 : i < l.length := by omega
      obtain ⟨b, o, rfl, _⟩ := ha.addr (by omega)
      obtain ⟨b2, o2, rfl, _⟩ := hb.addr (by omega)
      have a1 := (ha.grown hg).at (j := i) (u := .int .i64 l[i]) (by simp [h1])
      have a2 := (hb.grown hg).at (j := i) (u := .int .i64 l[i]) (by simp [h1])
      generalize l[i] = z at *
      have hd : decide ((i : Int) < (n : Int)) = true := by simp; omega
      have hz : (z != z) = false := by simp
      have i1 : (0 : Int) ≤ (i : Int) := by omega
      have i2 : (i : Int) < (n : Int) := by omega
      go_wp2_with fail
      go_big_quiet (fail)
      go_wp2
      go_roundw
      case rel => exact ⟨i + 1, by omega, by go_num, grown_trans hg (grown_drewN wr _ none) (by simp)⟩
      case measure => simp [intOf]; omega
    · obtain rfl : i = n := by omega
      have hd : decide ((i : Int) < (i : Int)) = false := by simp
      go_wp2
      go_ret
      exact ⟨rfl, hg⟩

set_option maxRecDepth 100000 in
set_option maxHeartbeats 2000000 in
theorem ints_any (w : World) (ao bo : Option Addr) (n c d : Nat) (l : List Int) (ha : Vs w ao n c (l.map fun z => .int .i64 z)) (hb : Vs w bo n d (l.map fun z => .int .i64 z)) :
    Calls Try.prog 25 #[.slice ao n c, .slice bo n d] w fun e w' => e = .returned (.bool true) ∧ w.grownBy w' none := by
  have hlen : l.length = n := by have := ha.len; simpa using this
  have htop := Nat.le_trans ha.room ha.top
  unfold maxLen at htop
  have hne : ((n : Int) != (n : Int)) = false := by simp
  go_enter Try.func25, Try.ntmps25
  go_wp2_with fail
  go_loopw [5] (fun i' wr => ∃ i : Nat, i ≤ n ∧ i' = .int .i64 i ∧ w.grownBy wr none) (fun i' _ => n - (intOf i').toNat)
  case atStart => exact ⟨0, Nat.zero_le _, rfl, grown_refl _ _⟩
  case round =>
    obtain ⟨i, hi, rfl, hg⟩ := hrel
    by_cases hlt : i < n
    · have h1 : i < l.length := by omega
      obtain ⟨b, o, rfl, _⟩ := ha.addr (by omega)
      obtain ⟨b2, o2, rfl, _⟩ := hb.addr (by omega)
      have a1 := (ha.grown hg).at (j := i) (u := .int .i64 l[i]) (by simp [h1])
      have a2 := (hb.grown hg).at (j := i) (u := .int .i64 l[i]) (by simp [h1])
      generalize l[i] = z at *
      have hd : decide ((i : Int) < (n : Int)) = true := by simp; omega
      have hz : (z != z) = false := by simp
      have i1 : (0 : Int) ≤ (i : Int) := by omega
      have i2 : (i : Int) < (n : Int) := by omega
      go_wp2_with fail
      go_big_quiet (fail)
      go_wp2
      go_roundw
      case rel => exact ⟨i + 1, by omega, by go_num, grown_trans hg (grown_drewN wr _ none) (by simp)⟩
      case measure => simp [intOf]; omega
    · obtain rfl : i = n := by omega
      have hd : decide ((i : Int) < (i : Int)) = false := by simp
      go_wp2
      go_ret
      exact ⟨rfl, hg⟩

theorem fits_flat {L : List Rl} (hok : ∀ x ∈ L, (fitsR x.l).2 = 0) (hne : L ≠ []) : (fitsR (flat L)).2 = 0 ↔ Fit L := by
  have hall : (flat L).all mayR = true := by
    rw [List.all_eq_true]
    intro r hr
    unfold flat at hr
    obtain ⟨l, hl, hm⟩ := List.mem_flatten.1 hr
    obtain ⟨x, hx, rfl⟩ := List.mem_map.1 hl
    exact List.all_eq_true.1 (fitsR_ok (hok x hx)).1 r hm
  have hn : flat L ≠ [] := by
    cases L with
    | nil => exact absurd rfl hne
    | cons x t =>
      have h9 := (fitsR_ok (hok x (List.mem_cons_self ..))).2.1
      intro e
      have e2 : flat (x :: t) = x.l ++ flat t := by simp [flat]
      rw [e2] at e
      exact h9 (List.append_eq_nil_iff.1 e).1
  unfold fitsR Fit
  rw [if_neg (by rw [hall]; simp [hn])]
  by_cases h : 256 < (flat L).length ∨ 65536 < 20 + szs (flat L)
  · rw [if_pos h]
    simp
    omega
  · rw [if_neg h]
    simp
    omega

set_option maxRecDepth 100000 in
set_option maxHeartbeats 2000000 in
theorem rcount_any (w : World) (take : Int) (ao : Option Addr) (n cap : Nat) (L : List Rl) (ha : Ls w ao n cap L) (hl : lref L = 0) (ht : 1 ≤ take) (hn4 : n ≤ 4096) :
    Calls Try.prog 24 #[.int .i64 take, .slice ao n cap] w fun e w' => TakE take L e ∧ w.grownBy w' none := by
  have hlen := ha.len
  have hok := (lref_ok hl).2
  go_enter Try.func24, Try.ntmps24
  go_wp2_with fail
  go_loopw [5] (fun k' wr => ∃ k : Nat, k ≤ n ∧ (k : Int) ≤ take ∧ k' = .int .i64 k ∧ Hid (Fit (L.take k)) ∧ w.grownBy wr none) (fun k' _ => n - (intOf k').toNat)
  case atStart => exact ⟨0, Nat.zero_le _, by show (0 : Int) ≤ take; omega, rfl, (by simp [Fit, flat, szs] : Fit (L.take 0)), grown_refl _ _⟩
  case round =>
    obtain ⟨k, hk, hkt, rfl, hfit, hg⟩ := hrel
    by_cases hlt : k < n
    · have hd : decide ((k : Int) < (n : Int)) = true := by simp; omega
      by_cases hlt2 : (k : Int) < take
      · have hd2 : decide ((k : Int) < take) = true := by simpa using hlt2
        have hroom := ha.vs.room
        have hlk := lref_part hl 0 (k + 1)
        rw [List.drop_zero] at hlk
        have hLk : ∀ W, w.grownBy W none → Ls W ao (k + 1) cap (L.take (k + 1)) := fun W hW => by
          have h9 := ha.grown hW
          refine ⟨⟨by simp; omega, by omega, h9.vs.top, h9.vs.nil, fun u hu => h9.vs.one u (by rw [List.map_take] at hu; exact List.mem_of_mem_take hu), fun a ha' j u hu => h9.vs.cells a ha' j u ?_⟩, h9.plain, fun x hx => h9.shows x (List.mem_of_mem_take hx)⟩
          rw [List.map_take, List.getElem?_take] at hu
          split at hu
          · exact hu
          · cases hu
        have hne1 : L.take (k + 1) ≠ [] := fun e => by have h9 := congrArg List.length e; rw [List.length_take] at h9; simp only [List.length_nil] at h9; omega
        have hiff := fits_flat (L := L.take (k + 1)) (fun x hx => hok x (List.mem_of_mem_take hx)) hne1
        have hff := flat_len hlk
        have hrk : ∀ W, w.grownBy W none → ∀ r ∈ flat (L.take (k + 1)), Rk W r := fun W hW r hr => by
          unfold flat at hr
          obtain ⟨l, hl, hm⟩ := List.mem_flatten.1 hr
          obtain ⟨x, hx, rfl⟩ := List.mem_map.1 hl
          exact ((hLk W hW).shows x hx).shows r hm
        have hnext : Hid (¬ Fit (L.take (k + 1)) → Tk take L k) := fun hnf => by
          refine ⟨by omega, hkt, fun hne => ?_, hfit.out, fun _ _ => hnf⟩
          apply Classical.byContradiction
          intro h9
          obtain rfl : k = 0 := by omega
          apply hnf
          have h8 : 0 < L.length := by omega
          obtain ⟨_, _, g1, g2, _⟩ := fitsR_ok (hok _ (List.getElem_mem h8))
          have e2 : flat (L.take 1) = (L[0]).l := by rw [flat_succ h8]; simp [flat]
          show Fit (L.take 1)
          unfold Fit
          rw [e2]
          exact ⟨g1, g2⟩
        have hfitn : Hid (Fit (L.take (k + 1)) → Fit (L.take (k + 1))) := fun h => h
        have htog := rtogether_any wr ao (k + 1) cap (L.take (k + 1)) (hLk _ hg) (by omega) (by omega)
        have hiff' : Hid ((fitsR (flat (L.take (k + 1)))).2 = 0 ↔ Fit (L.take (k + 1))) := hiff
        clear hLk hiff hne1 hfit
        generalize hFk : flat (L.take (k + 1)) = F at *
        obtain ⟨b, o, rfl, hbl⟩ := ha.vs.addr (by omega)
        have hc0 : ¬ cap = 0 := by omega
        have j1 : (0 : Int) ≤ (k : Int) + 1 := by omega
        have j2 : (k : Int) + 1 ≤ (cap : Int) := by omega
        go_wp2_with fail
        refine htog.mono ?_
        rintro e w2 ⟨ro, rc, rfl, hR, hg2⟩
        have hG2 := grown_trans hg hg2 (by simp)
        have hrf := rfits_any w2 ro _ rc F (hR.shows (hrk _ hG2)) (by omega)
        clear hR hrk htog
        generalize (fitsR F).2 = er at *
        go_wp2_with fail
        refine hrf.mono ?_
        rintro e w3 ⟨rfl, hg3⟩
        have hG3 := grown_trans hG2 hg3 (by simp)
        clear hrf hg2 hg3
        by_cases he : er = 0
        · subst he
          have hF1 := hiff'.out.1 rfl
          go_wp2
          go_roundw
          case rel => exact ⟨k + 1, by omega, by omega, by go_num, hF1, hG3⟩
          case measure => simp [intOf]; omega
        · have hz : (er == 0) = false := by simpa using he
          have hT := hnext.out (fun hf => he (hiff'.out.2 hf))
          go_wp2
          go_ret
          exact ⟨TakE.of hT, hG3⟩
      · have hd2 : decide ((k : Int) < take) = false := by simpa using hlt2
        have hT : Hid (Tk take L k) := (⟨by omega, hkt, fun _ => by omega, hfit.out, fun _ h9 => absurd h9 hlt2⟩ : Tk take L k)
        go_wp2
        go_ret
        exact ⟨TakE.of hT.out, hg⟩
    · obtain rfl : k = n := by omega
      have hd : decide ((k : Int) < (k : Int)) = false := by simp
      have hT : Hid (Tk take L k) := (⟨by omega, hkt, fun hne => by have := List.length_pos_iff.2 hne; omega, hfit.out, fun h9 _ => absurd h9 (by omega)⟩ : Tk take L k)
      go_wp2
      go_ret
      exact ⟨TakE.of hT.out, hg⟩

set_option maxRecDepth 100000 in
set_option maxHeartbeats 2000000 in
theorem rplan_any (w : World) (take : Int) (ao : Option Addr) (n cap : Nat) (L : List Rl) (ha : Ls w ao n cap L) (hl : lref L = 0) (ht : 1 ≤ take) (hn4 : n ≤ 4096) :
    Calls Try.prog 26 #[.int .i64 take, .slice ao n cap] w fun e w' => (∃ (ps : List Nat) (po : Option Addr) (pc : Nat), e = .returned (.slice po ps.length pc) ∧ Pn take L ps ∧ Vo w' w.heap.size 3 po ps.length pc (ps.map iv)) ∧ w.grownBy w' none := by
  have hlen := ha.len
  go_enter Try.func26, Try.ntmps26
  go_wp2_with fail
  go_loopw [1, 5, 6] (fun l' p' _ wr => ∃ (xo : Option Addr) (m c p : Nat) (ps : List Nat) (po : Option Addr) (pn pc : Nat), l' = .slice xo m c ∧ p' = .slice po pn pc ∧ ps.length = pn ∧ p + m = n ∧ pn ≤ p ∧ Ls w xo m c (L.drop p) ∧ Vo wr w.heap.size 3 po pn pc (ps.map iv) ∧ Hid (∀ qs, Pn take (L.drop p) qs → Pn take L (ps ++ qs)) ∧ w.grownBy wr none) (fun l' _ _ _ => lenV l')
  case atStart => exact ⟨ao, n, cap, 0, [], none, 0, 0, rfl, rfl, rfl, by omega, Nat.le_refl _, by simpa using ha, Vo.nil _ _ _, (fun qs hq => by simpa using hq), grown_refl _ _⟩
  case round =>
    obtain ⟨xo, m, c, p, ps, po, pn, pc, rfl, rfl, hpn, hpm, hpp, hL, hv, hP, hg⟩ := hrel
    have hlp : lref (L.drop p) = 0 := by
      have h9 := lref_part hl p n
      rwa [List.take_of_length_le (by simp; omega)] at h9
    by_cases hm : 0 < m
    · have hd : decide ((0 : Int) < (m : Int)) = true := by simpa using hm
      have hne : L.drop p ≠ [] := fun e => by have := hL.len; rw [e] at this; simp at this; omega
      go_wp2_with fail
      refine (rcount_any _ take xo m c (L.drop p) (hL.grown hg) hlp ht (by omega)).mono ?_
      rintro e w2 ⟨⟨k, rfl, hk⟩, hg2⟩
      have hkm : k ≤ m := by have := hk.le; have := hL.len; omega
      have hk1 := hk.pos hne
      have hG2 := grown_trans hg hg2 (by simp)
      have hv2 := hv.grown hg2
      have hP2 : Hid (∀ qs, Pn take (L.drop (p + k)) qs → Pn take L ((ps ++ [k]) ++ qs)) := fun qs hq => by
        rw [List.append_assoc]
        exact hP.out _ (.cons hne hk (by rw [List.drop_drop]; exact hq))
      clear hP hv hg2 hk hg
      have hga := alloc_grown w2 (.cells #[.int .i64 (k : Int)] 3)
      have hvx := Vs.one1 w2 (.int .i64 (k : Int)) 3 rfl
      go_wp2_with (at_builtin; refine wpList_append_vs _ rfl (.tmp 13) (.tmp 15) 29 rfl w.heap.size 3 (.int .i64 0) 8 Try.underlying29 Try.info3 rfl (by decide) rfl (hv2.grown hga) rfl hvx (by omega) (Nat.le_trans hG2.size hga.size) ?_)
      intro po' pc' w3 hv3 hg3
      have hG3 : w.grownBy w3 none := grown_trans (grown_trans hG2 hga (by simp)) hg3 (fun k hk => Or.inr (hv2.from_base k hk).1)
      clear hv2 hga hvx hg3
      go_wp2_with (refine wpList_rest _ rfl (.tmp 17) (.tmp 18) 22 rfl 32 Try.underlying22 Try.size32 rfl hL.vs.room hL.plain k rfl rfl hkm ?_)
      intro xo' c' hxv hxp
      have hL4 : Ls w xo' (m - k) c' (L.drop (p + k)) := by
        have h9 := hL.part (hxv _ _ hL.vs) hxp
        have h8 := hL.len
        rwa [List.drop_drop, List.take_of_length_le (by simp at h8 ⊢; omega)] at h9
      go_wp2
      go_roundw
      case rel => exact ⟨xo', m - k, c', p + k, ps ++ [k], po', pn + 1, pc', rfl, rfl, by simp [hpn], by omega, by omega, hL4, by rw [List.map_append]; exact hv3, hP2, hG3⟩
      case measure => simp [lenV]; omega
    · obtain rfl : m = 0 := by omega
      have hE : L.drop p = [] := List.eq_nil_of_length_eq_zero hL.len
      have hPn : Hid (Pn take L ps) := by
        have h9 := hP.out [] (by rw [hE]; exact .nil)
        rwa [List.append_nil] at h9
      go_wp2
      go_ret
      exact ⟨⟨ps, po, pc, by rw [hpn]; rfl, hPn.out, by rw [hpn]; exact hv⟩, hg⟩
end Go.Proofs.Ytkcgpjmjaedlbaa
