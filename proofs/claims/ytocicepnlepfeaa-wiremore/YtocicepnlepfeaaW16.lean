/-
  The walk of WireMore.
-/
import Derived.Test.YtocicepnlepfeaaW14
import Derived.Test.YtocicepnlepfeaaW15
import Derived.Deep.RegionHeld3
namespace Go.Proofs.Ytocicepnlepfeaa
open Go.RowKit
set_option linter.unusedVariables false

section
variable {P : Program}
/-- 'append(s, x...)' as one step of a region that draws its order. -/
theorem step_append_bs {ops : Array Oper} {o : Oper} {a : Act} {w : World} {K : Act → World → Prop} {Q : Exit → Act → World → Prop} {E : Prop} (hgd : o.guard = none) (s x : Operand) (t : TypeId)
    (ho : o.op = .call { callee := .builtin .append, args := #[s, x], argTypes := #[t, t] })
    (base : Nat) (e : TypeId) (ht : P.underlying t = some (.slice e)) (hinfo : (P.info? e).map (fun i => (i.zero, i.size, i.bytes)) = some (some (.int .u8 0), 1, 1))
    {ao : Option Addr} {n cap : Nat} {l : List UInt8} (hs : a.eval s = .slice ao n cap) (hown : Ow w base e ao n cap l)
    {xo : Option Addr} {m c : Nat} {k : List UInt8} (hx : a.eval x = .slice xo m c) (hb : Bs w xo m c k)
    (hsum : n + m ≤ 140737488355328) (hbase : base ≤ w.heap.size) (N : Nat) (lk : List UInt8) (hN : n + m = N) (hlk : l ++ k = lk)
    (h : ∀ ao' cap' w', Ow w' base e ao' N cap' lk → w.grownBy w' (blk ao) → K (a.put o.dst (.slice ao' N cap')) w') :
    if Region.wanted o (yielded ops a.tmps) = true then Oper.wp P o a w K Q else E := by
  have hw : Region.wanted o (yielded ops a.tmps) = true := by simp [Region.wanted, hgd]
  rw [if_pos hw]
  subst hN hlk
  obtain ⟨i, hi, hz, hz1, hz2⟩ := info_parts hinfo
  cases xo with
  | none =>
    obtain rfl := hb.nil rfl
    obtain rfl : m = 0 := Nat.le_zero.1 hb.room
    obtain rfl : k = [] := List.eq_nil_of_length_eq_zero hb.len
    have hrun := run_append_owned_none (P := P) (w := w) base t o.type e i 1 ht hi _ n _ hown.row
    unfold Oper.wp
    simp [execOp, ho, resolve, invoke, builtin, hs, hx, hrun, Result.andThen]
    have h2 : K (a.put o.dst (.slice ao n cap)) w := by
      have := h ao cap w (by simpa using hown) (grown_refl _ _)
      simpa using this
    exact h2
  | some ad =>
    refine wp_append_own w s x t ho base e i (.int .u8 0) 1 1 ht hi hz hz1 hz2 rfl (by decide) _ n _ hs hown.row ad m c (k.map bv) hx (by simp [hb.len]) (hb.cells ad rfl) (bv_one k) (by unfold maxLen; omega) (by omega) hbase ?_
    intro v' w' hown' hgrow _
    rw [← List.map_append] at hown'
    obtain ⟨ao', cap', rfl, h1⟩ := Ow.of (l := l ++ k) (by simp [hown.len, hb.len]) hown'
    exact h ao' cap' w' h1 (by rw [blk_own] at hgrow; exact hgrow)
end

/-- The three numbers of an Ask, boxed. -/
def Ks (w : World) (B : Nat) (K N M : Int) : Prop := w.cell? ⟨B, 0, none⟩ = some (.int .i64 K) ∧ w.cell? ⟨B, 1, none⟩ = some (.int .i64 N) ∧ w.cell? ⟨B, 2, none⟩ = some (.int .i64 M)
theorem Ks.kept {w w' : World} {B : Nat} {K N M : Int} {row : Option Nat} (h : Ks w B K N M) (hg : w.grownBy w' row) (hne : some B ≠ row) : Ks w' B K N M :=
  ⟨hg.cell h.1 hne, hg.cell h.2.1 hne, hg.cell h.2.2 hne⟩

theorem first_any (w : World) (ao : Option Addr) (n cap : Nat) (K N M : Int) (l : List UInt8) (hb : Bs w ao n cap l) (hn : n ≤ 200000) (hN : N < 9223372036854775808) (hM : M < 9223372036854775808) :
    Calls Try.prog 38 #[.slice ao n cap, .agg #[.int .i64 K, .int .i64 N, .int .i64 M]] w fun e w' => e = .returned (.tuple #[.string ⟨(firstF K N M l).1.toArray⟩, .int .i64 ((firstF K N M l).2 : Nat)]) ∧ w.grownBy w' none := by
  have hl := hb.len
  unfold firstF
  by_cases k0 : K = 0
  · subst k0
    rw [if_pos rfl, numF, hl]
    by_cases hc : n < 1
    · rw [if_pos hc]; exact first_0no w ao n cap N M l hb hn hc
    · rw [if_neg hc]; exact first_0yes w ao n cap N M l hb hn (by omega)
  rw [if_neg k0]
  by_cases k1 : K = 1
  · subst k1
    rw [if_pos rfl, numF, hl]
    by_cases hc : n < 2
    · rw [if_pos hc]; exact first_1no w ao n cap N M l hb hn hc
    · rw [if_neg hc]; exact first_1yes w ao n cap N M l hb hn (by omega)
  rw [if_neg k1]
  by_cases k2 : K = 2
  · subst k2
    rw [if_pos rfl, numF, hl]
    by_cases hc : n < 4
    · rw [if_pos hc]; exact first_2no w ao n cap N M l hb hn hc
    · rw [if_neg hc]; exact first_2yes w ao n cap N M l hb hn (by omega)
  rw [if_neg k2]
  by_cases k3 : K = 3
  · subst k3
    rw [if_pos rfl, numF, hl]
    by_cases hc : n < 8
    · rw [if_pos hc]; exact first_3no w ao n cap N M l hb hn hc
    · rw [if_neg hc]; exact first_3yes w ao n cap N M l hb hn (by omega)
  rw [if_neg k3]
  by_cases k4 : K = 4
  · subst k4
    rw [if_pos rfl, numF, hl]
    by_cases hc : n < 8
    · rw [if_pos hc]; exact first_4no w ao n cap N M l hb hn hc
    · rw [if_neg hc]; exact first_4yes w ao n cap N M l hb hn (by omega)
  rw [if_neg k4]
  by_cases k6 : K = 6
  · subst k6
    rw [if_pos rfl, strF]
    by_cases hm : M < 0
    · rw [if_pos hm]; exact first_6arg w ao n cap N M l hb hn hm
    · rw [if_neg hm]
      obtain ⟨M', rfl⟩ := Int.eq_ofNat_of_zero_le (show 0 ≤ M by omega)
      rw [Int.toNat_natCast]
      by_cases hs : sErr l M' = 0
      · rw [if_neg (by simp [hs])]; exact first_6ok w ao n cap N M' l hb hn (by omega) hs
      · rw [if_pos hs]; exact first_6err w ao n cap N M' _ l hb hn (by omega) rfl hs
  rw [if_neg k6]
  by_cases k7 : K = 7
  · subst k7
    rw [if_pos rfl, lstF]
    by_cases hm : N < 0 ∨ M < 0
    · rw [if_pos hm]; exact first_7arg w ao n cap N M l hb hn hm
    · rw [if_neg hm]
      obtain ⟨M', rfl⟩ := Int.eq_ofNat_of_zero_le (show 0 ≤ M by omega)
      obtain ⟨N', rfl⟩ := Int.eq_ofNat_of_zero_le (show 0 ≤ N by omega)
      rw [Int.toNat_natCast, Int.toNat_natCast, hl]
      by_cases h4 : n < 4
      · rw [if_pos h4]; exact first_7more w ao n cap N' M' l hb hn h4
      · rw [if_neg h4]
        by_cases hv : N' < val (l.take 4)
        · rw [if_pos hv]; exact first_7never w ao n cap N' M' l hb hn (by omega) (by omega) hv
        · rw [if_neg hv]
          have hvl : val (l.take 4) < 4294967296 := by
            have h3 := val_lt (l.take 4)
            rw [List.length_take, hl, Nat.min_eq_left (by omega)] at h3
            exact h3
          by_cases he : lErr M' (val (l.take 4)) (l.drop 4) = 0
          · rw [if_neg (by simp [he])]
            exact first_7 w ao n cap N' M' _ l hb hn (by omega) (by omega) (by omega) rfl hvl (by omega) _ 0 ⟨he, by simp⟩
          · rw [if_pos he]
            exact first_7 w ao n cap N' M' _ l hb hn (by omega) (by omega) (by omega) rfl hvl (by omega) _ _ ⟨rfl, by rw [if_pos he]⟩
  rw [if_neg k7, skipF]
  have e0 := beq_eq_false_iff_ne.2 k0
  have e1 := beq_eq_false_iff_ne.2 k1
  have e2 := beq_eq_false_iff_ne.2 k2
  have e3 := beq_eq_false_iff_ne.2 k3
  have e4 := beq_eq_false_iff_ne.2 k4
  have e6 := beq_eq_false_iff_ne.2 k6
  have e7 := beq_eq_false_iff_ne.2 k7
  by_cases hm : N < 0
  · rw [if_pos hm]; exact first_sarg w ao n cap K N M l hb hn e0 e1 e2 e3 e4 e6 e7 hm
  · rw [if_neg hm, hl]
    by_cases hs : (n : Int) < N
    · rw [if_pos hs]; exact first_smore w ao n cap K N M l hb hn e0 e1 e2 e3 e4 e6 e7 (by omega) hs
    · rw [if_neg hs]
      obtain ⟨N', rfl⟩ := Int.eq_ofNat_of_zero_le (show 0 ≤ N by omega)
      exact first_sok w ao n cap K M N' l hb hn e0 e1 e2 e3 e4 e6 e7 (by omega)

set_option maxRecDepth 100000 in
set_option maxHeartbeats 400000 in
theorem wireMore_many (w : World) (ao mo : Option Addr) (n cap m c : Nat) (K N M : Int) (h : 100000 < n ∨ 100000 < m) :
    Calls Try.prog 8 #[.slice ao n cap, .slice mo m c, .agg #[.int .i64 K, .int .i64 N, .int .i64 M]] w fun e w' => e = .returned (.bool true) ∧ w.grownBy w' none := by
  by_cases h1 : 100000 < n
  · have h1' : (100000 : Int) < (n : Int) := by omega
    go_enter Try.func8, Try.ntmps8
    go_wp2_with fail
    refine (works_any _).mono ?_
    rintro e w1 ⟨rfl, hg⟩
    go_wp2
    go_ret
    exact ⟨rfl, grown_trans (World.grownBy_alloc _ _ none) hg (by simp)⟩
  · have h1' : ¬ (100000 : Int) < (n : Int) := by omega
    have h2' : (100000 : Int) < (m : Int) := by omega
    go_enter Try.func8, Try.ntmps8
    go_wp2_with fail
    refine (works_any _).mono ?_
    rintro e w1 ⟨rfl, hg⟩
    go_wp2
    go_ret
    exact ⟨rfl, grown_trans (World.grownBy_alloc _ _ none) hg (by simp)⟩

set_option maxRecDepth 100000 in
set_option maxHeartbeats 4000000 in
theorem wireMore_few (w : World) (ao mo : Option Addr) (n cap m c : Nat) (K N M : Int) (l t : List UInt8) (hb : Bs w ao n cap l) (hmb : Bs w mo m c t) (hn : n ≤ 100000) (hm : m ≤ 100000) (hN : N < 9223372036854775808) (hM : M < 9223372036854775808) :
    Calls Try.prog 8 #[.slice ao n cap, .slice mo m c, .agg #[.int .i64 K, .int .i64 N, .int .i64 M]] w fun e w' => e = .returned (.bool true) ∧ w.grownBy w' none := by
  have h1' : ¬ (100000 : Int) < (n : Int) := by omega
  have h2' : ¬ (100000 : Int) < (m : Int) := by omega
  have hst := firstF_stays K N M l t
  obtain ⟨x, ex, hX⟩ : ∃ x ex, firstF K N M l = (x, ex) := ⟨_, _, rfl⟩
  obtain ⟨y, ey, hY⟩ : ∃ y ey, firstF K N M (l ++ t) = (y, ey) := ⟨_, _, rfl⟩
  rw [hX, hY] at hst
  have HST : Hid _ := hst
  have HX : Hid _ := hX
  have HY : Hid _ := hY
  clear hst hX hY
  have hga := World.grownBy_alloc w (.cells #[.int .i64 K, .int .i64 N, .int .i64 M] 59) none
  go_enter Try.func8, Try.ntmps8
  go_wp2_with fail
  refine (first_any _ ao n cap K N M l (hb.grown hga) (by omega) hN hM).mono ?_
  rw [HX.out]
  rintro e w1 ⟨rfl, hg1⟩
  have hG1 := grown_trans hga hg1 (by simp)
  have hks : Ks w1 w.heap.size K N M := ⟨hg1.cell (by simp) (by simp), hg1.cell (by simp) (by simp), hg1.cell (by simp) (by simp)⟩
  have hlt1 : w.heap.size < w1.heap.size := by have := hg1.size; simp at this; omega
  have hb1 := hb.grown hG1
  have hm1 := hmb.grown hG1
  have HN : Hid (N < 9223372036854775808) := hN
  have HM : Hid (M < 9223372036854775808) := hM
  clear hg1 hga hN hM
  go_wp2_with fail
  have ho0 := Ow.empty w1 w1.heap.size 5 (Nat.le_refl _)
  have hgd := grown_drew (w1.alloc (.cells #[] 5)) none
  have hga := World.grownBy_alloc w1 (.cells #[] 5) none
  have hgad := grown_trans hga hgd (by simp)
  have ho1 := ho0.grown hgd
  have hb2 := hb1.grown hgad
  have c0 := hks.1
  have c1 := hks.2.1
  have c2 := hks.2.2
  go_region_held3 (fun w' => w'.cell? ⟨w.heap.size, 0, none⟩ = some (.int .i64 K) ∧ w'.cell? ⟨w.heap.size, 1, none⟩ = some (.int .i64 N) ∧ w'.cell? ⟨w.heap.size, 2, none⟩ = some (.int .i64 M))
    (go_keep)
    ((first
      | (go_at_call 38; refine (first_any _ _ _ _ K N M (l ++ t) (Ow.shows ho3) (by omega) HN HM).mono ?_; rw [HY.out]; rintro e w4 ⟨rfl, hg4⟩; have hks4 := hks3.kept hg4 (by simp); have f0 := hks4.1; have f1 := hks4.2.1; have f2 := hks4.2.2)
      | (refine step_append_bs (by rfl) (.tmp 27) (.tmp 28) 22 (by rfl) w1.heap.size 5 Try.underlying22 Try.info5 (by rfl) ho1 (by rfl) hb2 (by omega) (by simp) n l (by omega) rfl ?_; clear ho1; intro ao2 cap2 w2 ho2 hg2; have hks2 := (hks.kept hgad (by simp)).kept hg2 (by simp [blk]; omega); have d0 := hks2.1; have d1 := hks2.2.1; have d2 := hks2.2.2)
      | (refine step_append_bs (by rfl) (.tmp 29) (.tmp 30) 22 (by rfl) w1.heap.size 5 Try.underlying22 Try.info5 (by rfl) ho2 (by rfl) (hm1.grown (below_grownBy ((grownBy_below hgad).grown hg2 (by simp) (fun q hq => by simp [blk] at hq; omega)))) (by omega) (by have := hg2.size; simp at this; omega) (n + m) (l ++ t) rfl rfl ?_; intro ao3 cap3 w3 ho3 hg3; have hks3 := hks2.kept hg3 (fun e1 => by have := ho2.from_base _ e1.symm; omega); have e0 := hks3.1; have e1 := hks3.2.1; have e2 := hks3.2.2)))
  have hsz1 := hG1.size
  have hF2 := grown_trans hgad hg2 (fun q hq => Or.inr (by simp [blk] at hq; omega))
  have hF3 := grown_trans hF2 hg3 (fun q hq => Or.inr (by have := ho2.from_base q hq; omega))
  have hF4 := grown_trans hG1 (grown_trans hF3 hg4 (by simp)) (by simp)
  clear hF2 hF3 hg2 hg3 hg4 hgad hga hgd ho0 ho2 ho3 hks hks2 hks3 hks4 c0 c1 c2 d0 d1 d2 e0 e1 e2 f0 f1 f2 hb1 hb2 hm1 HX HY
  by_cases h111 : ex = 111
  · subst h111
    rcases HST.out.1 rfl with h0 | h0 | h0
    all_goals
      subst h0
      clear HST
      go_wp2_with fail
      refine (works_any _).mono ?_
      rintro e w5 ⟨rfl, hg5⟩
      go_wp2
      go_ret
      exact ⟨rfl, grown_trans hF4 hg5 (by simp)⟩
  · have h2 := HST.out.2 h111
    simp only [Prod.mk.injEq] at h2
    obtain ⟨rfl, rfl⟩ := h2
    have hne : ((ex : Int) == 111) = false := by rw [beq_eq_false_iff_ne]; omega
    clear HST
    go_wp2_with fail
    refine (works_any _).mono ?_
    rintro e w5 ⟨rfl, hg5⟩
    go_wp2
    go_ret
    exact ⟨rfl, grown_trans hF4 hg5 (by simp)⟩

end Go.Proofs.Ytocicepnlepfeaa
