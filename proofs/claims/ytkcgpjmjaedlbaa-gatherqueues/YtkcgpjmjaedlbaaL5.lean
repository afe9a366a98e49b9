/-
  Grow, Concat, joined: the walks.
-/
import Derived.Test.YtkcgpjmjaedlbaaL4
import Derived.Lib.AppendZeros
namespace Go.Proofs.Ytkcgpjmjaedlbaa
open Go.RowKit
set_option linter.unusedVariables false

theorem rcells_append (l k : List Rc) : rcells (l ++ k) = rcells l ++ rcells k := by simp [rcells]
theorem Rs.src {w : World} {b o n c : Nat} {l : List Rc} (h : Rs w (some ⟨b, o, none⟩) n c l) : ∀ j v, (rcells l)[j]? = some v → w.cell? ((⟨b, o, none⟩ : Addr).add j) = some v := by
  intro j v hv
  rw [Addr.add_lit]
  have hjl : j < l.length * 3 := by rw [← rcells_len]; exact (List.getElem?_eq_some_iff.1 hv).1
  have hq : j / 3 < l.length := by omega
  obtain ⟨h1, h2, h3⟩ := rcells_get (List.getElem?_eq_getElem hq)
  obtain ⟨c1, c2, c3⟩ := h.cells b o rfl (j / 3) l[j / 3] (List.getElem?_eq_getElem hq)
  have hm : j % 3 = 0 ∨ j % 3 = 1 ∨ j % 3 = 2 := by omega
  rcases hm with hm | hm | hm
  · have e : j / 3 * 3 = j := by omega
    rw [e] at h1 c1
    rw [h1] at hv; rw [c1, Option.some.inj hv]
  · have e : j / 3 * 3 + 1 = j := by omega
    rw [e] at h2
    rw [Nat.add_assoc, e] at c2
    rw [h2] at hv; rw [c2, Option.some.inj hv]
  · have e : j / 3 * 3 + 2 = j := by omega
    rw [e] at h3
    rw [Nat.add_assoc, e] at c3
    rw [h3] at hv; rw [c3, Option.some.inj hv]

section
variable (w : World)
/-- 'append(s, x...)' of records, s the call's own, x whatever. -/
theorem wpList_append_recs {ops : Array Oper} {rest : List Oper} {o : Oper} {a : Act} {Q : Exit → Act → World → Prop} (hgd : o.guard = none) (s x : Operand)
    (ho : o.op = .call { callee := .builtin .append, args := #[s, x], argTypes := #[32, 32] })
    (base : Nat) {ao : Option Addr} {n cap : Nat} {l : List Rc} (hs : a.eval s = .slice ao n cap) (hown : Rw w base ao n cap l)
    {xo : Option Addr} {m c : Nat} {k : List Rc} (hx : a.eval x = .slice xo m c) (hb : Rs w xo m c k)
    (hsum : n + m ≤ 100000) (hbase : base ≤ w.heap.size)
    (h : ∀ ao' cap' w', Rw w' base ao' (n + m) cap' (l ++ k) → w.grownBy w' (blk ao) → wpList Try.prog ops Q rest (a.put o.dst (.slice ao' (n + m) cap')) w') : wpList Try.prog ops Q (o :: rest) a w := by
  obtain ⟨i, hi, hz, hzs, hz2⟩ := info_parts Try.info81
  have hlen := hb.len
  cases xo with
  | none =>
    obtain rfl := hb.nil rfl
    obtain rfl : m = 0 := Nat.le_zero.1 hb.room
    obtain rfl : k = [] := List.eq_nil_of_length_eq_zero hb.len
    refine wpList_append_own_none hgd s x 32 ho base 81 i 3 Try.underlying32 hi _ n _ hs hown.row hx ?_
    have := h ao cap w (by simpa using hown) (grown_refl _ _)
    simpa using this
  | some ad =>
    have hsrc : ∀ j v, (rcells k)[j]? = some v → w.cell? (ad.add j) = some v := by
      by_cases h0 : m = 0
      · subst h0
        obtain rfl : k = [] := List.eq_nil_of_length_eq_zero hlen
        intro j v hv
        simp [rcells] at hv
      · obtain ⟨b, o, e, hbl⟩ := hb.addr (by omega)
        obtain rfl := Option.some.inj e
        exact hb.src
    refine wpList_append_own w hgd s x 32 ho base 81 i _ 3 56 Try.underlying32 hi hz hzs hz2 rfl (by decide) _ n _ hs hown.row ad m c (rcells k) hx (by rw [rcells_len, hlen]) hsrc (rcells_one k) (by unfold maxLen; omega) (by omega) hbase ?_
    intro v' w' hown' hgrow hnil
    rw [← rcells_append] at hown'
    have hll : (l ++ k).length = n + m := by simp [hown.len, hlen]
    rcases hown'.2 with ⟨hv, h0⟩ | ⟨g, c', cur, hv, _⟩
    · subst hv
      have := h none 0 w' ⟨hll, by rw [h0] at hown' ⊢; exact hown'⟩ (by rw [blk_own] at hgrow; exact hgrow)
      rw [h0] at this
      exact this
    · subst hv
      exact h _ _ w' ⟨hll, hown'⟩ (by rw [blk_own] at hgrow; exact hgrow)
end

theorem ret_slice {a b : Option Addr} {n m c d : Nat} (h1 : a = b) (h2 : n = m) (h3 : c = d) : Ending.returned (.slice a n c) = .returned (.slice b m d) := by rw [h1, h2, h3]

set_option maxRecDepth 100000 in
set_option maxHeartbeats 1000000 in
theorem grow_any (w : World) (n : Nat) (hn : n ≤ 100000) :
    Calls Try.prog 59 #[.slice none 0 0, .int .i64 n] w fun e w' => ∃ ro rc, e = .returned (.slice ro 0 rc) ∧ Rw w' w.heap.size ro 0 rc [] ∧ w.grownBy w' none := by
  by_cases h0 : n = 0
  · subst h0
    go_enter Try.func59, Try.ntmps59
    go_wp2
    go_ret
    exact ⟨none, 0, rfl, Rw.nil _ _, grown_refl _ _⟩
  · obtain ⟨i, hi, hz, hzs, hz2⟩ := info_parts Try.info81
    have happ := Lib.run_append_nil_zeros (P := Try.prog) w 32 3 32 81 i _ .i64 .i64 Try.underlying32 Try.underlying3 hi hz n (by omega) (by omega) (by omega) (by rw [hz2]; omega)
    have hge := grownCap_ge w n 0 81
    have hle : grownCap w n 0 81 ≤ maxLen := grownCap_le_maxLen w n 0 81 (by unfold maxLen; omega)
    generalize hcp : grownCap w n 0 81 = cp at *
    have hd : decide ((n : Int) < 0) = false := by simp
    have hd2 : decide (0 < n) = true := by simp; omega
    have hzs' : (Value.agg #[.int .i64 0, .slice none 0 0, .slice none 0 0]).cells.size = 3 := rfl
    have hsz : (Builtin.zeroCells (Value.agg #[.int .i64 0, .slice none 0 0, .slice none 0 0]).cells n ++ Builtin.zeroCells (Value.agg #[.int .i64 0, .slice none 0 0, .slice none 0 0]).cells (cp - n)).size = cp * 3 := by
      rw [Array.size_append, size_zeroCells, size_zeroCells, hzs']; omega
    generalize (Builtin.zeroCells (Value.agg #[.int .i64 0, .slice none 0 0, .slice none 0 0]).cells n ++ Builtin.zeroCells (Value.agg #[.int .i64 0, .slice none 0 0, .slice none 0 0]).cells (cp - n)) = Z at *
    go_enter Try.func59, Try.ntmps59
    go_wp2_with (at_builtin; refine Lib.wpList_append_run _ rfl _ _ 32 3 rfl (.slice none 0 0) (.int .i64 n) rfl rfl _ _ happ ?_)
    go_ret
    refine ⟨_, _, rfl, ⟨rfl, rfl, .inr ⟨w.heap.size, cp, Z, rfl, Nat.le_refl _, heap_alloc_new w _, Nat.zero_le _, hle, hsz, by simp [rcells]⟩⟩, ?_⟩
    exact grown_trans (alloc_grown w _) (grown_drew _ none) (by simp)

set_option maxRecDepth 100000 in
set_option maxHeartbeats 2000000 in
theorem concat_any (w : World) (ao : Option Addr) (n cap : Nat) (L : List Rl) (ha : Ls w ao n cap L) (hn4 : n ≤ 4096) (hN : (flat L).length ≤ 100000) :
    Calls Try.prog 53 #[.slice ao n cap] w fun e w' => ∃ ro rc, e = .returned (.slice ro (flat L).length rc) ∧ Rw w' w.heap.size ro (flat L).length rc (flat L) ∧ w.grownBy w' none := by
  have hlen := ha.len
  have hNi : ∀ i, (flat (L.take i)).length ≤ 100000 := fun i => by
    have h9 := flat_append (L.take i) (L.drop i)
    rw [List.take_append_drop] at h9
    rw [h9, List.length_append] at hN
    omega
  go_enter Try.func53, Try.ntmps53
  go_wp2_with fail
  go_loop [3, 5, 11] (fun s' _ i' => ∃ i : Nat, i ≤ n ∧ i' = .int .i64 i ∧ s' = .int .i64 (flat (L.take i)).length) (fun _ _ i' => n - (intOf i').toNat)
  case atStart => exact ⟨0, Nat.zero_le _, rfl, by simp [flat]⟩
  case round =>
    obtain ⟨i, hi, rfl, rfl⟩ := hrel
    by_cases hlt : i < n
    · have h1 : i < L.length := by omega
      obtain ⟨b, o, rfl, hbl⟩ := ha.vs.addr (by omega)
      obtain ⟨a1, ak⟩ := ha.at h1
      have hd : decide ((i : Int) < (n : Int)) = true := by simp; omega
      have hS : Hid ((flat (L.take (i + 1))).length = (flat (L.take i)).length + (L[i]).n) := by show _ = _; rw [flat_succ h1, List.length_append, ak.len]
      have hb1 := hNi (i + 1)
      rw [hS.out] at hb1
      generalize L[i] = x at *
      generalize (flat (L.take i)).length = S at *
      have hd2 : decide ((S : Int) + (x.n : Int) < 0) = false := by simp; omega
      go_wp2
      go_round
      case rel => exact ⟨i + 1, by omega, by go_num, by rw [hS.out]; go_num⟩
      case measure => simp [intOf]; omega
    · obtain rfl : i = n := by omega
      have hd : decide ((i : Int) < (i : Int)) = false := by simp
      have hF : L.take i = L := List.take_of_length_le (by omega)
      rw [hF]
      have hgr := grow_any w (flat L).length hN
      go_wp2_with fail
      refine hgr.mono ?_
      rintro e w1 ⟨ro, rc, rfl, hR, hg1⟩
      clear hgr hF
      generalize hNN : (flat L).length = N at *
      go_wp2_with fail
      go_loopw [6, 8, 27] (fun r' _ j' wr => ∃ (j m : Nat) (ro : Option Addr) (rc : Nat), j ≤ i ∧ j' = .int .i64 j ∧ r' = .slice ro m rc ∧ Hid ((flat (L.take j)).length = m) ∧ Rw wr w.heap.size ro m rc (flat (L.take j)) ∧ w.grownBy wr none) (fun _ _ j' _ => i - (intOf j').toNat)
      case atStart => exact ⟨0, 0, ro, rc, Nat.zero_le _, rfl, rfl, (by simp [flat] : _ = _), by simpa [flat] using hR, hg1⟩
      case round =>
        obtain ⟨j, m, ro2, rc2, hj, rfl, rfl, hm, hR2, hg2⟩ := hrel
        by_cases hlt2 : j < i
        · have h1 : j < L.length := by omega
          obtain ⟨b, o, rfl, hbl⟩ := ha.vs.addr (by omega)
          obtain ⟨a1, ak⟩ := (ha.grown hg2).at h1
          have hd3 : decide ((j : Int) < (i : Int)) = true := by simp; omega
          have hfs : Hid (flat (L.take (j + 1)) = flat (L.take j) ++ (L[j]).l) := flat_succ h1
          have hb1 := hNi (j + 1)
          have hS : Hid ((flat (L.take (j + 1))).length = m + (L[j]).n) := by show _ = _; rw [flat_succ h1, List.length_append, ak.len, hm.out]
          rw [hS.out] at hb1
          generalize L[j] = x at *
          go_wp2_with (at_builtin; refine wpList_append_recs _ rfl _ _ rfl w.heap.size rfl hR2 rfl ak hb1 hg2.size ?_)
          intro ro3 rc3 w3 hR3 hg3
          have hG3 : w.grownBy w3 none := grown_trans hg2 hg3 (fun k hk => Or.inr (hR2.from_base k hk).1)
          go_wp2
          go_roundw
          case rel => exact ⟨j + 1, m + x.n, ro3, rc3, by omega, by go_num, rfl, hS, by rw [hfs.out]; exact hR3, hG3⟩
          case measure => simp [intOf]; omega
        · obtain rfl : j = i := by omega
          have hd3 : decide ((j : Int) < (j : Int)) = false := by simp
          have hF : L.take j = L := List.take_of_length_le (by omega)
          rw [hF] at hR2 hm
          obtain rfl : m = N := by rw [← hm.out, hNN]
          go_wp2
          go_ret
          exact ⟨_, _, by rw [hNN]; rfl, by rw [hNN]; exact hR2, hg2⟩

set_option maxRecDepth 100000 in
set_option maxHeartbeats 1000000 in
theorem joined_any (w : World) (ao : Option Addr) (n cap : Nat) (L : List Rl) (ha : Ls w ao n cap L) (hn4 : n ≤ 4096) (hN : (flat L).length ≤ 100000) :
    Calls Try.prog 41 #[.slice ao n cap] w fun e w' => ∃ g rs, e = .returned (.slice (some ⟨g, 0, none⟩) (flat L).length (flat L).length) ∧ w.heap.size ≤ g ∧ Rw w' g (some ⟨g, 0, none⟩) (flat L).length (flat L).length rs ∧ ds rs = ds (flat L) ∧ (∀ r ∈ rs, Own w' (g + 1) r) ∧ w.grownBy w' none := by
  have hk : ∀ W, w.grownBy W none → ∀ r ∈ flat L, Rk W r := fun W hW r hr => by
    unfold flat at hr
    obtain ⟨l, hl, hm⟩ := List.mem_flatten.1 hr
    obtain ⟨x, hx, rfl⟩ := List.mem_map.1 hl
    exact ((ha.grown hW).shows x hx).shows r hm
  have hcc := concat_any w ao n cap L ha hn4 hN
  generalize flat L = F at *
  go_enter Try.func41, Try.ntmps41
  go_wp2_with fail
  refine hcc.mono ?_
  rintro e w1 ⟨ro, rc, rfl, hR, hg1⟩
  have hRs := hR.shows (hk _ hg1)
  go_wp2_with fail
  refine (copy_any _ ro _ rc F hRs hN (fun r hr => ⟨(hk _ hg1 r hr).kb, (hk _ hg1 r hr).vb⟩)).mono ?_
  rintro e w2 ⟨rs, rfl, hR2, hd, hO, hg2⟩
  go_wp2
  go_ret
  exact ⟨_, rs, rfl, hg1.size, hR2, hd, hO, grown_trans hg1 hg2 (by simp)⟩
end Go.Proofs.Ytkcgpjmjaedlbaa
