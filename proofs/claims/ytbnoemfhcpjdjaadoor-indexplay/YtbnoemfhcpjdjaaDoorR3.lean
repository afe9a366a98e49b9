/-
  The document's Cut.
-/
import Derived.Test.YtbnoemfhcpjdjaaDoorR2
namespace Go.Proofs.YtbnoemfhcpjdjaaDoor
open Go.RowKit
set_option linter.unusedVariables false

theorem Sw.nilrow {w : World} {base n cap : Nat} {l : List Sd} (h : Sw w base none n cap l) : n = 0 ∧ cap = 0 ∧ l = [] := by
  have hl := h.len
  rcases h.row.2 with ⟨hv, h0⟩ | ⟨g, c, cur, hv, _⟩
  · cases hv
    exact ⟨rfl, rfl, List.eq_nil_of_length_eq_zero hl⟩
  · cases hv
theorem Sw.room {w : World} {base n cap : Nat} {ao : Option Addr} {l : List Sd} (h : Sw w base ao n cap l) : n ≤ cap := by
  rcases h.row.2 with ⟨hv, h0⟩ | ⟨g, c, cur, hv, hb, hg, hn, hm, hs, ht⟩
  · omega
  · simp only [Value.slice.injEq] at hv
    obtain ⟨_, _, rfl⟩ := hv
    exact hn
theorem wpList_append_sdsO {w : World} {ops : Array Oper} {rest : List Oper} {o : Oper} {a : Act} {Q : Exit → Act → World → Prop} (hgd : o.guard = none) (s x : Operand)
    (ho : o.op = .call { callee := .builtin .append, args := #[s, x], argTypes := #[29, 29] })
    (base : Nat) {ao : Option Addr} {n cap : Nat} {l : List Sd} (hs : a.eval s = .slice ao n cap) (hown : Sw w base ao n cap l)
    {ad : Option Addr} {m c : Nat} {k : List Sd} {b2 : Nat} (hx : a.eval x = .slice ad m c) (hb : Sw w b2 ad m c k)
    (hsum : n + m ≤ 100000) (hbase : base ≤ w.heap.size)
    (h : ∀ ao' cap' w', Sw w' base ao' (n + m) cap' (l ++ k) → w.grownBy w' (blk ao) → wpList Tryd.prog ops Q rest (a.put o.dst (.slice ao' (n + m) cap')) w') : wpList Tryd.prog ops Q (o :: rest) a w := by
  cases ad with
  | none =>
    obtain ⟨i, hi, hz, hzs, hz2⟩ := info_parts info33
    obtain ⟨rfl, rfl, rfl⟩ := hb.nilrow
    refine wpList_append_own_none hgd s x 29 ho base 33 i 2 Tryd.underlying29 hi _ n _ hs hown.row hx ?_
    have := h ao cap w (by simpa using hown) (grown_refl _ _)
    simpa using this
  | some ad => exact wpList_append_sds hgd s x ho base hs hown hx hb hsum hbase h

theorem cnt_first {pB : Sd → Bool} {l : List Sd} (hs : Srt l) (hp : ∀ s t : Sd, s.o < t.o → s.p < t.p → pB s = true → pB t = true) {k : Nat} (hk : k ≤ l.length) (h1 : ∀ j (hj : j < l.length), j < k → pB l[j] = false) (h2 : ∀ hk : k < l.length, pB l[k] = true) : cnt pB l = k := by
  have e : l = l.take k ++ l.drop k := by simp
  have a1 : (l.take k).countP (fun s => !pB s) = (l.take k).length := by
    rw [List.countP_eq_length]
    intro u hu
    obtain ⟨j, hj, rfl⟩ := List.mem_iff_getElem.1 hu
    rw [List.getElem_take]
    have : j < k ∧ j < l.length := by simp at hj; omega
    simp [h1 j this.2 this.1]
  have a2 : (l.drop k).countP (fun s => !pB s) = 0 := by
    rw [List.countP_eq_zero]
    intro u hu
    obtain ⟨j, hj, rfl⟩ := List.mem_iff_getElem.1 hu
    rw [List.getElem_drop]
    have hj2 : k + j < l.length := by simp at hj; omega
    have h9 := h2 (by omega)
    rcases Nat.eq_zero_or_pos j with rfl | hpos
    · simp [h9]
    · have h8 := (List.pairwise_iff_getElem.1 hs) k (k + j) (by omega) hj2 (by omega)
      simp [hp _ _ h8.1 h8.2 h9]
  unfold cnt
  rw [e, List.countP_append, a1, a2]
  simp
  omega

theorem Rx.set {w : World} {b : Nat} {st : Int} {ro : Option Addr} {n rc : Nat} (h : Rx w b st ro n rc) (ro' : Option Addr) (n' rc' : Nat) : Rx (w.setCell ⟨b, 1, none⟩ (.slice ro' n' rc')) b st ro' n' rc' := heap_set h 1 _
theorem Rx.fz {w : World} {b : Nat} {st : Int} {ro : Option Addr} {n rc : Nat} (h : Rx w b st ro n rc) (i : Nat) : w.frozen? ⟨b, i, none⟩ = false := by
  unfold Rx at h
  unfold World.frozen?
  rw [h]
  simp
theorem Rx.grown {w w' : World} {b : Nat} {st : Int} {ro : Option Addr} {n rc : Nat} (h : Rx w b st ro n rc) (hg : w.grownBy w' none) : Rx w' b st ro n rc := by
  unfold Rx at h ⊢
  exact heap_kept hg h (by simp)

set_option maxRecDepth 100000 in
set_option maxHeartbeats 4000000 in
theorem rcut_any {w : World} {base b st : Nat} {l : List Sd} {ro : Option Addr} {rc : Nat} (hx : Rx w b st ro l.length rc) (hs : Sw w base ro l.length rc l) (hsrt : Srt l) (hl : l.length ≤ 80000) (n : Int) :
    Calls Tryd.prog 17 #[.pointer (some ⟨b, 0, none⟩), .int .i64 n] w fun e w' => e = .returned (.int .i64 ((l.length - cutR n l : Nat) : Int)) ∧ (∃ ro' rc', Rx w' b st ro' (l.take (cutR n l)).length rc' ∧ Sw w' w.heap.size ro' (l.take (cutR n l)).length rc' (l.take (cutR n l))) ∧ Chg w w' (fun k => k = b) := by
  have c1 := hx.c1
  go_enter Tryd.func17, Tryd.ntmps17
  go_wp2_with fail
  go_loop [5] (fun v5 => ∃ k : Nat, v5 = .int .i64 k ∧ k ≤ l.length ∧ Hid (∀ j (hj : j < l.length), j < k → l[j].p < n)) (fun v5 => l.length - (intOf v5).toNat)
  case atStart => exact ⟨0, rfl, Nat.zero_le _, (fun j hj h => by omega : ∀ j (hj : j < l.length), j < 0 → l[j].p < n)⟩
  case round =>
    obtain ⟨k, rfl, hk, hall⟩ := hrel
    by_cases hend : ∃ hlt : k < l.length, l[k].p < n
    · obtain ⟨hlt, hp⟩ := hend
      obtain ⟨g, rfl, -, -⟩ := hs.addr (by omega)
      have hget : l[k]? = some l[k] := List.getElem?_eq_getElem hlt
      have q1 : w.cell? ⟨g, k * 2 + 1, none⟩ = some (.int .i64 l[k].p) := by rw [hs.at hget 1 (by omega)]; simp [Sd.cells]
      have hall2 : Hid (∀ j (hj : j < l.length), j < k + 1 → l[j].p < n) := (fun j hj h => by
        rcases Nat.lt_or_eq_of_le (Nat.le_of_lt_succ h) with h | rfl
        · exact hall.out j hj h
        · exact hp : ∀ j (hj : j < l.length), j < k + 1 → l[j].p < n)
      clear hall hget
      go_wp2
      go_round
      case rel => exact ⟨k + 1, by go_num, hlt, hall2⟩
      case measure => simp [intOf]; omega
    · have hcut : Hid (cutR n l = k) := (cnt_first hsrt (fun s t h1 h2 h3 => by simp at h3 ⊢; omega) hk (fun j hj h => by have := hall.out j hj h; simp; omega) (fun h => by
        have : ¬ l[k].p < n := fun e => hend ⟨h, e⟩
        simp; omega) : cutR n l = k)
      have hS1 := hs.take k hk
      have hroom := hs.room
      have hlen : (l.take k).length = k := by simp; omega
      have hwr : IntKind.i64.wrap ((l.length : Int) - (k : Int)) = ((l.length - k : Nat) : Int) := by rw [IntWalk.i64_in _ (by omega)]; omega
      have i1 : (0 : Int) ≤ (k : Int) := by omega
      have i2 : (k : Int) ≤ (rc : Int) := by omega
      have hback : ∀ ao' cap' w2, Sw w2 w.heap.size ao' k cap' (l.take k) → w.grownBy w2 (blk none) → (Rx w2 b st ro l.length rc ∧ w2.frozen? ⟨b, 1, none⟩ = false ∧ (∃ u, w2.cell? ⟨b, 1, none⟩ = some u) ∧ (((l.length - k : Nat) : Int) = ((l.length - cutR n l : Nat) : Int) ∧ (∃ ro' rc', Rx (w2.setCell ⟨b, 1, none⟩ (.slice ao' k cap')) b st ro' (l.take (cutR n l)).length rc' ∧ Sw (w2.setCell ⟨b, 1, none⟩ (.slice ao' k cap')) w.heap.size ro' (l.take (cutR n l)).length rc' (l.take (cutR n l))) ∧ Chg w (w2.setCell ⟨b, 1, none⟩ (.slice ao' k cap')) (fun k => k = b))) := by
        intro ao' cap' w2 ho hg
        have hx2 := hx.grown hg
        have hS := setCell_chg w2 b 1 (.slice ao' k cap')
        rw [hcut.out, hlen]
        refine ⟨hx2, hx2.fz 1, ⟨_, hx2.c1⟩, rfl, ⟨ao', cap', ?_, ?_⟩, (Chg.of_grown hg _).trans hS⟩
        · exact hx2.set ao' k cap'
        · exact ho.chg hS (fun q hq e => ho.not59 hx2 (by decide) (by rw [hq, e]))
      clear hcut hlen
      cases ro with
      | none =>
        obtain ⟨h0, rfl, rfl⟩ := hs.nilrow
        obtain rfl : k = 0 := by simpa using hk
        clear hS1
        go_wp2_with (at_builtin; refine wpList_append_sdsO rfl _ _ rfl w.heap.size rfl (Sw.nil _ _) rfl (Sw.nil _ 0) (by omega) (Nat.le_refl _) ?_)
        intro ao' cap' w2 ho2 hg2
        obtain ⟨-, f1, ⟨u1, d1⟩, h4, h5⟩ := hback ao' cap' w2 ho2 hg2
        clear hback ho2 hg2
        go_wp2
        go_ret
        exact ⟨by rw [← h4]; rfl, h5⟩
      | some a =>
        by_cases hlt : k < l.length
        · have hp : ¬ l[k].p < n := fun e => hend ⟨hlt, e⟩
          obtain ⟨g, hga, -, -⟩ := hs.addr (by omega)
          cases hga
          have hget : l[k]? = some l[k] := List.getElem?_eq_getElem hlt
          have q1 : w.cell? ⟨g, k * 2 + 1, none⟩ = some (.int .i64 l[k].p) := by rw [hs.at hget 1 (by omega)]; simp [Sd.cells]
          clear hall hget hend
          go_wp2_with (at_builtin; refine wpList_append_sdsO rfl _ _ rfl w.heap.size rfl (Sw.nil _ _) rfl hS1 (by omega) (Nat.le_refl _) ?_)
          intro ao' cap' w2 ho2 hg2
          obtain ⟨-, f1, ⟨u1, d1⟩, h4, h5⟩ := hback ao' cap' w2 ho2 hg2
          clear hback ho2 hg2 hS1
          go_wp2
          go_ret
          exact ⟨by rw [← h4]; rfl, h5⟩
        · clear hall hend
          go_wp2_with (at_builtin; refine wpList_append_sdsO rfl _ _ rfl w.heap.size rfl (Sw.nil _ _) rfl hS1 (by omega) (Nat.le_refl _) ?_)
          intro ao' cap' w2 ho2 hg2
          obtain ⟨-, f1, ⟨u1, d1⟩, h4, h5⟩ := hback ao' cap' w2 ho2 hg2
          clear hback ho2 hg2 hS1
          go_wp2
          go_ret
          exact ⟨by rw [← h4]; rfl, h5⟩
end Go.Proofs.YtbnoemfhcpjdjaaDoor
