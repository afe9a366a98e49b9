import Derived.Test.YtmnfdiffneobpaaS1
import Derived.Test.YtmnfdiffneobpaaC2
import Derived.Test.YtmnfdiffneobpaaD1
import Derived.Test.YtmnfdiffneobpaaK1
/-
  The document's index: Top, Find, Until.
-/
namespace Go.Proofs.Ytmnfdiffneobpaa
open Go.RowKit Go.Shelf
set_option linter.unusedVariables false

theorem find_first {p : Sd → Bool} {l : List Sd} {i : Nat} (hi : i < l.length) (hp : p l[i] = true) (hb : ∀ j (h : j < l.length), j < i → p l[j] = false) : l.find? p = some l[i] := by
  induction l generalizing i with
  | nil => simp at hi
  | cons a r ih =>
    cases i with
    | zero => rw [List.find?_cons_of_pos (by simpa using hp)]; rfl
    | succ i =>
      have h0 := hb 0 (by simp) (by omega)
      rw [List.find?_cons_of_neg (by simpa using h0)]
      exact ih (by simpa using hi) (by simpa using hp) (fun j h hj => by have := hb (j + 1) (by simpa using h) (by omega); simpa using this)
theorem untilR_snoc (l : List Sd) (s : Sd) (q : Int) : untilR (l ++ [s]) q = if s.o ≤ q then (s.p, true) else untilR l q := by
  by_cases h : s.o ≤ q
  · rw [if_pos h]
    simp only [untilR, List.filter_append]
    rw [List.filter_cons_of_pos (by simpa using h)]
    simp
  · rw [if_neg h]
    simp only [untilR, List.filter_append]
    rw [List.filter_cons_of_neg (by simpa using h)]
    simp

section
variable {w w' : World} {b : Nat} {bs en : Int} {ro : Option Addr} {rc : Nat} {l : List Sd}
set_option maxRecDepth 100000 in
set_option maxHeartbeats 1000000 in
theorem rtop_any (h : Ry w b ro rc bs en l) (hl : l.length ≤ 100000) : Calls Try.prog 68 #[.pointer (some ⟨b, 0, none⟩)] w fun e w' => e = .returned (.int .i64 (topR l)) ∧ w.grownBy w' none := by
  have c2 := h.ix.c2
  rcases Nat.eq_zero_or_pos l.length with h0 | h0
  · have e0 := List.eq_nil_of_length_eq_zero h0
    subst e0
    go_enter Try.func68, Try.ntmps68
    go_wp2
    go_ret
    exact ⟨rfl, grown_refl _ _⟩
  · obtain ⟨k, hk⟩ : ∃ k, l.length = k + 1 := ⟨l.length - 1, by omega⟩
    obtain ⟨s, hs⟩ : ∃ s, l[k]? = some s := ⟨_, List.getElem?_eq_getElem (by omega)⟩
    have ht : Hid (topR l = s.p) := by
      show _ = _
      unfold topR
      rw [List.getLast?_eq_getElem?, hk, Nat.add_sub_cancel, hs]
      rfl
    obtain ⟨m, hm⟩ : ∃ m, l.length = m := ⟨_, rfl⟩
    have hsw := h.sw
    rw [hm] at c2 hsw hk hl h0
    obtain ⟨g, rfl, _, _⟩ := hsw.addr h0
    have p1 := hsw.at hs 1 (by decide)
    simp only [Sd.cells, List.getElem?_cons_zero, List.getElem?_cons_succ] at p1
    have d0 : ((m : Int) == 0) = false := by simp; omega
    have ek : (m : Int) - 1 = (k : Int) := by omega
    have i1 : (0 : Int) ≤ (k : Int) := by omega
    have i2 : (k : Int) < (m : Int) := by omega
    clear hm hs hk
    go_enter Try.func68, Try.ntmps68
    go_wp2_with fail
    go_quiet (fail)
    have hG := grown_drewN w nq none
    go_wp2
    go_ret
    exact ⟨by rw [ht.out]; rfl, hG⟩

set_option maxRecDepth 100000 in
set_option maxHeartbeats 1000000 in
theorem rfind_any (h : Ry w b ro rc bs en l) (hl : l.length ≤ 100000) (q : Int) : Calls Try.prog 42 #[.pointer (some ⟨b, 0, none⟩), .int .i64 q] w fun e w' => e = .returned (.tuple #[.int .i64 (findR l q).1, .bool (findR l q).2]) ∧ w' = w := by
  have c2 := h.ix.c2
  have hsw := h.sw
  obtain ⟨m, hm⟩ : ∃ m, l.length = m := ⟨_, rfl⟩
  rw [hm] at c2 hl hsw
  replace hm : Hid _ := hm
  go_enter Try.func42, Try.ntmps42
  go_wp2_with fail
  go_loopw [6] (fun v6 wr => wr = w ∧ ∃ i : Nat, v6 = .int .i64 i ∧ i ≤ m ∧ (∀ j (h : j < l.length), j < i → decide (q ≤ l[j].p) = false)) (fun v6 _ => m - (intOf v6).toNat)
  case atStart => exact ⟨rfl, 0, rfl, Nat.zero_le _, fun j _ hj => by omega⟩
  case round =>
    obtain ⟨rfl, i, rfl, hi, hA⟩ := hrel
    by_cases hlt : i < m
    · have d1 : decide ((i : Int) < (m : Int)) = true := by simp; omega
      have hil : i < l.length := by have := hm.out; omega
      obtain ⟨s, hs⟩ : ∃ s, l[i] = s := ⟨_, rfl⟩
      have hs' : l[i]? = some s := by rw [List.getElem?_eq_getElem hil, hs]
      obtain ⟨g, rfl, _, _⟩ := hsw.addr (by omega)
      have p0 := hsw.at hs' 0 (by decide)
      have p1 := hsw.at hs' 1 (by decide)
      simp only [Sd.cells, List.getElem?_cons_zero, List.getElem?_cons_succ, Nat.add_zero] at p0 p1
      have i1 : (0 : Int) ≤ (i : Int) := by omega
      have i2 : (i : Int) < (m : Int) := by omega
      by_cases hq : q ≤ s.p
      · have d2 : decide (q ≤ s.p) = true := by simpa using hq
        have hr : Hid (findR l q = (s.o, true)) := by
          show _ = _
          unfold findR
          rw [find_first (p := fun s => decide (q ≤ s.p)) hil (by rw [hs]; exact d2) hA, hs]
        clear hA hs hs' hq
        go_wp2
        go_ret2
        exact ⟨by rw [hr.out]; rfl, rfl⟩
      · have d2 : decide (q ≤ s.p) = false := by simpa using hq
        have hA2 : ∀ j (h : j < l.length), j < i + 1 → decide (q ≤ l[j].p) = false := fun j h hj => by
          rcases Nat.lt_or_ge j i with h9 | h9
          · exact hA j h h9
          · obtain rfl : j = i := by omega
            rw [hs]; exact d2
        clear hA hs hs' hq
        go_wp2
        go_roundw
        case rel => exact ⟨trivial, i + 1, by go_num, by omega, hA2⟩
        case measure => simp [intOf]; omega
    · have d1 : decide ((i : Int) < (m : Int)) = false := by simp; omega
      have hr : Hid (findR l q = (0, false)) := by
        show _ = _
        unfold findR
        rw [List.find?_eq_none.2 fun s hs => by
          obtain ⟨j, hj, rfl⟩ := List.mem_iff_getElem.1 hs
          rw [hA j hj (by have := hm.out; omega)]
          simp]
      clear hA
      go_wp2
      go_ret2
      exact ⟨by rw [hr.out]; rfl, rfl⟩

set_option maxRecDepth 100000 in
set_option maxHeartbeats 1000000 in
theorem runtil_any (h : Ry w b ro rc bs en l) (hl : l.length ≤ 100000) (q : Int) : Calls Try.prog 43 #[.pointer (some ⟨b, 0, none⟩), .int .i64 q] w fun e w' => e = .returned (.tuple #[.int .i64 (untilR l q).1, .bool (untilR l q).2]) ∧ w' = w := by
  have c2 := h.ix.c2
  have hsw := h.sw
  obtain ⟨m, hm⟩ : ∃ m, l.length = m := ⟨_, rfl⟩
  rw [hm] at c2 hl hsw
  replace hm : Hid _ := hm
  go_enter Try.func43, Try.ntmps43
  go_wp2_with fail
  go_loopw [6, 7, 8] (fun v6 v7 v8 wr => wr = w ∧ ∃ (i : Nat) (t : Int) (u : Bool), v6 = .int .i64 t ∧ v7 = .bool u ∧ v8 = .int .i64 i ∧ i ≤ m ∧ Hid (untilR (l.take i) q = (t, u))) (fun _ _ v8 _ => m - (intOf v8).toNat)
  case atStart => exact ⟨rfl, 0, 0, false, rfl, rfl, rfl, Nat.zero_le _, rfl⟩
  case round =>
    obtain ⟨rfl, i, t, u, rfl, rfl, rfl, hi, hU⟩ := hrel
    by_cases hlt : i < m
    · have d1 : decide ((i : Int) < (m : Int)) = true := by simp; omega
      have hil : i < l.length := by have := hm.out; omega
      obtain ⟨s, hs⟩ : ∃ s, l[i] = s := ⟨_, rfl⟩
      have hs' : l[i]? = some s := by rw [List.getElem?_eq_getElem hil, hs]
      obtain ⟨g, rfl, _, _⟩ := hsw.addr (by omega)
      have p0 := hsw.at hs' 0 (by decide)
      have p1 := hsw.at hs' 1 (by decide)
      simp only [Sd.cells, List.getElem?_cons_zero, List.getElem?_cons_succ, Nat.add_zero] at p0 p1
      have i1 : (0 : Int) ≤ (i : Int) := by omega
      have i2 : (i : Int) < (m : Int) := by omega
      have hst := untilR_snoc (l.take i) s q
      rw [← hs, ← List.take_succ_eq_append_getElem hil, hs] at hst
      by_cases hq : s.o ≤ q
      · have d2 : decide (s.o ≤ q) = true := by simpa using hq
        rw [if_pos hq] at hst
        replace hst : Hid _ := hst
        clear hU hs hs' hq
        go_wp2
        go_roundw
        case rel => exact ⟨trivial, i + 1, s.p, true, rfl, rfl, by go_num, by omega, hst⟩
        case measure => simp [intOf]; omega
      · have d2 : decide (s.o ≤ q) = false := by simpa using hq
        rw [if_neg hq, hU.out] at hst
        replace hst : Hid _ := hst
        clear hU hs hs' hq
        go_wp2
        go_roundw
        case rel => exact ⟨trivial, i + 1, t, u, rfl, rfl, by go_num, by omega, hst⟩
        case measure => simp [intOf]; omega
    · have d1 : decide ((i : Int) < (m : Int)) = false := by simp; omega
      have hr : Hid (untilR l q = (t, u)) := by
        have h9 := hU.out
        rw [List.take_of_length_le (by have := hm.out; omega)] at h9
        exact h9
      clear hU
      go_wp2
      go_ret2
      exact ⟨by rw [hr.out]; rfl, rfl⟩
end
end Go.Proofs.Ytmnfdiffneobpaa

/-
  The document's index: Cut, Put.
-/
namespace Go.Proofs.Ytmnfdiffneobpaa
open Go.RowKit Go.Shelf
set_option linter.unusedVariables false

/-- The record's two last cells are written: rises and end. -/
theorem Rx.both {w : World} {b : Nat} {bs en : Int} {ro : Option Addr} {n rc : Nat} (h : Rx w b bs en ro n rc) (ro' : Option Addr) (n' rc' : Nat) (en' : Int) :
    Rx ((w.setCell ⟨b, 2, none⟩ (.slice ro' n' rc')).setCell ⟨b, 1, none⟩ (.int .i64 en')) b bs en' ro' n' rc' := (h.set2 ro' n' rc').set1 en'
theorem Ry.both {w wr : World} {b : Nat} {bs en : Int} {ro : Option Addr} {rc : Nat} {l : List Sd} (h : Ry wr b ro rc bs en l) (hg : w.grownBy wr none) (hbl : b < w.heap.size) {oo : Option Addr} {oc : Nat} {k : List Sd} {kn : Nat} (hs : Sw wr 0 oo kn oc k) (hkn : k.length = kn) (hF : Fresh w oo) (en' : Int) :
    Ry ((wr.setCell ⟨b, 2, none⟩ (.slice oo kn oc)).setCell ⟨b, 1, none⟩ (.int .i64 en')) b oo oc bs en' k ∧ Chg w ((wr.setCell ⟨b, 2, none⟩ (.slice oo kn oc)).setCell ⟨b, 1, none⟩ (.int .i64 en')) (fun q => q = b) := by
  subst hkn
  have h1 := setCell_chg wr b 2 (.slice oo k.length oc)
  have h2 := setCell_chg (wr.setCell ⟨b, 2, none⟩ (.slice oo k.length oc)) b 1 (.int .i64 en')
  have hbo : blk oo ≠ some b := hs.not64 h.ix (by decide)
  exact ⟨⟨h.ix.both _ _ _ _, hs.chg (h1.trans h2) (fun q e e2 => hbo (e2 ▸ e))⟩, (Chg.of_grown hg _).trans (h1.trans h2)⟩

section
variable {w w' : World} {b : Nat} {bs en : Int} {ro : Option Addr} {rc : Nat} {l : List Sd}
set_option maxRecDepth 100000 in
set_option maxHeartbeats 1000000 in
theorem rcut_bad (h : Ry w b ro rc bs en l) (q : Int) (hq : q < bs ∨ en < q) : Calls Try.prog 44 #[.pointer (some ⟨b, 0, none⟩), .int .i64 q] w fun e w' => e = .returned (.int .i64 4) ∧ w' = w := by
  have c0 := h.ix.c0
  have c1 := h.ix.c1
  by_cases h1 : q < bs
  · have d1 : decide (q < bs) = true := by simpa using h1
    clear hq h1
    go_enter Try.func44, Try.ntmps44
    go_wp2
    go_ret
    exact ⟨rfl, rfl⟩
  · have d1 : decide (q < bs) = false := by simpa using h1
    have d2 : decide (en < q) = true := by simp; omega
    clear hq h1
    go_enter Try.func44, Try.ntmps44
    go_wp2
    go_ret
    exact ⟨rfl, rfl⟩

set_option maxRecDepth 100000 in
set_option maxHeartbeats 1000000 in
theorem rcut_ok (h : Ry w b ro rc bs en l) (hl : l.length ≤ 100000) (q : Int) (h1 : bs ≤ q) (h2 : q ≤ en) : Calls Try.prog 44 #[.pointer (some ⟨b, 0, none⟩), .int .i64 q] w fun e w' => e = .returned (.int .i64 0) ∧ ∃ ro' rc', Ry w' b ro' rc' bs q (l.filter (fun s => !decide (q ≤ s.o))) ∧ Fresh w ro' ∧ Chg w w' (fun k => k = b) := by
  have c0 := h.ix.c0
  have c1 := h.ix.c1
  have hbl := h.lt
  have d1 : decide (q < bs) = false := by simp; omega
  have d2 : decide (en < q) = false := by simp; omega
  obtain ⟨m, hm⟩ : ∃ m, l.length = m := ⟨_, rfl⟩
  rw [hm] at hl
  replace hm : Hid _ := hm
  go_enter Try.func44, Try.ntmps44
  go_wp2_with fail
  go_loopw [5, 6] (fun v5 v6 wr => ∃ (i : Nat) (oo : Option Addr) (on oc : Nat), v5 = .slice oo on oc ∧ v6 = .int .i64 i ∧ i ≤ m ∧ on ≤ i ∧ Sw wr 0 oo on oc ((l.take i).filter (fun s => !decide (q ≤ s.o))) ∧ Fresh w oo ∧ w.grownBy wr none) (fun _ v6 _ => m - (intOf v6).toNat)
  case atStart => exact ⟨0, none, 0, 0, rfl, rfl, Nat.zero_le _, Nat.le_refl _, Sw.nil _ _, fun k e => (by cases e), grown_refl _ _⟩
  case round =>
    obtain ⟨i, oo, on, oc, rfl, rfl, hi, hoi, hS, hF, hg⟩ := hrel
    have hX := h.grown hg
    have c2 := hX.ix.c2
    have hsw := hX.sw
    rw [hm.out] at c2 hsw
    by_cases hlt : i < m
    · have d3 : decide ((i : Int) < (m : Int)) = true := by simp; omega
      have hil : i < l.length := by have := hm.out; omega
      obtain ⟨s, hs⟩ : ∃ s, l[i] = s := ⟨_, rfl⟩
      have hs' : l[i]? = some s := by rw [List.getElem?_eq_getElem hil, hs]
      obtain ⟨g, rfl, _, _⟩ := hsw.addr (by omega)
      have p0 := hsw.at hs' 0 (by decide)
      have p1 := hsw.at hs' 1 (by decide)
      simp only [Sd.cells, List.getElem?_cons_zero, List.getElem?_cons_succ, Nat.add_zero] at p0 p1
      have i1 : (0 : Int) ≤ (i : Int) := by omega
      have i2 : (i : Int) < (m : Int) := by omega
      have e1 : l.take (i + 1) = l.take i ++ [s] := by rw [List.take_succ_eq_append_getElem hil, hs]
      by_cases hq : s.o < q
      · have d4 : decide (s.o < q) = true := by simpa using hq
        have e2 : Hid ((l.take (i + 1)).filter (fun s => !decide (q ≤ s.o)) = (l.take i).filter (fun s => !decide (q ≤ s.o)) ++ [s]) := by
          show _ = _
          rw [e1, List.filter_append, List.filter_cons_of_pos (by simpa using hq)]; rfl
        have ga := alloc_grown wr (.cells #[.int .i64 s.o, .int .i64 s.p] 64)
        have kf := (Sb.new wr s.o s.p).shows
        have hS1 := hS.grown ga
        clear hs hs' hq e1 hX hsw
        go_wp2_with (at_builtin; refine wpList_append_sds rfl rfl _ _ rfl 0 rfl hS1 rfl kf (by simp) (by omega) (Nat.zero_le _) ?_)
        intro oo' oc' w2 hS2 hg2 hat2 _
        have hG2 : w.grownBy w2 none := grown_trans (grown_trans hg ga (by simp)) hg2 (fun k e => .inr (hF k e))
        have hF2 : Fresh w oo' := fun k e => by
          rcases hat2 with ⟨rfl, _⟩ | h9
          · exact hF k e
          · rw [h9] at e; cases e; have := hg.size; have := ga.size; omega
        have hS3 : Sw w2 0 oo' (on + 1) oc' ((l.take (i + 1)).filter (fun s => !decide (q ≤ s.o))) := by rw [e2.out]; exact hS2
        clear e2 hS2 hS1 kf hat2 hg2 ga hS
        go_wp2
        go_roundw
        case rel => exact ⟨i + 1, oo', on + 1, oc', rfl, by go_num, by omega, by omega, hS3, hF2, hG2⟩
        case measure => simp [intOf]; omega
      · have d4 : decide (s.o < q) = false := by simpa using hq
        have hS3 : Sw wr 0 oo on oc ((l.take (i + 1)).filter (fun s => !decide (q ≤ s.o))) := by
          rw [e1, List.filter_append, List.filter_cons_of_neg (by simp; omega), List.filter_nil, List.append_nil]; exact hS
        clear hs hs' hq e1 hX hsw hS
        go_wp2
        go_roundw
        case rel => exact ⟨i + 1, oo, on, oc, rfl, by go_num, by omega, by omega, hS3, hF, hg⟩
        case measure => simp [intOf]; omega
    · have d3 : decide ((i : Int) < (m : Int)) = false := by simp; omega
      rw [List.take_of_length_le (by have := hm.out; omega)] at hS
      obtain ⟨hR1, hR2⟩ := hX.both hg hbl hS hS.len hF q
      have fz := hX.ix.fz
      have hn : on = (l.filter (fun s => !decide (q ≤ s.o))).length := hS.len.symm
      have c1' := hX.ix.c1
      clear hX hS
      replace hn : Hid _ := hn
      go_wp2
      go_ret
      exact ⟨rfl, oo, oc, hR1, hF, hR2⟩
end
end Go.Proofs.Ytmnfdiffneobpaa

/-
  The document's index: Put.
-/
namespace Go.Proofs.Ytmnfdiffneobpaa
open Go.RowKit Go.Shelf
set_option linter.unusedVariables false

/-- A row is the old one, or fresh. -/
def Nr (w : World) (ro : Option Addr) (rc : Nat) (ro' : Option Addr) (rc' : Nat) : Prop := (ro' = ro ∧ rc' = rc) ∨ Fresh w ro'

section
variable {w w' : World} {b : Nat} {bs en : Int} {ro : Option Addr} {rc : Nat} {l : List Sd}
set_option maxRecDepth 100000 in
set_option maxHeartbeats 4000000 in
theorem rput_any (h : Ry w b ro rc bs en l) (hl : l.length ≤ 65536) (he0 : 0 ≤ en) (he1 : en ≤ 9007199254740993) (so : Option Addr) (n sc : Nat) (rl : List Rc) (hR : Rs w so n rl) (hn : n ≤ 100000) :
    Calls Try.prog 41 #[.pointer (some ⟨b, 0, none⟩), .slice so n sc] w fun e w' => ∃ ro' rc', e = .returned (.int .i64 (putR en l (rl.map Rc.t)).1) ∧ Ry w' b ro' rc' bs (putR en l (rl.map Rc.t)).2.1 (putR en l (rl.map Rc.t)).2.2 ∧ Nr w ro rc ro' rc' ∧ Chg w w' (fun k => k = b) := by
  have hlen := hR.len
  have hbl := h.lt
  obtain ⟨ts, hts⟩ : ∃ ts, rl.map Rc.t = ts := ⟨_, rfl⟩
  rw [hts]
  have htl : Hid (ts.length = n) := by show _ = _; rw [← hts, List.length_map, hlen]
  have hcell : ∀ W, w.grownBy W none → ∀ i (hi : i < ts.length), ∃ g o, so = some ⟨g, o, none⟩ ∧ W.cell? ⟨g, o + i * 3, none⟩ = some (.int .i64 ts[i]) := fun W hW i hi => by
    have hin : i < n := by have := htl.out; omega
    obtain ⟨g, o, he, hc⟩ := (hR.grown hW).pl (by omega)
    obtain ⟨r, hr⟩ : ∃ r, rl[i]? = some r := ⟨_, List.getElem?_eq_getElem (by omega)⟩
    have h9 : ts[i]? = some r.t := by rw [← hts, List.getElem?_map, hr]; rfl
    rw [List.getElem?_eq_getElem hi] at h9
    exact ⟨g, o, he, by rw [Option.some.inj h9]; exact (hc i r hr).1⟩
  replace hcell : Hid _ := hcell
  clear hts hlen hR
  have htop := rtop_any h (by omega)
  obtain ⟨M, hM⟩ : ∃ M, topR l = M := ⟨_, rfl⟩
  rw [hM] at htop
  replace hM : Hid _ := hM
  go_enter Try.func41, Try.ntmps41
  go_wp2_with fail
  refine htop.mono ?_
  rintro e w1 ⟨rfl, hg1⟩
  clear htop
  go_wp2_with fail
  go_loopw [5, 6, 7] (fun v5 v6 v7 wr => wr = w1 ∧ ∃ (i c : Nat) (t : Int), v5 = .int .i64 c ∧ v6 = .int .i64 t ∧ v7 = .int .i64 i ∧ i ≤ n ∧ c ≤ i ∧ Hid ((riseL M en (ts.take i)).length = c ∧ topT M (ts.take i) = t)) (fun _ _ v7 _ => n - (intOf v7).toNat)
  case atStart => exact ⟨rfl, 0, 0, M, rfl, rfl, rfl, Nat.zero_le _, Nat.le_refl _, ⟨rfl, rfl⟩⟩
  case round =>
    obtain ⟨rfl, i, c, t, rfl, rfl, rfl, hi, hci, hT⟩ := hrel
    by_cases hlt : i < n
    · have d1 : decide ((i : Int) < (n : Int)) = true := by simp; omega
      have hil : i < ts.length := by have := htl.out; omega
      obtain ⟨g, o, rfl, q0⟩ := hcell.out wr hg1 i hil
      have e1 : ts.take (i + 1) = ts.take i ++ [ts[i]] := List.take_succ_eq_append_getElem hil
      have i1 : (0 : Int) ≤ (i : Int) := by omega
      have i2 : (i : Int) < (n : Int) := by omega
      have hr := riseL_snoc M en (ts.take i) ts[i]
      have hp := topT_snoc M (ts.take i) ts[i]
      rw [← e1, hT.out.2] at hr hp
      generalize ts[i] = x at *
      by_cases hx : t < x
      · have d2 : decide (t < x) = true := by simpa using hx
        have hT2 : Hid ((riseL M en (ts.take (i + 1))).length = c + 1 ∧ topT M (ts.take (i + 1)) = x) := by
          refine ⟨?_, ?_⟩
          · rw [hr, if_pos hx, List.length_append, hT.out.1]; rfl
          · rw [hp, if_pos hx]
        clear hT hr hp e1 hx
        go_wp2
        go_roundw
        case rel => exact ⟨trivial, i + 1, c + 1, x, by go_num, rfl, by go_num, by omega, by omega, hT2⟩
        case measure => simp [intOf]; omega
      · have d2 : decide (t < x) = false := by simpa using hx
        have hT2 : Hid ((riseL M en (ts.take (i + 1))).length = c ∧ topT M (ts.take (i + 1)) = t) := by
          refine ⟨?_, ?_⟩
          · rw [hr, if_neg hx, List.append_nil, hT.out.1]
          · rw [hp, if_neg hx]
        clear hT hr hp e1 hx
        go_wp2
        go_roundw
        case rel => exact ⟨trivial, i + 1, c, t, rfl, rfl, by go_num, by omega, by omega, hT2⟩
        case measure => simp [intOf]; omega
    · have d1 : decide ((i : Int) < (n : Int)) = false := by simp; omega
      have hT1 := hT.out.1
      rw [List.take_of_length_le (by have := htl.out; omega)] at hT1
      have hX := h.grown hg1
      have c1 := hX.ix.c1
      have c2 := hX.ix.c2
      obtain ⟨m, hm⟩ : ∃ m, l.length = m := ⟨_, rfl⟩
      rw [hm] at c2 hl
      have hL : (l ++ riseL (topR l) en ts).length = m + c := by rw [hM.out, List.length_append, hm, hT1]
      have hbad : Hid ((65536 < m + c ∨ 9007199254740993 < en + (n : Int)) → putR en l ts = (3, en, l)) := fun h9 => by
        unfold putR
        rw [hL, htl.out, if_pos h9]
      have hgoo : Hid (¬ (65536 < m + c ∨ 9007199254740993 < en + (n : Int)) → putR en l ts = (0, en + (n : Int), l ++ riseL M en ts)) := fun h9 => by
        unfold putR
        rw [hL, htl.out, if_neg h9, hM.out]
      replace hm : Hid _ := hm
      replace hT1 : Hid _ := hT1
      obtain ⟨S, hS⟩ : ∃ S, m + c = S := ⟨_, rfl⟩
      have eS : (m : Int) + (c : Int) = (S : Int) := by omega
      clear hT hL
      by_cases hb1 : 65536 < S
      · have d2 : decide ((65536 : Int) < (S : Int)) = true := by simp; omega
        have hp : Hid _ := hbad.out (.inl (by omega))
        clear hbad hgoo hS hb1
        go_wp2
        go_ret
        exact ⟨ro, rc, by rw [hp.out]; rfl, by rw [hp.out]; exact hX, .inl ⟨rfl, rfl⟩, Chg.of_grown hg1 _⟩
      have d2 : decide ((65536 : Int) < (S : Int)) = false := by simp; omega
      obtain ⟨D, hD⟩ : ∃ D, 9007199254740993 - en = D := ⟨_, rfl⟩
      have eD : (9007199254740993 : Int) - en = D := hD
      by_cases hb2 : D < (n : Int)
      · have d3 : decide (D < (n : Int)) = true := by simpa using hb2
        have hp : Hid _ := hbad.out (.inr (by omega))
        clear hbad hgoo hS hb1 hb2 hD
        go_wp2
        go_ret
        exact ⟨ro, rc, by rw [hp.out]; rfl, by rw [hp.out]; exact hX, .inl ⟨rfl, rfl⟩, Chg.of_grown hg1 _⟩
      have d3 : decide (D < (n : Int)) = false := by simpa using hb2
      have hp : Hid _ := hgoo.out (by omega)
      have hen : en + (n : Int) ≤ 9007199254740993 := by omega
      have ga := alloc_grown wr (.cells #[] 64)
      have ho0 := Sw.new wr
      have hsw := hX.sw
      rw [hm.out] at hsw
      have hb0 := (hsw.grown ga).shows
      have hnone : ro = none → rc = 0 := fun e => by subst e; rcases hsw.row.2 with ⟨hv, _⟩ | ⟨g, c, cur, hv, _⟩; cases hv; rfl; cases hv
      have hXg := hX.grown ga
      have c2g := hXg.ix.c2
      rw [hm.out] at c2g
      clear hbad hgoo hb1 hb2 hS hD
      go_wp2_with (at_builtin; refine wpList_append_sds rfl rfl _ _ rfl wr.heap.size rfl ho0 rfl hb0 hnone (by omega) (by simp) ?_)
      intro oo oc w2 hO2 hg2 hat2 _
      have hg02 : wr.grownBy w2 none := grown_trans ga hg2 (fun k e => .inr (by simp [blk] at e; omega))
      have hG2 := grown_trans hg1 hg02 (by simp)
      have hF2 : Fresh w oo := fun k e => by have := (hO2.from_base k e).1; have := hg1.size; omega
      have hX2 := hX.grown hg02
      have htop := rtop_any hX2 (by rw [hm.out]; omega)
      rw [hM.out] at htop
      have hO2' := hO2.rebase (Nat.zero_le _)
      clear ho0 hb0 hXg c2g ga hg2 hat2 hsw hO2 hg02
      go_wp2_with fail
      refine htop.mono ?_
      rintro e w3 ⟨rfl, hg3⟩
      clear htop
      have hO3 := hO2'.grown hg3
      have hG3 := grown_trans hG2 hg3 (by simp)
      clear hO2' hX2 hX c1 c2 hG2 hg3
      go_wp2_with fail
      go_loopw [6, 8, 9] (fun v6 v8 v9 wr => ∃ (j : Nat) (t : Int) (po : Option Addr) (pn pc : Nat), v6 = .int .i64 t ∧ v8 = .slice po pn pc ∧ v9 = .int .i64 j ∧ j ≤ n ∧ pn ≤ m + j ∧ Hid (topT M (ts.take j) = t) ∧ Sw wr 0 po pn pc (l ++ riseL M en (ts.take j)) ∧ Fresh w po ∧ w.grownBy wr none) (fun _ _ v9 _ => n - (intOf v9).toNat)
      case atStart => exact ⟨0, M, oo, m, oc, rfl, rfl, rfl, Nat.zero_le _, Nat.le_refl _, rfl, by simpa [riseL] using hO3, hF2, hG3⟩
      case round =>
        obtain ⟨j, t, po, pn, pc, rfl, rfl, rfl, hj, hpj, hT, hO, hF, hg⟩ := hrel
        have hXq := h.grown hg
        have c1 := hXq.ix.c1
        by_cases hlt : j < n
        · have d5 : decide ((j : Int) < (n : Int)) = true := by simp; omega
          have hil : j < ts.length := by have := htl.out; omega
          obtain ⟨g, o, rfl, q0⟩ := hcell.out wr hg j hil
          have e1 : ts.take (j + 1) = ts.take j ++ [ts[j]] := List.take_succ_eq_append_getElem hil
          have e2 : ((ts.take j).length : Int) = (j : Int) := by simp; omega
          have i1 : (0 : Int) ≤ (j : Int) := by omega
          have i2 : (j : Int) < (n : Int) := by omega
          have hr := riseL_snoc M en (ts.take j) ts[j]
          have hq := topT_snoc M (ts.take j) ts[j]
          rw [← e1, hT.out] at hr hq
          rw [e2] at hr
          generalize ts[j] = x at *
          by_cases hx : t < x
          · have d6 : decide (t < x) = true := by simpa using hx
            rw [if_pos hx] at hr hq
            replace hr : Hid _ := hr
            replace hq : Hid _ := hq
            have ga := alloc_grown wr (.cells #[.int .i64 (en + (j : Int)), .int .i64 x] 64)
            have kf := (Sb.new wr (en + (j : Int)) x).shows
            have hO1 := hO.grown ga
            have hsz := hg.size
            clear hT e1 e2 hx hXq
            go_wp2_with (at_builtin; refine wpList_append_sds rfl rfl _ _ rfl 0 rfl hO1 rfl kf (by simp) (by omega) (Nat.zero_le _) ?_)
            intro po' pc' w5 hO5 hg5 hat5 _
            have hG5 : w.grownBy w5 none := grown_trans (grown_trans hg ga (by simp)) hg5 (fun k e => .inr (hF k e))
            have hF5 : Fresh w po' := fun k e => by
              rcases hat5 with ⟨rfl, _⟩ | h9
              · exact hF k e
              · rw [h9] at e; cases e; have := ga.size; omega
            have hO6 : Sw w5 0 po' (pn + 1) pc' (l ++ riseL M en (ts.take (j + 1))) := by rw [hr.out]; exact hO5
            clear hr hO5 hO1 kf hat5 hg5 ga hO
            go_wp2
            go_roundw
            case rel => exact ⟨j + 1, x, po', pn + 1, pc', rfl, rfl, by go_num, by omega, by omega, hq, hO6, hF5, hG5⟩
            case measure => simp [intOf]; omega
          · have d6 : decide (t < x) = false := by simpa using hx
            rw [if_neg hx] at hr hq
            have hO6 : Sw wr 0 po pn pc (l ++ riseL M en (ts.take (j + 1))) := by rw [hr, List.append_nil]; exact hO
            replace hq : Hid _ := hq
            clear hT e1 e2 hx hXq hr hO
            go_wp2
            go_roundw
            case rel => exact ⟨j + 1, t, po, pn, pc, rfl, rfl, by go_num, by omega, by omega, hq, hO6, hF, hg⟩
            case measure => simp [intOf]; omega
        · have d5 : decide ((j : Int) < (n : Int)) = false := by simp; omega
          rw [List.take_of_length_le (by have := htl.out; omega)] at hO
          obtain ⟨hR1, hR2⟩ := hXq.both hg hbl hO hO.len hF (en + (n : Int))
          have fz := hXq.ix.fz
          have c2 := hXq.ix.c2
          rw [hm.out] at c2
          clear hXq hO
          go_wp2
          go_ret
          exact ⟨po, pc, by rw [hp.out]; rfl, by rw [hp.out]; exact hR1, .inr hF, hR2⟩
end
end Go.Proofs.Ytmnfdiffneobpaa

/-
  The document's index: Join.
-/
namespace Go.Proofs.Ytmnfdiffneobpaa
open Go.RowKit Go.Shelf
set_option linter.unusedVariables false

/-- What Join answers, and leaves: its end, its rises. -/
def joinR (en : Int) (l : List Sd) (bs2 en2 : Int) (k : List Sd) : Int × Int × List Sd :=
  if bs2 ≠ en then (4, en, l) else if 65536 < (l ++ k.filter (fun s => decide (topR l < s.p))).length then (3, en, l) else (0, en2, l ++ k.filter (fun s => decide (topR l < s.p)))
section
variable {w w' : World} {b c : Nat} {bs en bs2 en2 : Int} {ro rr : Option Addr} {rc rc2 : Nat} {l k : List Sd}
set_option maxRecDepth 100000 in
set_option maxHeartbeats 4000000 in
theorem rjoin_any (h : Ry w b ro rc bs en l) (h2 : Ry w c rr rc2 bs2 en2 k) (hl : l.length ≤ 65536) (hk : k.length ≤ 65536) :
    Calls Try.prog 47 #[.pointer (some ⟨b, 0, none⟩), .pointer (some ⟨c, 0, none⟩)] w fun e w' => ∃ ro' rc', e = .returned (.int .i64 (joinR en l bs2 en2 k).1) ∧ Ry w' b ro' rc' bs (joinR en l bs2 en2 k).2.1 (joinR en l bs2 en2 k).2.2 ∧ Nr w ro rc ro' rc' ∧ Chg w w' (fun q => q = b) := by
  have hbl := h.lt
  have x1 := h.ix.c1
  have y0 := h2.ix.c0
  by_cases hne : bs2 ≠ en
  · have d1 : (bs2 != en) = true := by simpa using hne
    have hp : Hid (joinR en l bs2 en2 k = (4, en, l)) := by show _ = _; unfold joinR; rw [if_pos hne]
    clear hne
    go_enter Try.func47, Try.ntmps47
    go_wp2_with fail
    go_quiet (fail)
    have hG := grown_drewN w nq none
    have hX := h.grown hG
    go_wp2
    go_ret
    exact ⟨ro, rc, by rw [hp.out]; rfl, by rw [hp.out]; exact hX, .inl ⟨rfl, rfl⟩, Chg.of_grown hG _⟩
  obtain rfl : bs2 = en := by simpa using hne
  have d1 : (bs2 != bs2) = false := by simp
  obtain ⟨M, hM⟩ : ∃ M, topR l = M := ⟨_, rfl⟩
  obtain ⟨m, hm⟩ : ∃ m, l.length = m := ⟨_, rfl⟩
  obtain ⟨n, hn⟩ : ∃ n, k.length = n := ⟨_, rfl⟩
  rw [hm] at hl
  rw [hn] at hk
  have hj1 : Hid (65536 < (l ++ k.filter (fun s => decide (M < s.p))).length → joinR bs2 l bs2 en2 k = (3, bs2, l)) := fun h9 => by unfold joinR; rw [if_neg (by simp), hM, if_pos h9]
  have hj2 : Hid (¬ 65536 < (l ++ k.filter (fun s => decide (M < s.p))).length → joinR bs2 l bs2 en2 k = (0, en2, l ++ k.filter (fun s => decide (M < s.p)))) := fun h9 => by unfold joinR; rw [if_neg (by simp), hM, if_neg h9]
  replace hM : Hid _ := hM
  replace hm : Hid _ := hm
  replace hn : Hid _ := hn
  clear hne
  go_enter Try.func47, Try.ntmps47
  go_wp2_with fail
  go_quiet (fail)
  have hG1 := grown_drewN w nq none
  have hX1 := h.grown hG1
  clear x1 y0
  generalize w.drewN nq = w1 at *
  have ga := alloc_grown w1 (.cells #[] 64)
  have ho0 := Sw.new w1
  have hsw := hX1.sw
  have c2 := hX1.ix.c2
  have c2g := (hX1.grown ga).ix.c2
  rw [hm.out] at hsw c2 c2g
  have hb0 := (hsw.grown ga).shows
  have hnone : ro = none → rc = 0 := fun e => by subst e; rcases hsw.row.2 with ⟨hv, _⟩ | ⟨g, c, cur, hv, _⟩; cases hv; rfl; cases hv
  go_wp2_with (at_builtin; refine wpList_append_sds rfl rfl _ _ rfl w1.heap.size rfl ho0 rfl hb0 hnone (by omega) (by simp) ?_)
  intro oo oc w2 hO2 hg2 hat2 _
  have hg02 : w1.grownBy w2 none := grown_trans ga hg2 (fun k e => .inr (by simp [blk] at e; omega))
  have hG2 := grown_trans hG1 hg02 (by simp)
  have hF2 : Fresh w oo := fun k e => by have := (hO2.from_base k e).1; have := hG1.size; omega
  have hX2 := hX1.grown hg02
  have htop := rtop_any hX2 (by rw [hm.out]; omega)
  rw [hM.out] at htop
  have hO2' := hO2.rebase (Nat.zero_le _)
  clear ho0 hb0 c2g ga hg2 hat2 hsw hO2 hg02 hX1 c2
  go_wp2_with fail
  refine htop.mono ?_
  rintro e w3 ⟨rfl, hg3⟩
  clear htop
  have hO3 := hO2'.grown hg3
  have hG3 := grown_trans hG2 hg3 (by simp)
  clear hO2' hX2 hG2 hg3 hG1
  go_wp2_with fail
  go_loopw [5, 7] (fun v5 v7 wr => ∃ (j : Nat) (po : Option Addr) (pn pc : Nat), v5 = .slice po pn pc ∧ v7 = .int .i64 j ∧ j ≤ n ∧ pn ≤ m + j ∧ Sw wr 0 po pn pc (l ++ (k.take j).filter (fun s => decide (M < s.p))) ∧ Fresh w po ∧ w.grownBy wr none) (fun _ v7 _ => n - (intOf v7).toNat)
  case atStart => exact ⟨0, oo, m, oc, rfl, rfl, Nat.zero_le _, Nat.le_refl _, by simpa using hO3, hF2, hG3⟩
  case round =>
    obtain ⟨j, po, pn, pc, rfl, rfl, hj, hpj, hO, hF, hg⟩ := hrel
    have hYq := h2.grown hg
    have hsw := hYq.sw
    have z1 := hYq.ix.c1
    have z2 := hYq.ix.c2
    rw [hn.out] at hsw z2
    by_cases hlt : j < n
    · have d5 : decide ((j : Int) < (n : Int)) = true := by simp; omega
      have hil : j < k.length := by have := hn.out; omega
      obtain ⟨s, hs⟩ : ∃ s, k[j] = s := ⟨_, rfl⟩
      have hs' : k[j]? = some s := by rw [List.getElem?_eq_getElem hil, hs]
      obtain ⟨g, rfl, _, _⟩ := hsw.addr (by omega)
      have p0 := hsw.at hs' 0 (by decide)
      have p1 := hsw.at hs' 1 (by decide)
      simp only [Sd.cells, List.getElem?_cons_zero, List.getElem?_cons_succ, Nat.add_zero] at p0 p1
      have i1 : (0 : Int) ≤ (j : Int) := by omega
      have i2 : (j : Int) < (n : Int) := by omega
      have e1 : k.take (j + 1) = k.take j ++ [s] := by rw [List.take_succ_eq_append_getElem hil, hs]
      by_cases hq : M < s.p
      · have d6 : decide (M < s.p) = true := by simpa using hq
        have e2 : Hid (l ++ (k.take (j + 1)).filter (fun s => decide (M < s.p)) = l ++ (k.take j).filter (fun s => decide (M < s.p)) ++ [s]) := by
          show _ = _
          rw [e1, List.filter_append, List.filter_cons_of_pos (by simpa using hq), List.append_assoc]; rfl
        have ga := alloc_grown wr (.cells #[.int .i64 s.o, .int .i64 s.p] 64)
        have kf := (Sb.new wr s.o s.p).shows
        have hO1 := hO.grown ga
        have hsz := hg.size
        clear hs hs' hq e1 hYq hsw
        go_wp2_with (at_builtin; refine wpList_append_sds rfl rfl _ _ rfl 0 rfl hO1 rfl kf (by simp) (by omega) (Nat.zero_le _) ?_)
        intro po' pc' w5 hO5 hg5 hat5 _
        have hG5 : w.grownBy w5 none := grown_trans (grown_trans hg ga (by simp)) hg5 (fun k e => .inr (hF k e))
        have hF5 : Fresh w po' := fun k e => by
          rcases hat5 with ⟨rfl, _⟩ | h9
          · exact hF k e
          · rw [h9] at e; cases e; have := ga.size; omega
        have hO6 : Sw w5 0 po' (pn + 1) pc' (l ++ (k.take (j + 1)).filter (fun s => decide (M < s.p))) := by rw [e2.out]; simpa using hO5
        clear e2 hO5 hO1 kf hat5 hg5 ga hO
        go_wp2
        go_roundw
        case rel => exact ⟨j + 1, po', pn + 1, pc', rfl, by go_num, by omega, by omega, hO6, hF5, hG5⟩
        case measure => simp [intOf]; omega
      · have d6 : decide (M < s.p) = false := by simpa using hq
        have hO6 : Sw wr 0 po pn pc (l ++ (k.take (j + 1)).filter (fun s => decide (M < s.p))) := by
          rw [e1, List.filter_append, List.filter_cons_of_neg (by simpa using hq), List.filter_nil, List.append_nil]; exact hO
        clear hs hs' hq e1 hYq hsw hO
        go_wp2
        go_roundw
        case rel => exact ⟨j + 1, po, pn, pc, rfl, by go_num, by omega, by omega, hO6, hF, hg⟩
        case measure => simp [intOf]; omega
    · have d5 : decide ((j : Int) < (n : Int)) = false := by simp; omega
      rw [List.take_of_length_le (by have := hn.out; omega)] at hO
      have hXq := h.grown hg
      have hlen := hO.len
      by_cases hfew : 65536 < pn
      · have d6 : decide ((65536 : Int) < (pn : Int)) = true := by simp; omega
        have hp : Hid _ := hj1.out (by omega)
        clear hj1 hj2 hlen hO hYq hsw hfew
        go_wp2
        go_ret
        exact ⟨ro, rc, by rw [hp.out]; rfl, by rw [hp.out]; exact hXq, .inl ⟨rfl, rfl⟩, Chg.of_grown hg _⟩
      · have d6 : decide ((65536 : Int) < (pn : Int)) = false := by simp; omega
        have hp : Hid _ := hj2.out (by omega)
        obtain ⟨hR1, hR2⟩ := hXq.both hg hbl hO hlen hF en2
        have fz := hXq.ix.fz
        have x1 := hXq.ix.c1
        have x2 := hXq.ix.c2
        rw [hm.out] at x2
        clear hj1 hj2 hlen hO hYq hsw hfew hXq
        go_wp2
        go_ret
        exact ⟨po, pc, by rw [hp.out]; rfl, by rw [hp.out]; exact hR1, .inr hF, hR2⟩
end
end Go.Proofs.Ytmnfdiffneobpaa
