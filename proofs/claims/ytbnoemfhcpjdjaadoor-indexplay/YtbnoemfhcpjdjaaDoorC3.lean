/-
  Find, At, Cut.
-/
import Derived.Test.YtbnoemfhcpjdjaaDoorC2
namespace Go.Proofs.YtbnoemfhcpjdjaaDoor
open Go.RowKit Go.Sort
set_option linter.unusedVariables false

def findR (n : Int) (l : List Sd) : Sd × Bool := lastR (fun s => decide (n < s.o)) l
def atR (n : Int) (l : List Sd) : Sd × Bool := lastR (fun s => decide (n < s.p)) l
def cutR (n : Int) (l : List Sd) : Nat := cnt (fun s => decide (n ≤ s.p)) l

section
variable {w w' : World} {base b : Nat} {st : Int} {l : List Sd}

set_option maxRecDepth 100000 in
set_option maxHeartbeats 1000000 in
theorem find_any (h : Xd w base b st l) (hD : Dt w) (h1 : 1 ≤ st) (hgood : Good l) (hsrt : Srt l) (n : Int) : Calls Tryd.prog 12 #[.pointer (some ⟨b, 0, none⟩), .int .i64 n] w fun e w' => e = .returned (.tuple #[(findR n l).1.val, .bool (findR n l).2]) ∧ w.grownBy w' none := by
  have hmf := hmf
  have hg := grown_trans (alloc_grown w (.cells #[.int .i64 n] 2)) (alloc_grown _ (.cells #[.int .i64 0, .int .i64 0] 33)) (by simp)
  have hz := (Boxed.new w 2 (.int .i64 n)).cell
  have hz2 := (alloc_grown (w.alloc (.cells #[.int .i64 n] 2)) (.cells #[.int .i64 0, .int .i64 0] 33)).cell hz (by simp)
  have hs := Sb.new (w.alloc (.cells #[.int .i64 n] 2)) 0 0
  rw [World.size_alloc] at hs
  have hla := last_any (h.grown hg) (hD.grown hg) h1 hgood 30 w.heap.size (fun s => decide (n < s.o)) (fun W s hW => clo30 W s _ n (hW.cell hz2 (by simp))) (enters_of Tryd.func30 (by kernel_rfl) rfl) (mono_of (pB := fun s => decide (n < s.o)) hsrt (fun s t h1 _ h2 => by simp at h2 ⊢; omega))
  rw [show lastR (fun s => decide (n < s.o)) l = findR n l from rfl] at hla
  generalize findR n l = r at *
  obtain ⟨⟨x, y⟩, v⟩ := r
  unfold Sd.val at hla ⊢
  simp only at hla ⊢
  go_enter Tryd.func12, Tryd.ntmps12
  go_wp2_with fail
  refine hla.mono ?_
  rintro e w1 ⟨rfl, hg1⟩
  replace hs := hs.grown hg1
  replace hg := grown_trans hg hg1 (by simp)
  have c0 := hs.c0
  have c1 := hs.c1
  have f0 := hs.fz 0
  have f1 := hs.fz 1
  have hw := hs.set x y
  have hgw : w.grownBy _ none := ((Chg.of_grown hg _).trans (set2_chg w1 (w.heap.size + 1) (.int .i64 x) (.int .i64 y))).grown (fun k hk e => by omega)
  have v0 := hw.c0
  have v1 := hw.c1
  clear hla hg1 hs hw hz hz2
  go_wp2
  exact bodyPost_ret (v := .tuple #[.agg #[.int .i64 x, .int .i64 y], .bool v]) (by simp [results, Tryd.results12, go_sem, v0, v1]) rfl ⟨rfl, hgw⟩

set_option maxRecDepth 100000 in
set_option maxHeartbeats 1000000 in
theorem at_any (h : Xd w base b st l) (hD : Dt w) (h1 : 1 ≤ st) (hgood : Good l) (hsrt : Srt l) (n : Int) : Calls Tryd.prog 14 #[.pointer (some ⟨b, 0, none⟩), .int .i64 n] w fun e w' => e = .returned (.tuple #[(atR n l).1.val, .bool (atR n l).2]) ∧ w.grownBy w' none := by
  have hmf := hmf
  have hg := grown_trans (alloc_grown w (.cells #[.int .i64 n] 3)) (alloc_grown _ (.cells #[.int .i64 0, .int .i64 0] 33)) (by simp)
  have hz := (Boxed.new w 3 (.int .i64 n)).cell
  have hz2 := (alloc_grown (w.alloc (.cells #[.int .i64 n] 3)) (.cells #[.int .i64 0, .int .i64 0] 33)).cell hz (by simp)
  have hs := Sb.new (w.alloc (.cells #[.int .i64 n] 3)) 0 0
  rw [World.size_alloc] at hs
  have hla := last_any (h.grown hg) (hD.grown hg) h1 hgood 31 w.heap.size (fun s => decide (n < s.p)) (fun W s hW => clo31 W s _ n (hW.cell hz2 (by simp))) (enters_of Tryd.func31 (by kernel_rfl) rfl) (mono_of (pB := fun s => decide (n < s.p)) hsrt (fun s t _ h1 h2 => by simp at h2 ⊢; omega))
  rw [show lastR (fun s => decide (n < s.p)) l = atR n l from rfl] at hla
  generalize atR n l = r at *
  obtain ⟨⟨x, y⟩, v⟩ := r
  unfold Sd.val at hla ⊢
  simp only at hla ⊢
  go_enter Tryd.func14, Tryd.ntmps14
  go_wp2_with fail
  refine hla.mono ?_
  rintro e w1 ⟨rfl, hg1⟩
  replace hs := hs.grown hg1
  replace hg := grown_trans hg hg1 (by simp)
  have c0 := hs.c0
  have c1 := hs.c1
  have f0 := hs.fz 0
  have f1 := hs.fz 1
  have hw := hs.set x y
  have hgw : w.grownBy _ none := ((Chg.of_grown hg _).trans (set2_chg w1 (w.heap.size + 1) (.int .i64 x) (.int .i64 y))).grown (fun k hk e => by omega)
  have v0 := hw.c0
  have v1 := hw.c1
  clear hla hg1 hs hw hz hz2
  go_wp2
  exact bodyPost_ret (v := .tuple #[.agg #[.int .i64 x, .int .i64 y], .bool v]) (by simp [results, Tryd.results14, go_sem, v0, v1]) rfl ⟨rfl, hgw⟩

theorem tcells_take (l : List Sd) (k : Nat) : tcells (l.take k) = (tcells l).take (k * 2) := by
  induction l generalizing k with
  | nil => simp [tcells]
  | cons q t ih =>
    cases k with
    | zero => simp [tcells]
    | succ k =>
      have hc : ∀ t, tcells (q :: t) = q.cells ++ tcells t := fun t => by simp [tcells]
      have hq : q.cells.length = 2 := rfl
      rw [List.take_succ_cons, hc, hc, ih, List.take_append, List.take_of_length_le (l := q.cells) (by rw [hq]; omega), hq, show (k + 1) * 2 - 2 = k * 2 by omega]
theorem Sw.take {ro : Option Addr} {n rc : Nat} (h : Sw w base ro n rc l) (k : Nat) (hk : k ≤ n) : Sw w base ro k rc (l.take k) := by
  have hl := h.len
  refine ⟨by simp [hl]; omega, by rw [tcells_len]; simp [hl]; omega, ?_⟩
  rcases h.row.2 with ⟨hv, h0⟩ | ⟨g, cap, cur, hv, hb, hg, hn, hm, hs, ht⟩
  · cases hv
    exact Or.inl ⟨by rw [show k = 0 by omega], by omega⟩
  · cases hv
    refine Or.inr ⟨g, rc, cur, rfl, hb, hg, by omega, hm, hs, ?_⟩
    rw [tcells_take, ← ht, List.take_take, Nat.min_eq_left (by omega)]

set_option maxRecDepth 100000 in
set_option maxHeartbeats 1000000 in
theorem cut_any (h : Xd w base b st l) (h1 : 1 ≤ st) (hsrt : Srt l) (n : Int) : Calls Tryd.prog 16 #[.pointer (some ⟨b, 0, none⟩), .int .i64 n] w fun e w' => e = .returned (.int .i64 ((l.length - cutR n l : Nat) : Int)) ∧ Xd w' base b st (l.take (cutR n l)) ∧ Chg w w' (fun k => k = b) := by
  have hmf := hmf
  have hg := alloc_grown w (.cells #[.int .i64 n] 3)
  have hz := (Boxed.new w 3 (.int .i64 n)).cell
  have hma : Calls Tryd.prog 26 _ _ _ := made_yes (st := st) (b := b) (w := w.alloc (.cells #[.int .i64 n] 3)) (by obtain ⟨⟨_, _, hi, _⟩, _, _⟩ := h.grown hg; exact hi.c0) h1
  have hco := count_any (h.grown hg) 33 w.heap.size (fun s => decide (n ≤ s.p)) (fun W s hW => clo33 W s _ n (hW.cell hz (by simp))) (enters_of Tryd.func33 (by kernel_rfl) rfl) (mono_of (pB := fun s => decide (n ≤ s.p)) hsrt (fun s t _ h1 h2 => by simp at h2 ⊢; omega))
  rw [show cnt (fun s => decide (n ≤ s.p)) l = cutR n l from rfl] at hco
  have hkl : cutR n l ≤ l.length := cnt_le _ _
  generalize cutR n l = k at *
  go_enter Tryd.func16, Tryd.ntmps16
  go_wp2_with fail
  refine hma.mono ?_
  rintro e w1 ⟨rfl, rfl⟩
  go_wp2_with fail
  generalize w.alloc (.cells #[.int .i64 n] 3) = w1 at *
  refine hco.mono ?_
  rintro e w2 ⟨rfl, hg2⟩
  have hG2 := grown_trans hg hg2 (by simp)
  obtain ⟨⟨ro, rc, hi, hr⟩, hge, hf⟩ := h.grown hG2
  have c1 := hi.c1
  have f1 := hi.fz 1
  have hroom : l.length ≤ rc := by
    rcases hr.row.2 with ⟨hv, h0⟩ | ⟨g, cap, cur, hv, hb, hg, hn, hm, hs, ht⟩
    · omega
    · simp only [Value.slice.injEq] at hv
      obtain ⟨_, _, rfl⟩ := hv
      exact hn
  have hS := setCell_chg w2 b 1 (.slice ro k rc)
  have hX : Xd (w2.setCell ⟨b, 1, none⟩ (.slice ro k rc)) base b st (l.take k) := by
    have hl : (l.take k).length = k := by simp; omega
    refine ⟨⟨ro, rc, by rw [hl]; exact hi.set ro k rc, by rw [hl]; exact (hr.take k hkl).chg hS (fun q hq e => hr.not59 hi (by decide) (by rw [hq, e]))⟩, hge, by omega⟩
  have hC : Chg w (w2.setCell ⟨b, 1, none⟩ (.slice ro k rc)) (fun q => q = b) := (Chg.of_grown hG2 _).trans hS
  have i1 : (0 : Int) ≤ (k : Int) := by omega
  have i2 : (k : Int) ≤ (rc : Int) := by omega
  have hwr : IntKind.i64.wrap ((l.length : Int) - (k : Int)) = ((l.length - k : Nat) : Int) := by rw [IntWalk.i64_in _ (by omega)]; omega
  clear hma hco hi hr hS hz
  cases ro with
  | none =>
    go_wp2
    go_ret
    exact ⟨rfl, hX, hC⟩
  | some a =>
    go_wp2
    go_ret
    exact ⟨rfl, hX, hC⟩
end
end Go.Proofs.YtbnoemfhcpjdjaaDoor
