/-
  Fates: their row copied; Feed and New.
-/
import Derived.Test.YthkbakaodbceiaaH5
namespace Go.Proofs.Ythkbakaodbceiaa
open Go.RowKit
set_option linter.unusedVariables false

/-- The cells of fates. -/
def fcs (l : List (Int × Int)) : List Value := l.flatMap fun x => [.int .i64 x.1, .int .i64 x.2]
theorem fcs_len (l : List (Int × Int)) : (fcs l).length = l.length * 2 := by
  induction l with
  | nil => rfl
  | cons x l ih => simp [fcs] at ih ⊢; omega
theorem fcs_get : ∀ (l : List (Int × Int)) (j : Nat), (fcs l)[j * 2]? = l[j]?.map (fun x => .int .i64 x.1) ∧ (fcs l)[j * 2 + 1]? = l[j]?.map (fun x => .int .i64 x.2)
  | [], j => by simp [fcs]
  | x :: l, 0 => by simp [fcs]
  | x :: l, j + 1 => by
    have := fcs_get l j
    have e1 : (j + 1) * 2 = j * 2 + 1 + 1 := by omega
    have e2 : (j + 1) * 2 + 1 = j * 2 + 1 + 1 + 1 := by omega
    simp only [fcs, List.flatMap_cons, List.cons_append, List.nil_append, e1, List.getElem?_cons_succ] at this ⊢
    exact this
theorem fcs_one (l : List (Int × Int)) : ∀ u ∈ fcs l, u.oneCell' = true := by
  intro u hu
  simp only [fcs, List.mem_flatMap] at hu
  obtain ⟨x, _, hx⟩ := hu
  simp at hx
  rcases hx with rfl | rfl <;> rfl

theorem info28 : (Try.prog.info? 28).map (fun i => (i.zero, i.size, i.bytes)) = some (some (.agg #[.int .i64 0, .int .i64 0]), 2, 16) := by kernel_rfl
theorem info28_parts : ∃ i, Try.prog.info? 28 = some i ∧ i.zero = some (.agg #[.int .i64 0, .int .i64 0]) ∧ i.size = 2 ∧ i.bytes = 16 := by
  have h := info28
  cases hi : Try.prog.info? 28 with
  | none => rw [hi] at h; cases h
  | some i => rw [hi] at h; simp at h; exact ⟨i, rfl, h.1, h.2.1, h.2.2⟩

theorem addr_plus (b i j : Nat) : (⟨b, i, none⟩ : Addr).add j = ⟨b, i + j, none⟩ := by
  unfold Addr.add
  split <;> simp_all

section
variable {w w' : World} {l : List (Int × Int)} {n c : Nat} {o : Option Addr}

theorem Ft.news {b i : Nat} (h : Ft w (some ⟨b, i, none⟩) n c l) : ∀ j u, (fcs l)[j]? = some u → w.cell? ((⟨b, i, none⟩ : Addr).add j) = some u := by
  intro j u hu
  have hj : j < l.length * 2 := by rw [← fcs_len]; exact (List.getElem?_eq_some_iff.1 hu).1
  obtain ⟨q, hq⟩ : ∃ q, j / 2 = q := ⟨_, rfl⟩
  have hql : q < l.length := by omega
  obtain ⟨k0, k1⟩ := h.k b i rfl q l[q] (by simp [hql])
  obtain ⟨g0, g1⟩ := fcs_get l q
  rw [List.getElem?_eq_getElem hql] at g0 g1
  rcases Nat.mod_two_eq_zero_or_one j with e | e
  · obtain rfl : j = q * 2 := by omega
    rw [g0] at hu
    simp at hu
    subst hu
    rw [addr_plus]
    exact k0
  · obtain rfl : j = q * 2 + 1 := by omega
    rw [g1] at hu
    simp at hu
    subst hu
    rw [addr_plus, ← Nat.add_assoc]
    exact k1

theorem Ft.of_row {base : Nat} {v : Value} (hl : l.length = n) (h : w.ownsRow base 28 2 v n (fcs l)) : ∃ o c, v = .slice o n c ∧ Ft w o n c l ∧ ∀ a, o = some a → base ≤ a.block ∧ Ty w a.block 28 := by
  rcases h.2 with ⟨rfl, rfl⟩ | ⟨g, cap, cur, rfl, hb, hg, h1, h2, h3, h4⟩
  · exact ⟨none, 0, rfl, ⟨hl, Nat.le_refl _, Nat.zero_le _, (fun a e => by cases e), (fun _ => rfl), (fun b i e => by cases e)⟩, (fun a e => by cases e)⟩
  · refine ⟨_, cap, rfl, ⟨hl, h1, h2, fun a e => by cases e; exact ⟨_, _, rfl⟩, (fun e => by cases e), fun b i e j x hx => ?_⟩, fun a e => by cases e; exact ⟨hb, _, _, hg⟩⟩
    cases e
    have hj : j < l.length := (List.getElem?_eq_some_iff.1 hx).1
    obtain ⟨g0, g1⟩ := fcs_get l j
    rw [hx] at g0 g1
    rw [← h4] at g0 g1
    rw [List.getElem?_take, if_pos (by omega)] at g0 g1
    refine ⟨?_, ?_⟩
    · rw [cell_at hg]
      simpa using g0
    · rw [cell_at hg]
      simpa using g1

set_option maxRecDepth 100000 in
theorem fclone_any (h : Ft w o n c l) (hsz : n ≤ 4294967296) : Calls Try.prog 45 #[.slice o n c] w fun e w' => ∃ o' c', e = .returned (.slice o' n c') ∧ Ft w' o' n c' l ∧ (∀ a, o' = some a → w.heap.size ≤ a.block ∧ Ty w' a.block 28) ∧ w.grownBy w' none := by
  have q22 : ∀ (w : World) (a : Option Addr) (n c n' c' : Nat), (binOp .eql 22 (.slice a n c) (.slice none n' c')).run Try.prog w = .ok (.bool a.isNone) w := fun w a n c n' c' => Lib.run_eql_slice_nil w _ _ a n c n' c' Try.underlying22
  cases o with
  | none =>
    obtain rfl := h.nil rfl
    obtain rfl : n = 0 := Nat.le_zero.1 h.room
    go_enter Try.func45, Try.ntmps45
    go_wp2
    go_ret
    exact ⟨none, 0, rfl, h, fun a e => (by cases e), grown_refl _ _⟩
  | some a =>
    obtain ⟨b, i, rfl⟩ := h.pl a rfl
    obtain ⟨inf, hi, hz, hz1, hz2⟩ := info28_parts
    have hg0 := alloc_grown w (.cells #[] 28)
    have hr0 : (w.alloc (.cells #[] 28)).ownsRow w.heap.size 28 2 (.slice (some ⟨w.heap.size, 0, none⟩) 0 0) 0 [] := ⟨rfl, .inr ⟨_, 0, #[], rfl, Nat.le_refl _, World.alloc_heap_new w _, Nat.le_refl _, Nat.zero_le _, rfl, rfl⟩⟩
    have h2 := h.chg (Chg.of_grown hg0 (fun _ => False)) (fun _ _ e => e)
    have hlen := h.len
    have hls : (fcs l).length = n * 2 := by rw [fcs_len, hlen]
    go_enter Try.func45, Try.ntmps45
    go_wp2_with (at_builtin; (refine wpList_append_own _ rfl _ _ 22 rfl w.heap.size 28 inf (.agg #[.int .i64 0, .int .i64 0]) 2 16 Try.underlying22 hi hz hz1 hz2 rfl (by decide) _ 0 [] rfl hr0 ⟨b, i, none⟩ n c (fcs l) rfl hls h2.news (fcs_one l) (by unfold maxLen; omega) (by omega) (by simp) ?_))
    intro v' w2 hown hg2 _
    obtain ⟨o', c', rfl, hft, hab⟩ := Ft.of_row hlen hown
    have hG := grown_trans hg0 hg2 (fun k hk => Or.inr (by simp [Value.ownBlock] at hk; omega))
    clear hg0 hg2 hown hr0 h2
    go_wp2
    go_ret
    exact ⟨o', c', rfl, hft, hab, hG⟩
end
end Go.Proofs.Ythkbakaodbceiaa
