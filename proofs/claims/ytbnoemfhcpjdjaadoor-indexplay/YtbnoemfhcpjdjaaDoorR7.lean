/-
  The document's index: each call by one contract.
-/
import Derived.Test.YtbnoemfhcpjdjaaDoorR6
namespace Go.Proofs.YtbnoemfhcpjdjaaDoor
open Go.RowKit
set_option linter.unusedVariables false

/-- The document's index that is there. -/
def Ry (w : World) (base b : Nat) (st : Int) (l : List Sd) : Prop := ∃ ro rc, Rx w b st ro l.length rc ∧ Sw w base ro l.length rc l
theorem Ry.grown {w w' : World} {base b : Nat} {st : Int} {l : List Sd} (h : Ry w base b st l) (hg : w.grownBy w' none) : Ry w' base b st l := by
  obtain ⟨ro, rc, h1, h2⟩ := h
  exact ⟨ro, rc, h1.grown hg, h2.chg (Chg.of_grown hg (fun _ => False)) (fun _ _ e => e)⟩
theorem Rz.ry {w0 w : World} {base b : Nat} {st : Int} {l : List Sd} (h : Rz w0 w b st l) (hb : base ≤ w0.heap.size) : Ry w base b st l := by
  obtain ⟨ro, rc, h1, h2⟩ := h
  exact ⟨ro, rc, h1, h2.rebase hb⟩

theorem radd_any {w : World} {base b st : Nat} {l : List Sd} (h : Ry w base b st l) (hbase : base ≤ w.heap.size) (hgood : Good l) (hl : l.length ≤ 80000) (s : Sd) :
    Calls Tryd.prog 11 #[.pointer (some ⟨b, 0, none⟩), s.val] w fun e w' => e = .returned (.tuple #[.bool (addR st l s).1, .int .i64 (addR st l s).2.1]) ∧ Ry w' base b st (addR st l s).2.2 ∧ Chg w w' (fun k => k = b) := by
  obtain ⟨ro, rc, hx, hs⟩ := h
  obtain ⟨o, p⟩ := s
  have hy : Ry w base b st l := ⟨ro, rc, hx, hs⟩
  unfold addR Sd.val
  simp only
  by_cases hoff : o < 0 ∨ 9007199254740992 < o ∨ p < 0 ∨ 16777216 < p
  · have hb : badB l ⟨o, p⟩ = true := by
      rcases List.eq_nil_or_concat l with rfl | ⟨k, ⟨x, y⟩, rfl⟩
      · exact (bad_nil o p).2 hoff
      · rw [List.concat_eq_append] at hgood ⊢
        exact (bad_snoc k x y o p hgood).2 (Or.inl hoff)
    rw [if_pos hb]
    exact (radd_off hx o p hoff).mono fun e w' q => ⟨q.1, hy.grown q.2, Chg.of_grown q.2 _⟩
  · have g1 : 0 ≤ o := by omega
    have g2 : o ≤ 9007199254740992 := by omega
    have g3 : 0 ≤ p := by omega
    have g4 : p ≤ 16777216 := by omega
    rcases List.eq_nil_or_concat l with rfl | ⟨k, ⟨x, y⟩, rfl⟩
    · have hb : ¬ badB [] ⟨o, p⟩ = true := fun e => hoff ((bad_nil o p).1 e)
      rw [if_neg hb, near_nil, if_neg (by simp)]
      exact (radd_put0 hx hs o p g1 g2 g3 g4).mono fun e w' q => ⟨q.1, q.2.1.ry hbase, q.2.2⟩
    · rw [List.concat_eq_append] at *
      have hk : k.length ≤ 80000 := by simp at hl; omega
      have hy0 := (hgood ⟨x, y⟩ (by simp)).2.2.1
      simp only at hy0
      by_cases hnot : o ≤ x ∨ p ≤ y
      · rw [if_pos ((bad_snoc k x y o p hgood).2 (Or.inr hnot))]
        exact (radd_not hx hs hk o p g1 g2 g3 g4 hnot).mono fun e w' q => ⟨q.1, hy.grown q.2, Chg.of_grown q.2 _⟩
      · rw [if_neg (fun e => by
          rcases (bad_snoc k x y o p hgood).1 e with e | e
          · exact hoff e
          · exact hnot e)]
        by_cases hn : p - y < st
        · rw [if_pos ((near_snoc k st x y o p hgood).2 hn)]
          exact (radd_near hx hs hk o p g1 g2 g3 g4 hy0 (fun e => hnot (Or.inl e)) (fun e => hnot (Or.inr e)) hn).mono fun e w' q => ⟨q.1, hy.grown q.2, Chg.of_grown q.2 _⟩
        · rw [if_neg (fun e => hn ((near_snoc k st x y o p hgood).1 e))]
          exact (radd_put hx hs hk o p g1 g2 g3 g4 hy0 (fun e => hnot (Or.inl e)) (fun e => hnot (Or.inr e)) hn).mono fun e w' q => ⟨q.1, q.2.1.ry hbase, q.2.2⟩
theorem rfind_ry {w : World} {base b st : Nat} {l : List Sd} (h : Ry w base b st l) (hsrt : Srt l) (hl : l.length ≤ 80000) (n : Int) (hb : n < 9223372036854775808) :
    Calls Tryd.prog 13 #[.pointer (some ⟨b, 0, none⟩), .int .i64 n] w fun e w' => e = .returned (.tuple #[(findR n l).1.val, .bool (findR n l).2]) ∧ w.grownBy w' none := by
  obtain ⟨ro, rc, hx, hs⟩ := h
  exact rfind_any hx hs hsrt hl n hb
theorem rat_ry {w : World} {base b st : Nat} {l : List Sd} (h : Ry w base b st l) (hsrt : Srt l) (hl : l.length ≤ 80000) (n : Int) (hb : n < 9223372036854775808) :
    Calls Tryd.prog 15 #[.pointer (some ⟨b, 0, none⟩), .int .i64 n] w fun e w' => e = .returned (.tuple #[(atR n l).1.val, .bool (atR n l).2]) ∧ w.grownBy w' none := by
  obtain ⟨ro, rc, hx, hs⟩ := h
  exact rat_any hx hs hsrt hl n hb
theorem rcut_ry {w : World} {base b st : Nat} {l : List Sd} (h : Ry w base b st l) (hbase : base ≤ w.heap.size) (hsrt : Srt l) (hl : l.length ≤ 80000) (n : Int) :
    Calls Tryd.prog 17 #[.pointer (some ⟨b, 0, none⟩), .int .i64 n] w fun e w' => e = .returned (.int .i64 ((l.length - cutR n l : Nat) : Int)) ∧ Ry w' base b st (l.take (cutR n l)) ∧ Chg w w' (fun k => k = b) := by
  obtain ⟨ro, rc, hx, hs⟩ := h
  refine (rcut_any hx hs hsrt hl n).mono ?_
  rintro e w' ⟨h1, ⟨ro', rc', h2, h3⟩, h4⟩
  exact ⟨h1, ⟨ro', rc', h2, h3.rebase hbase⟩, h4⟩
theorem rbytes_ry {w : World} {base b st : Nat} {l : List Sd} (h : Ry w base b st l) (h2 : st ≤ 16777216) (hgood : Good l) (hl : l.length ≤ 80000) :
    Calls Tryd.prog 35 #[.pointer (some ⟨b, 0, none⟩)] w fun e w' => ∃ bo bc, e = .returned (.slice bo (iby st l).length bc) ∧ Ow w' w.heap.size 5 bo (iby st l).length bc (iby st l) ∧ w.grownBy w' none := by
  obtain ⟨ro, rc, hx, hs⟩ := h
  exact rbytes_any hx hs h2 hgood hl
end Go.Proofs.YtbnoemfhcpjdjaaDoor
