/-
  RecordChanged: the walk.
-/
import Derived.Test.YtlfgikhjcimppaaG2
import Derived.Test.YtlfgikhjcimppaaE8
namespace Go.Proofs.Ytlfgikhjcimppaa
open Go.RowKit
set_option linter.unusedVariables false

theorem xor_ne (a b : UInt8) (h : b ≠ 0) : a ^^^ b ≠ a := fun e => h (by
  have h1 : a ^^^ (a ^^^ b) = a ^^^ a := by rw [e]
  rw [← UInt8.xor_assoc, UInt8.xor_self, UInt8.zero_xor] at h1
  exact h1)

theorem set_ne {l : List UInt8} {k : Nat} (hk : k < l.length) (b : UInt8) (h : b ≠ 0) : l.set k (l[k] ^^^ b) ≠ l := fun e => by
  have h1 : (l.set k (l[k] ^^^ b))[k]'(by simp; omega) = l[k] := by simp only [e]
  rw [List.getElem_set_self] at h1
  exact xor_ne _ _ h h1

/-- Read of bytes: a whole batch, or none. -/
theorem read_any (w : World) (ao : Option Addr) (n cap i : Nat) (L : List UInt8) (h : Bp w ao n cap L) (hi : i ≤ n) :
    Calls Try.prog 27 #[.slice ao n cap, .int .i64 i] w fun e w' => w.grownBy w' none ∧ ((∃ C, NoAt (L.drop i) C ∧ e = .returned (.tuple #[.agg #[.int .i64 0, .slice none 0 0], .int .i64 0, .int .i64 C])) ∨
      (∃ S g base rs, extR (L.drop i) = (S, 0) ∧ Whole ((L.drop i).take S) S ∧ e = .returned (.tuple #[.agg #[.int .i64 (bAt ((L.drop i).take S)), .slice (some ⟨g, 0, none⟩) (cAt ((L.drop i).take S)) (cAt ((L.drop i).take S))], .int .i64 S, .int .i64 0]) ∧ w.heap.size ≤ g ∧ g < base ∧ Rw w' g (some ⟨g, 0, none⟩) (cAt ((L.drop i).take S)) (cAt ((L.drop i).take S)) rs ∧ (∀ j d, (ds rs)[j]? = some d → Says ((L.drop i).take S) (posAt ((L.drop i).take S) j) d) ∧ (∀ r ∈ rs, Own w' base r))) := by
  by_cases h0 : (extR (L.drop i)).2 = 0
  · have hE : extR (L.drop i) = ((extR (L.drop i)).1, 0) := by rw [← h0]
    obtain ⟨s1, s2, s3, _⟩ := extR_ok hE
    have hl := h.bs.len
    rw [List.length_drop, hl] at s3
    by_cases hW : Whole ((L.drop i).take (extR (L.drop i)).1) (extR (L.drop i)).1
    · obtain ⟨b, o, rfl, _⟩ := h.bs.addr (by omega)
      refine (read_yes w b o n cap i _ L h.bs hi h.top h.cap hE (by omega) hW).mono ?_
      rintro e w' ⟨g, base, rs, rfl, r1, r2, r3, r4, r5, r6⟩
      exact ⟨r6, Or.inr ⟨_, g, base, rs, hE, hW, rfl, r1, r2, r3, r4, r5⟩⟩
    · have hN : NoAt (L.drop i) 152 := ⟨by omega, Or.inr ⟨h0, rfl, hW⟩⟩
      refine (read_no w ao n cap i L 152 h hi hN).mono ?_
      rintro e w' ⟨rfl, hg⟩
      exact ⟨hg, Or.inl ⟨_, hN, rfl⟩⟩
  · have hN : NoAt (L.drop i) (extR (L.drop i)).2 := ⟨h0, Or.inl rfl⟩
    refine (read_no w ao n cap i L _ h hi hN).mono ?_
    rintro e w' ⟨rfl, hg⟩
    exact ⟨hg, Or.inl ⟨_, hN, rfl⟩⟩

theorem rk_good {w : World} {l : List Rc} (h : ∀ r ∈ l, Rk w r) : ∀ r ∈ l, r.k.length = r.kn ∧ r.v.length = r.vn := fun r hr => ⟨(h r hr).key.len, (h r hr).value.len⟩

/-- A batch's bytes that were changed are not read as that batch. -/
theorem changed_not {w w' : World} {base : Int} {l rs : List Rc} {M : List UInt8} {S : Nat} (hl : ∀ r ∈ l, Rk w r) (hr : ∀ r ∈ rs, Rk w' r) (hM : M ≠ batB base l) (hE : extR M = (S, 0)) (hW : Whole (M.take S) S) (hrl : rs.length = cAt (M.take S))
    (hs : ∀ j d, (ds rs)[j]? = some d → Says (M.take S) (posAt (M.take S) j) d) (hS : S = M.length) (hb : bAt (M.take S) = base) (hd : ds rs = ds l) : False := by
  obtain ⟨_, _, _, s4⟩ := extR_ok hE
  have ht : M.take S = M := List.take_of_length_le (by omega)
  rw [ht] at hW hrl hs hb
  subst hS
  have hc := canon hW s4 hrl (fun j r hjr => by
    have hm := List.mem_of_getElem? hjr
    refine ⟨(hr r hm).key.len, (hr r hm).value.len, hs j r.d ?_⟩
    unfold ds
    rw [List.getElem?_map, hjr]
    rfl)
  rw [hb, five_bat (five_eq hr hl hd)] at hc
  exact hM hc.symm

theorem tmod_neg (a : Int) (n : Nat) (hn : 0 < n) : ∃ k : Nat, k < n ∧ ((a.tmod n = k) ∨ (a.tmod n < 0 ∧ -(a.tmod n) = k)) := by
  have h1 := Int.tmod_lt_of_pos a (b := (n : Int)) (by omega)
  have h2 : -(n : Int) < a.tmod n := by
    have := Int.lt_tmod_of_pos a (b := (n : Int)) (by omega)
    exact this
  by_cases h : 0 ≤ a.tmod n
  · exact ⟨(a.tmod n).toNat, by omega, Or.inl (by omega)⟩
  · exact ⟨(-(a.tmod n)).toNat, by omega, Or.inr ⟨by omega, by omega⟩⟩
end Go.Proofs.Ytlfgikhjcimppaa
