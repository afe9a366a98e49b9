/-
  Count, Plan, Together, Offsets, spoil: each in one contract.
-/
import Derived.Test.YtkcgpjmjaedlbaaM8
namespace Go.Proofs.Ytkcgpjmjaedlbaa
open Go.RowKit
set_option linter.unusedVariables false

/-- What Count says. -/
def CntF (take : Int) (L : List Rl) (cn : Nat) (ce : Int) : Prop := (refR take L ≠ 0 ∧ cn = 0 ∧ ce = refR take L) ∨ (refR take L = 0 ∧ ce = 0 ∧ Tk take L cn)
theorem count_all (w : World) (take : Int) (ao : Option Addr) (n cap : Nat) (L : List Rl) (ha : Ls w ao n cap L) (hs : ∀ x ∈ L, x.n ≤ 4096) (hn4 : n ≤ 4096) :
    Calls Try.prog 11 #[.int .i64 take, .slice ao n cap] w fun e w' => (∃ (cn : Nat) (ce : Int), e = .returned (.tuple #[.int .i64 cn, .int .i64 ce]) ∧ CntF take L cn ce) ∧ w.grownBy w' none := by
  by_cases h : refR take L = 0
  · refine (count_ok w take ao n cap L ha hs hn4 h).mono ?_
    rintro e w' ⟨⟨k, rfl, hk⟩, hg⟩
    exact ⟨⟨k, 0, rfl, Or.inr ⟨h, rfl, hk⟩⟩, hg⟩
  · refine (count_no w take ao n cap L ha hs hn4 h).mono ?_
    rintro e w' ⟨rfl, hg⟩
    exact ⟨⟨0, _, rfl, Or.inl ⟨h, rfl, rfl⟩⟩, hg⟩

/-- What Plan says. -/
def PlnF (w' : World) (take : Int) (L : List Rl) (po : Option Addr) (pn pc : Nat) (pe : Int) : Prop := (refR take L ≠ 0 ∧ pn = 0 ∧ pe = refR take L) ∨ (refR take L = 0 ∧ pe = 0 ∧ ∃ ps : List Nat, ps.length = pn ∧ Pn take L ps ∧ Vs w' po pn pc (ps.map iv))
theorem PlnF.grown {w w' : World} {take : Int} {L : List Rl} {po : Option Addr} {pn pc : Nat} {pe : Int} (h : PlnF w take L po pn pc pe) (hg : w.grownBy w' none) : PlnF w' take L po pn pc pe := by
  rcases h with h | ⟨h1, h2, ps, h3, h4, h5⟩
  · exact Or.inl h
  · exact Or.inr ⟨h1, h2, ps, h3, h4, h5.grown hg⟩
theorem plan_all (w : World) (take : Int) (ao : Option Addr) (n cap : Nat) (L : List Rl) (ha : Ls w ao n cap L) (hs : ∀ x ∈ L, x.n ≤ 4096) (hn4 : n ≤ 4096) :
    Calls Try.prog 12 #[.int .i64 take, .slice ao n cap] w fun e w' => (∃ po pn pc pe, e = .returned (.tuple #[.slice po pn pc, .int .i64 pe]) ∧ PlnF w' take L po pn pc pe) ∧ w.grownBy w' none := by
  by_cases h : refR take L = 0
  · refine (plan_ok w take ao n cap L ha hs hn4 h).mono ?_
    rintro e w' ⟨⟨ps, po, pc, rfl, hp, hv⟩, hg⟩
    exact ⟨⟨po, _, pc, 0, rfl, Or.inr ⟨h, rfl, ps, rfl, hp, hv.shows⟩⟩, hg⟩
  · refine (plan_no w take ao n cap L ha hs hn4 h).mono ?_
    rintro e w' ⟨rfl, hg⟩
    exact ⟨⟨none, 0, 0, _, rfl, Or.inl ⟨h, rfl, rfl⟩⟩, hg⟩

/-- What Together says: an error and nothing, or the records in new memory. -/
def TogF (B H : Nat) (w' : World) (L : List Rl) (to : Option Addr) (tn tc : Nat) (te : Int) : Prop :=
  (lref L ≠ 0 ∧ tn = 0 ∧ te = lref L) ∨ (lref L = 0 ∧ ¬ Fit L ∧ tn = 0 ∧ te = 8) ∨
  (lref L = 0 ∧ Fit L ∧ te = 0 ∧ ∃ g rs, to = some ⟨g, 0, none⟩ ∧ tn = (flat L).length ∧ B ≤ g ∧ Rw w' g (some ⟨g, 0, none⟩) tn tc rs ∧ ds rs = ds (flat L) ∧ (∀ r ∈ rs, Own w' (g + 1) r) ∧ g < H ∧ ∀ r ∈ rs, (∀ a, r.ko = some a → a.block < H) ∧ ∀ a, r.vo = some a → a.block < H)
theorem TogF.grown {B H : Nat} {w w' : World} {L : List Rl} {to : Option Addr} {tn tc : Nat} {te : Int} (h : TogF B H w L to tn tc te) (hg : w.grownBy w' none) : TogF B H w' L to tn tc te := by
  rcases h with h | h | ⟨h1, h2, h3, g, rs, h4, h5, h6, h7, h8, h9, h10⟩
  · exact Or.inl h
  · exact Or.inr (Or.inl h)
  · exact Or.inr (Or.inr ⟨h1, h2, h3, g, rs, h4, h5, h6, h7.kept hg (by right; simp [blk]), h8, fun r hr => (h9 r hr).kept hg (fun _ _ => by simp), h10⟩)
theorem tog_all (w : World) (ao : Option Addr) (n cap : Nat) (L : List Rl) (ha : Ls w ao n cap L) (hs : ∀ x ∈ L, x.n ≤ 4096) (hn4 : n ≤ 4096) :
    Calls Try.prog 13 #[.slice ao n cap] w fun e w' => (∃ to tn tc te, e = .returned (.tuple #[.slice to tn tc, .int .i64 te]) ∧ TogF w.heap.size w'.heap.size w' L to tn tc te) ∧ w.grownBy w' none := by
  by_cases h : lref L = 0
  · refine (together_ok w ao n cap L ha hs hn4 h).mono ?_
    rintro e w' ⟨⟨hf, rfl⟩ | ⟨hf, g, rs, rfl, h1, h2, h3, h4⟩, hg⟩
    · exact ⟨⟨none, 0, 0, 8, rfl, Or.inr (Or.inl ⟨h, hf, rfl, rfl⟩)⟩, hg⟩
    · exact ⟨⟨_, _, _, 0, rfl, Or.inr (Or.inr ⟨h, hf, rfl, g, rs, rfl, rfl, h1, h2, h3, h4, (h2.from_base g rfl).2, fun r hr => ⟨fun a ha => ((h4 r hr).kin a ha).2, fun a ha => ((h4 r hr).vin a ha).2⟩⟩)⟩, hg⟩
  · refine (together_no w ao n cap L ha hs hn4 h).mono ?_
    rintro e w' ⟨rfl, hg⟩
    exact ⟨⟨none, 0, 0, _, rfl, Or.inl ⟨h, rfl, rfl⟩⟩, hg⟩

/-- What Offsets says. -/
def OffF (B : Nat) (w' : World) (base : Int) (L : List Rl) (n : Nat) (oo : Option Addr) (on oc : Nat) (oe er : Int) : Prop :=
  ((base < 0 ∨ 9007199254740992 < base) ∧ on = 0 ∧ oe = 0 ∧ er = 2) ∨
  (0 ≤ base ∧ base ≤ 9007199254740992 ∧ lref L ≠ 0 ∧ on = 0 ∧ oe = 0 ∧ er = lref L) ∨
  (0 ≤ base ∧ base ≤ 9007199254740992 ∧ lref L = 0 ∧ 9007199254740993 < base + ((flat L).length : Nat) ∧ on = 0 ∧ oe = 0 ∧ er = 8) ∨
  (0 ≤ base ∧ base ≤ 9007199254740992 ∧ lref L = 0 ∧ base + ((flat L).length : Nat) ≤ 9007199254740993 ∧ on = n ∧ oe = base + ((flat L).length : Nat) ∧ er = 0 ∧ Vs w' oo on oc (offL base L n) ∧ ∀ a, oo = some a → B ≤ a.block)
theorem OffF.chg {B : Nat} {S : Nat → Prop} {w w' : World} {base : Int} {L : List Rl} {n : Nat} {oo : Option Addr} {on oc : Nat} {oe er : Int} (h : OffF B w base L n oo on oc oe er) (hc : Chg w w' S) (hS : ∀ k, S k → k < B) : OffF B w' base L n oo on oc oe er := by
  rcases h with h | h | h | ⟨h1, h2, h3, h4, h5, h6, h7, h8, h9⟩
  · exact Or.inl h
  · exact Or.inr (Or.inl h)
  · exact Or.inr (Or.inr (Or.inl h))
  · exact Or.inr (Or.inr (Or.inr ⟨h1, h2, h3, h4, h5, h6, h7, h8.chg hc (fun a ha hs => by have := h9 a ha; have := hS _ hs; omega), h9⟩))
theorem OffF.grown {B : Nat} {w w' : World} {base : Int} {L : List Rl} {n : Nat} {oo : Option Addr} {on oc : Nat} {oe er : Int} (h : OffF B w base L n oo on oc oe er) (hg : w.grownBy w' none) : OffF B w' base L n oo on oc oe er := h.chg (Chg.of_grown hg (fun _ => False)) (fun _ h => h.elim)
theorem offL_one (base : Int) (L : List Rl) (n : Nat) : ∀ u ∈ offL base L n, u.oneCell' = true := by
  intro u hu
  unfold offL at hu
  obtain ⟨i, _, rfl⟩ := List.mem_map.1 hu
  rfl
theorem off_all (w : World) (base : Int) (ao : Option Addr) (n cap : Nat) (L : List Rl) (ha : Ls w ao n cap L) (hs : ∀ x ∈ L, x.n ≤ 4096) (hn4 : n ≤ 1000) :
    Calls Try.prog 14 #[.int .i64 base, .slice ao n cap] w fun e w' => (∃ oo on oc oe er, e = .returned (.tuple #[.slice oo on oc, .int .i64 oe, .int .i64 er]) ∧ OffF w.heap.size w' base L n oo on oc oe er) ∧ w.grownBy w' none := by
  by_cases hb : base < 0 ∨ 9007199254740992 < base
  · refine (offsets_arg w base ao n cap hb).mono ?_
    rintro e w' ⟨rfl, hw⟩
    subst hw
    exact ⟨⟨none, 0, 0, 0, 2, rfl, Or.inl ⟨hb, rfl, rfl, rfl⟩⟩, grown_refl _ _⟩
  · have h0 : 0 ≤ base := by omega
    have h1 : base ≤ 9007199254740992 := by omega
    by_cases h : lref L = 0
    · refine (offsets_ok w base ao n cap L ha hs hn4 h0 h1 h).mono ?_
      rintro e w' ⟨⟨hl, rfl⟩ | ⟨hl, g, rfl, hg0, hro⟩, hg⟩
      · exact ⟨⟨none, 0, 0, 0, 8, rfl, Or.inr (Or.inr (Or.inl ⟨h0, h1, h, hl, rfl, rfl, rfl⟩))⟩, hg⟩
      · have hv := hro.shows (offL_one _ _ _) (by rw [offL_len]; unfold maxLen; omega)
        rw [offL_len] at hv
        exact ⟨⟨_, n, n, _, 0, rfl, Or.inr (Or.inr (Or.inr ⟨h0, h1, h, hl, rfl, rfl, rfl, hv, fun a ha => by cases ha; exact hg0⟩))⟩, hg⟩
    · refine (offsets_no w base ao n cap L ha hs (by omega) h0 h1 h).mono ?_
      rintro e w' ⟨rfl, hg⟩
      exact ⟨⟨none, 0, 0, 0, _, rfl, Or.inr (Or.inl ⟨h0, h1, h, rfl, rfl, rfl⟩)⟩, hg⟩

theorem chg_from {B H : Nat} {v W W' : World} (h : v.grownBy W none) (hB : Chg W W' (fun k => B ≤ k ∧ k < H)) (hv : v.heap.size ≤ B) : v.grownBy W' none :=
  ⟨hB.os.trans h.os, hB.tape.trans h.tape, hB.output.trans h.output, Nat.le_trans h.size hB.size, fun k hk _ => (hB.block k (Nat.lt_of_lt_of_le hk h.size) (by omega)).trans (h.block k hk (by simp))⟩
theorem spoil_all (W : World) (B H : Nat) (L : List Rl) (to : Option Addr) (tn tc : Nat) (te : Int) (h : TogF B H W L to tn tc te) :
    Calls Try.prog 21 #[.slice to tn tc] W fun e w' => e = .returned (.bool true) ∧ Chg W w' (fun k => B ≤ k ∧ k < H) := by
  have hnil : tn = 0 → Calls Try.prog 21 #[.slice to tn tc] W fun e w' => e = .returned (.bool true) ∧ Chg W w' (fun k => B ≤ k ∧ k < H) := fun e => by
    subst e
    refine (spoil_nil W to tc).mono ?_
    rintro e w' ⟨rfl, hw⟩
    subst hw
    exact ⟨rfl, Chg.refl _ _⟩
  rcases h with ⟨_, h, _⟩ | ⟨_, _, h, _⟩ | ⟨h1, h2, h3, g, rs, h4, h5, h6, h7, h8, h9, h10, h11⟩
  · exact hnil h
  · exact hnil h
  · subst h4
    refine (spoil_any W g H tn tc rs (h7.sp h9 h10 h11) (by rw [h5]; have := h2.1; omega) (fun r hr => ⟨(h9 r hr).rk.kb, (h9 r hr).rk.vb⟩)).mono ?_
    rintro e w' ⟨rfl, hb⟩
    exact ⟨rfl, hb.mono fun k _ hk => ⟨by omega, hk.2⟩⟩
end Go.Proofs.Ytkcgpjmjaedlbaa
