/-
  Jumps to three labels; an odd number and a power read: the walk.
-/
import Derived.Test.YtmjcjcpifahpaaaDoorH1
import Derived.ScopeJumps
import Derived.WalkMore
namespace Go.Proofs.YtmjcjcpifahpaaaDoor
open Go.RowKit Go.Shelf Go.Sort Go.Lib
set_option linter.unusedVariables false

/-- As Q; by a goto to label l: J l. -/
def jumps (J : Nat → Act → World → Prop) (Q : Exit → Act → World → Prop) : Exit → Act → World → Prop
  | .goto l, a, w => J l a w
  | e, a, w => Q e a w

section
variable {P : Program} {a : Act} {w : World} {Q : Exit → Act → World → Prop}
theorem wp_scope_any {c : Code} (J : Nat → Act → World → Prop) (μ : Nat → Act → World → Nat) (hf : ∀ l a w, J l a w → ∃ r, findLabel c l = some r)
    (first : c.wp P (jumps J Q) a w)
    (pass : ∀ l r, findLabel c l = some r → ∀ a w, J l a w → r.wp P (jumps (fun l' a' w' => J l' a' w' ∧ μ l' a' w' < μ l a w) Q) a w) : (Code.scope c).wp P Q a w := by
  intro b k cs
  have key : ∀ n l r a w, μ l a w = n → findLabel c l = some r → J l a w → ∃ e a' w', Q e a' w' ∧ Arrives P (lone (b.at a (.code r :: .inScope c :: k)) cs w) b k cs e a' w' := by
    intro n
    induction n using Nat.strongRecOn with
    | _ n ih =>
      intro l r a w hn hr hJ
      obtain ⟨e, a₁, w₁, hq, harr⟩ := pass l r hr a w hJ b (.inScope c :: k) cs
      cases e with
      | normal => exact ⟨.normal, a₁, w₁, hq, Steps.trans harr (.one step_inScope)⟩
      | exit id => exact ⟨.exit id, a₁, w₁, hq, fun k' hk => harr k' (by simp [exitTo, hk])⟩
      | goto l' =>
        obtain ⟨hJ', hlt⟩ := hq
        obtain ⟨r', hr'⟩ := hf l' a₁ w₁ hJ'
        have hg : gotoIn l' (.inScope c :: k) = some (.code r' :: .inScope c :: k) := by simp [gotoIn, hr']
        obtain ⟨e₂, a₂, w₂, hq₂, harr₂⟩ := ih _ (by omega) l' r' a₁ w₁ rfl hr' hJ'
        exact ⟨e₂, a₂, w₂, hq₂, .of_steps (harr _ hg) harr₂⟩
      | ret => exact ⟨_, a₁, w₁, hq, harr⟩
      | panic ch => exact ⟨_, a₁, w₁, hq, harr⟩
      | outgrown => exact ⟨_, a₁, w₁, hq, harr⟩
  obtain ⟨e, a₁, w₁, hq, harr⟩ := first b (.inScope c :: k) cs
  cases e with
  | normal => exact ⟨.normal, a₁, w₁, hq, .head step_scope (Steps.trans harr (.one step_inScope))⟩
  | exit id => exact ⟨.exit id, a₁, w₁, hq, fun k' hk => .head step_scope (harr k' (by simp [exitTo, hk]))⟩
  | goto l' =>
    have hJ' : J l' a₁ w₁ := hq
    obtain ⟨r', hr'⟩ := hf l' a₁ w₁ hJ'
    have hg : gotoIn l' (.inScope c :: k) = some (.code r' :: .inScope c :: k) := by simp [gotoIn, hr']
    obtain ⟨e₂, a₂, w₂, hq₂, harr₂⟩ := key _ l' r' a₁ w₁ rfl hr' hJ'
    exact ⟨e₂, a₂, w₂, hq₂, .of_steps (.head step_scope (harr _ hg)) harr₂⟩
  | ret => exact ⟨_, a₁, w₁, hq, .of_steps (.one step_scope) harr⟩
  | panic ch => exact ⟨_, a₁, w₁, hq, .of_steps (.one step_scope) harr⟩
  | outgrown => exact ⟨_, a₁, w₁, hq, .of_steps (.one step_scope) harr⟩
end

/-- What holds at a jump to each of three labels. -/
def post0 (J0 J1 J2 : Act → World → Prop) : Nat → Act → World → Prop
  | 0, a, w => J0 a w
  | 1, a, w => J1 a w
  | 2, a, w => J2 a w
  | _, _, _ => False
def post1 (J0 J1 J2 : Act → World → Prop) (μ : Act → World → Nat) (n : Nat) : Nat → Act → World → Prop
  | 0, a, w => J0 a w
  | 1, a, w => J1 a w ∧ μ a w < n
  | 2, a, w => J2 a w ∧ μ a w < n
  | _, _, _ => False
def post2 (J0 J2 : Act → World → Prop) (μ : Act → World → Nat) (n : Nat) : Nat → Act → World → Prop
  | 0, a, w => J0 a w
  | 2, a, w => J2 a w ∧ μ a w < n
  | _, _, _ => False
theorem post2_mono {J0 J1 J2 : Act → World → Prop} {μ : Act → World → Nat} {m n : Nat} {Q : Exit → Act → World → Prop} (h : m ≤ n) : ∀ e a w, jumps (post2 J0 J2 μ m) Q e a w → jumps (post1 J0 J1 J2 μ n) Q e a w := by
  intro e a w hq
  cases e with
  | goto l =>
    match l, hq with
    | 0, hq => exact hq
    | 2, hq => exact ⟨hq.1, Nat.lt_of_lt_of_le hq.2 h⟩
  | _ => exact hq
theorem post1_mono {J0 J1 J2 : Act → World → Prop} {μ : Act → World → Nat} {m : Nat} {Q : Exit → Act → World → Prop} : ∀ e a w, jumps (post1 J0 J1 J2 μ m) Q e a w → jumps (post0 J0 J1 J2) Q e a w := by
  intro e a w hq
  cases e with
  | goto l =>
    match l, hq with
    | 0, hq => exact hq
    | 1, hq => exact hq.1
    | 2, hq => exact hq.1
  | _ => exact hq

theorem skip_seq {P : Program} {c : Code} {Q : Exit → Act → World → Prop} {a : Act} {w : World} (h : c.wp P Q a w) : (Code.skip.seq c).wp P Q a w := by
  apply wp_seq_k
  intro K hK
  apply wp_skip
  exact hK _ _ h
/-- Three labels. -/
theorem wp_scope_three {P : Program} {a : Act} {w : World} {Q : Exit → Act → World → Prop} {c r0 r1 r2 : Code} (J0 J1 J2 : Act → World → Prop) (μ : Act → World → Nat)
    (h0 : findLabel c 0 = some (Code.skip.seq r0)) (h1 : findLabel c 1 = some (Code.skip.seq r1)) (h2 : findLabel c 2 = some (Code.skip.seq r2))
    (p0 : ∀ a w, J0 a w → r0.wp P (jumps (fun _ _ _ => False) Q) a w)
    (p2 : ∀ a w, J2 a w → r2.wp P (jumps (post2 J0 J2 μ (μ a w)) Q) a w)
    (p1 : (∀ a w, J2 a w → r2.wp P (jumps (post2 J0 J2 μ (μ a w)) Q) a w) → ∀ a w, J1 a w → r1.wp P (jumps (post1 J0 J1 J2 μ (μ a w)) Q) a w)
    (first : (∀ a w, J1 a w → r1.wp P (jumps (post1 J0 J1 J2 μ (μ a w)) Q) a w) → c.wp P (jumps (post0 J0 J1 J2) Q) a w) : (Code.scope c).wp P Q a w := by
  have P1 := p1 p2
  refine wp_scope_any (post0 J0 J1 J2) (fun l a w => match l with | 0 => 0 | _ => μ a w + 1) ?_ (first P1) ?_
  · intro l a w hJ
    match l, hJ with
    | 0, _ => exact ⟨_, h0⟩
    | 1, _ => exact ⟨_, h1⟩
    | 2, _ => exact ⟨_, h2⟩
  · intro l r hr a w hJ
    match l, hr, hJ with
    | 0, hr, hJ =>
      obtain rfl : Code.skip.seq r0 = r := Option.some.inj (h0.symm.trans hr)
      refine Code.wp_mono (fun e a' w' hq => ?_) (skip_seq (p0 a w hJ))
      cases e <;> first | exact hq | exact hq.elim
    | 1, hr, hJ =>
      obtain rfl : Code.skip.seq r1 = r := Option.some.inj (h1.symm.trans hr)
      refine Code.wp_mono (fun e a' w' hq => ?_) (skip_seq (P1 a w hJ))
      cases e with
      | goto l =>
        match l, hq with
        | 0, hq => exact ⟨hq, Nat.succ_pos _⟩
        | 1, hq => exact ⟨hq.1, Nat.succ_lt_succ hq.2⟩
        | 2, hq => exact ⟨hq.1, Nat.succ_lt_succ hq.2⟩
      | _ => exact hq
    | 2, hr, hJ =>
      obtain rfl : Code.skip.seq r2 = r := Option.some.inj (h2.symm.trans hr)
      refine Code.wp_mono (fun e a' w' hq => ?_) (skip_seq (p2 a w hJ))
      cases e with
      | goto l =>
        match l, hq with
        | 0, hq => exact ⟨hq, Nat.succ_pos _⟩
        | 2, hq => exact ⟨hq.1, Nat.succ_lt_succ hq.2⟩
      | _ => exact hq

theorem cons_of {l : List Value} {k : Nat} (h : l.length = k + 1) : ∃ v l', l = v :: l' ∧ l'.length = k := by
  cases l with
  | nil => simp at h
  | cons v l' => exact ⟨v, l', rfl, by simpa using h⟩

theorem rest_58 {l : List Value} (h : l.length = 58) : ∃ v0 v1 v2 v3 v4 v5 v6 v7 v8 v9 v10 v11 v12 v13 v14 v15 v16 v17 v18 v19 v20 v21 v22 v23 v24 v25 v26 v27 v28 v29 v30 v31 v32 v33 v34 v35 v36 v37 v38 v39 v40 v41 v42 v43 v44 v45 v46 v47 v48 v49 v50 v51 v52 v53 v54 v55 v56 v57, l = [v0, v1, v2, v3, v4, v5, v6, v7, v8, v9, v10, v11, v12, v13, v14, v15, v16, v17, v18, v19, v20, v21, v22, v23, v24, v25, v26, v27, v28, v29, v30, v31, v32, v33, v34, v35, v36, v37, v38, v39, v40, v41, v42, v43, v44, v45, v46, v47, v48, v49, v50, v51, v52, v53, v54, v55, v56, v57] := by
  obtain ⟨v0, l0, rfl, h0⟩ := cons_of h
  obtain ⟨v1, l1, rfl, h1⟩ := cons_of h0
  obtain ⟨v2, l2, rfl, h2⟩ := cons_of h1
  obtain ⟨v3, l3, rfl, h3⟩ := cons_of h2
  obtain ⟨v4, l4, rfl, h4⟩ := cons_of h3
  obtain ⟨v5, l5, rfl, h5⟩ := cons_of h4
  obtain ⟨v6, l6, rfl, h6⟩ := cons_of h5
  obtain ⟨v7, l7, rfl, h7⟩ := cons_of h6
  obtain ⟨v8, l8, rfl, h8⟩ := cons_of h7
  obtain ⟨v9, l9, rfl, h9⟩ := cons_of h8
  obtain ⟨v10, l10, rfl, h10⟩ := cons_of h9
  obtain ⟨v11, l11, rfl, h11⟩ := cons_of h10
  obtain ⟨v12, l12, rfl, h12⟩ := cons_of h11
  obtain ⟨v13, l13, rfl, h13⟩ := cons_of h12
  obtain ⟨v14, l14, rfl, h14⟩ := cons_of h13
  obtain ⟨v15, l15, rfl, h15⟩ := cons_of h14
  obtain ⟨v16, l16, rfl, h16⟩ := cons_of h15
  obtain ⟨v17, l17, rfl, h17⟩ := cons_of h16
  obtain ⟨v18, l18, rfl, h18⟩ := cons_of h17
  obtain ⟨v19, l19, rfl, h19⟩ := cons_of h18
  obtain ⟨v20, l20, rfl, h20⟩ := cons_of h19
  obtain ⟨v21, l21, rfl, h21⟩ := cons_of h20
  obtain ⟨v22, l22, rfl, h22⟩ := cons_of h21
  obtain ⟨v23, l23, rfl, h23⟩ := cons_of h22
  obtain ⟨v24, l24, rfl, h24⟩ := cons_of h23
  obtain ⟨v25, l25, rfl, h25⟩ := cons_of h24
  obtain ⟨v26, l26, rfl, h26⟩ := cons_of h25
  obtain ⟨v27, l27, rfl, h27⟩ := cons_of h26
  obtain ⟨v28, l28, rfl, h28⟩ := cons_of h27
  obtain ⟨v29, l29, rfl, h29⟩ := cons_of h28
  obtain ⟨v30, l30, rfl, h30⟩ := cons_of h29
  obtain ⟨v31, l31, rfl, h31⟩ := cons_of h30
  obtain ⟨v32, l32, rfl, h32⟩ := cons_of h31
  obtain ⟨v33, l33, rfl, h33⟩ := cons_of h32
  obtain ⟨v34, l34, rfl, h34⟩ := cons_of h33
  obtain ⟨v35, l35, rfl, h35⟩ := cons_of h34
  obtain ⟨v36, l36, rfl, h36⟩ := cons_of h35
  obtain ⟨v37, l37, rfl, h37⟩ := cons_of h36
  obtain ⟨v38, l38, rfl, h38⟩ := cons_of h37
  obtain ⟨v39, l39, rfl, h39⟩ := cons_of h38
  obtain ⟨v40, l40, rfl, h40⟩ := cons_of h39
  obtain ⟨v41, l41, rfl, h41⟩ := cons_of h40
  obtain ⟨v42, l42, rfl, h42⟩ := cons_of h41
  obtain ⟨v43, l43, rfl, h43⟩ := cons_of h42
  obtain ⟨v44, l44, rfl, h44⟩ := cons_of h43
  obtain ⟨v45, l45, rfl, h45⟩ := cons_of h44
  obtain ⟨v46, l46, rfl, h46⟩ := cons_of h45
  obtain ⟨v47, l47, rfl, h47⟩ := cons_of h46
  obtain ⟨v48, l48, rfl, h48⟩ := cons_of h47
  obtain ⟨v49, l49, rfl, h49⟩ := cons_of h48
  obtain ⟨v50, l50, rfl, h50⟩ := cons_of h49
  obtain ⟨v51, l51, rfl, h51⟩ := cons_of h50
  obtain ⟨v52, l52, rfl, h52⟩ := cons_of h51
  obtain ⟨v53, l53, rfl, h53⟩ := cons_of h52
  obtain ⟨v54, l54, rfl, h54⟩ := cons_of h53
  obtain ⟨v55, l55, rfl, h55⟩ := cons_of h54
  obtain ⟨v56, l56, rfl, h56⟩ := cons_of h55
  obtain ⟨v57, l57, rfl, h57⟩ := cons_of h56
  obtain rfl : l57 = [] := List.eq_nil_of_length_eq_zero h57
  exact ⟨_, _, _, _, _, _, _, _, _, _, _, _, _, _, _, _, _, _, _, _, _, _, _, _, _, _, _, _, _, _, _, _, _, _, _, _, _, _, _, _, _, _, _, _, _, _, _, _, _, _, _, _, _, _, _, _, _, _, rfl⟩

end Go.Proofs.YtmjcjcpifahpaaaDoor
