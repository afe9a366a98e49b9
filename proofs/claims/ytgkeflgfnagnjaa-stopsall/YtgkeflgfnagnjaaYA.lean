/-
  Ranges over functions whose iterators turn memory of their own between two rounds: the contract of such an iterator, and the caller's law. Nothing here speaks of the program.
-/
import Derived.Test.YtgkeflgfnagnjaaX2
namespace Go.Proofs.Ytgkeflgfnagnjaa
open Go.RowKit Go.Shelf
set_option linter.unusedVariables false

/-- The records of loops and of what is put off. -/
def isRec : Obj → Bool
  | .loop _ => true
  | .deferred _ => true
  | _ => false
theorem cells_notRec {o : Obj} (h : o.isCells = true) : isRec o = false := by cases o <;> first | rfl | cases h
/-- A step of an iterator whose own blocks are T: it turns these alone, the records of loops from B on, and what it makes; behind it its own ones are T'. -/
structure Mv (B : Nat) (T : Nat → Prop) (A A' : World) (T' : Nat → Prop) : Prop where
  os : A'.os = A.os
  tape : A'.tape = A.tape
  output : A'.output = A.output
  size : A.heap.size ≤ A'.heap.size
  block : ∀ k, k < A.heap.size → ¬ T k → (k < B ∨ ∃ o, A.heap[k]? = some o ∧ isRec o = false) → A'.heap[k]? = A.heap[k]?
  tt : ∀ k, T' k → T k ∨ A.heap.size ≤ k
theorem Mv.refl (B : Nat) (T : Nat → Prop) (A : World) : Mv B T A A T := ⟨rfl, rfl, rfl, Nat.le_refl _, fun _ _ _ _ => rfl, fun k hk => .inl hk⟩
theorem Mv.trans {B : Nat} {T T' T'' : Nat → Prop} {X Y Z : World} (h : Mv B T X Y T') (h2 : Mv B T' Y Z T'') : Mv B T X Z T'' :=
  ⟨h2.os.trans h.os, h2.tape.trans h.tape, h2.output.trans h.output, Nat.le_trans h.size h2.size, fun k hk hn hc => by
    have e1 := h.block k hk hn hc
    refine (h2.block k (Nat.lt_of_lt_of_le hk h.size) (fun ht => ?_) ?_).trans e1
    · rcases h.tt k ht with h3 | h3
      · exact hn h3
      · omega
    · rcases hc with h3 | ⟨o, h3, h4⟩
      · exact .inl h3
      · exact .inr ⟨o, e1.trans h3, h4⟩, fun k hk => by
    rcases h2.tt k hk with h3 | h3
    · exact h.tt k h3
    · exact .inr (Nat.le_trans h.size h3)⟩
theorem Mv.low {B B' : Nat} {T T' : Nat → Prop} {A A' : World} (h : Mv B T A A' T') (hB : B' ≤ B) : Mv B' T A A' T' :=
  ⟨h.os, h.tape, h.output, h.size, fun k hk hn hc => h.block k hk hn (hc.imp (fun h => by omega) id), h.tt⟩
/-- What an iterator's steps leave standing. -/
def Steady {β : Type} (B : Nat) (J : (Nat → Prop) → β → World → Prop) : Prop :=
  ∀ T T' s A A', J T s A → (∀ k, T k → B ≤ k) → Mv B T A A' T' → J T' s A'
theorem Mv.of_own {B : Nat} {T : Nat → Prop} {A A' : World} {row : Option Nat} (hg : A.grownBy A' row) (hr : ∀ r, row = some r → B ≤ r ∧ ∃ o : Obj, A.heap[r]? = some o ∧ isRec o = true) : Mv B T A A' T :=
  ⟨hg.os, hg.tape, hg.output, hg.size, fun k hk hn hc => hg.block k hk (fun e => by
    obtain ⟨h1, o, h2, h3⟩ := hr k e.symm
    rcases hc with h4 | ⟨o', h4, h5⟩
    · omega
    · rw [h2] at h4
      cases h4
      rw [h3] at h5
      cases h5), fun k hk => .inl hk⟩
/-- What stands whatever becomes of the records of loops from B on. -/
def RecFrom {β : Type} (B : Nat) (I : β → World → Prop) : Prop := ∀ s W l o o', I s W → B ≤ l → W.heap[l]? = some o → isRec o = true → I s (W.putObj l o')
theorem RecFrom.putObj {β : Type} {B : Nat} {I : β → World → Prop} (h : RecFrom B I) {s : β} {W : World} {l : Nat} {o : Obj} (o' : Obj) (hs : I s W) (hB : B ≤ l) (hl : W.heap[l]? = some o) (ho : isRec o = true) : I s (W.putObj l o') := h s W l o o' hs hB hl ho
theorem Steady.own {β : Type} {B : Nat} {J : (Nat → Prop) → β → World → Prop} (h : Steady B J) {T : Nat → Prop} (hT : ∀ k, T k → B ≤ k) : RecFrom B (J T) :=
  fun s W l o o' hs hB hl ho => h T T s W _ hs hT (Mv.of_own (row := some l) (grownBy_putObj' W l o') (fun r e => by cases e; exact ⟨hB, o, hl, ho⟩))
theorem Steady.alloc {β : Type} {B : Nat} {J : (Nat → Prop) → β → World → Prop} (h : Steady B J) {T : Nat → Prop} (hT : ∀ k, T k → B ≤ k) {s : β} {W : World} (o : Obj) (hs : J T s W) : J T s (W.alloc o) :=
  h T T s W _ hs hT (Mv.of_own (World.grownBy_alloc W o none) (fun r e => by cases e))
/-- Cells of these blocks stay. -/
def StayC (K : Nat → Prop) (A B : World) : Prop := A.heap.size ≤ B.heap.size ∧ ∀ k o, K k → A.heap[k]? = some o → o.isCells = true → B.heap[k]? = some o
theorem StayC.refl (K : Nat → Prop) (A : World) : StayC K A A := ⟨Nat.le_refl _, fun _ _ _ h _ => h⟩
theorem StayC.trans {K : Nat → Prop} {A B C : World} (h : StayC K A B) (h2 : StayC K B C) : StayC K A C := ⟨Nat.le_trans h.1 h2.1, fun k o hk ho hc => h2.2 k o hk (h.2 k o hk ho hc) hc⟩
theorem StayC.put {K : Nat → Prop} (W : World) (l : Nat) (o o' : Obj) (hl : W.heap[l]? = some o) (ho : o.isCells = false) : StayC K W (W.putObj l o') :=
  ⟨by simp, fun k x hk hx hc => by
    by_cases e : k = l
    · subst e
      rw [hl] at hx
      cases hx
      rw [ho] at hc
      cases hc
    · exact (World.putObj_heap_other e).trans hx⟩
/-- The blocks of K stay, and the cells of those of T. -/
structure StayP (K T : Nat → Prop) (A B : World) : Prop where
  os : B.os = A.os
  tape : B.tape = A.tape
  output : B.output = A.output
  size : A.heap.size ≤ B.heap.size
  k : ∀ k, K k → k < A.heap.size → B.heap[k]? = A.heap[k]?
  t : ∀ k o, T k → A.heap[k]? = some o → o.isCells = true → B.heap[k]? = some o
theorem StayP.trans {K T : Nat → Prop} {A B C : World} (h : StayP K T A B) (h2 : StayP K T B C) : StayP K T A C := ⟨h2.os.trans h.os, h2.tape.trans h.tape, h2.output.trans h.output, Nat.le_trans h.size h2.size, fun k hk hl => (h2.k k hk (Nat.lt_of_lt_of_le hl h.size)).trans (h.k k hk hl), fun k o hk ho hc => h2.t k o hk (h.t k o hk ho hc) hc⟩
theorem StayP.put {K T : Nat → Prop} (W : World) (l : Nat) (o o' : Obj) (hK : ∀ k, K k → k < l) (hl : W.heap[l]? = some o) (ho : o.isCells = false) : StayP K T W (W.putObj l o') :=
  ⟨rfl, rfl, rfl, by simp, fun k hk _ => World.putObj_heap_other (by have := hK k hk; omega), (StayC.put W l o o' hl ho).2⟩
theorem StayP.toC {K T : Nat → Prop} {A B : World} (h : StayP K T A B) : StayC (fun k => K k ∨ T k) A B :=
  ⟨h.size, fun k o hk ho hc => hk.elim (fun hk => (h.k k hk (Array.getElem?_eq_some_iff.1 ho).1).trans ho) (fun hk => h.t k o hk ho hc)⟩
theorem StayP.grown {K T : Nat → Prop} {A B : World} (hg : A.grownBy B none) : StayP K T A B :=
  ⟨hg.os, hg.tape, hg.output, hg.size, fun k _ hl => hg.block k hl (by simp), fun k o _ ho _ => (hg.block k (Array.getElem?_eq_some_iff.1 ho).1 (by simp)).trans ho⟩
theorem StayP.sub {K K' T T' : Nat → Prop} {A B : World} (h : StayP K T A B) (hK : ∀ k, K' k → K k) (hT : ∀ k, T' k → T k) : StayP K' T' A B :=
  ⟨h.os, h.tape, h.output, h.size, fun k hk hl => h.k k (hK k hk) hl, fun k o hk ho hc => h.t k o (hT k hk) ho hc⟩
/-- An iterator that turns blocks of its own between two rounds: what stands between two rounds, J, is told which these are, T. -/
def SeqPriv {α : Type} (F : Fence) (n : Nat) (P : Program) (g : Nat) (lb : Array Value) (encs : α → Array Value) (Tx : Nat → (Nat → Prop) → List α → α → World → Prop) (K : Nat → Prop) (S Sp : List α → Prop) (w : World) : Prop :=
  ∀ (l : Nat) (J Jx : (Nat → Prop) → List α → World → Prop) (W : World), Below w.heap.size w W → Steady W.heap.size J → Steady W.heap.size Jx →
    (∀ T pre x W1, (∀ k, T k → W.heap.size ≤ k ∧ k < W1.heap.size) → J T pre W1 → Tx W.heap.size T pre x W1 → YieldAt F (n - 1) P l (encs x) W1 (SaidK W.heap.size (J T) (Jx T) (StayP K T) (pre ++ [x]) W1)) → J (fun _ => False) [] W →
    CallsIn F n P g (#[.func (.yield l) #[] #[]] ++ lb) W fun e W' => (∃ v, e = .returned v) ∧ ((∃ T xs, (∀ k, T k → W.heap.size ≤ k) ∧ S xs ∧ J T xs W') ∨ (∃ T pre, (∀ k, T k → W.heap.size ≤ k) ∧ Sp pre ∧ Jx T pre W'))
section
variable {F : Fence} {n : Nat} {P : Program} {w : World}
/-- A round: what is told of what it is handed need stand but when the loop's own record is turned. -/
theorem round_priv {α : Type} {ps : Array Tmp} {assign body : Code} {a : Act} {encs : α → Array Value} {Kp : World → World → Prop}
    (hKt : ∀ {A B C : World}, Kp A B → Kp B C → Kp A C) (hKb : ∀ (W : World) (l : Nat) (o o' : Obj), w.heap.size ≤ l → W.heap[l]? = some o → o.isCells = false → o.isWalk = false → Kp W (W.putObj l o'))
    (hps : ∀ x, (encs x).size = ps.size) (I : List α → World → Prop) (Ix : Code → List α → World → Prop) (hI : RecFrom w.heap.size I) (hIx : ∀ c, RecFrom w.heap.size (Ix c))
    (Ax : List α → α → Act → World → Prop) (hAx : ∀ pre x a' W q o, Ax pre x a' W → W.heap[w.heap.size + 1]? = some (.loop q) → Ax pre x a' (W.putObj (w.heap.size + 1) o))
    {fn : FuncId} (hfn : F.fn fn) (r : LoopState → Option Code → Loop) (hr : r = fun st pe => { state := st, pending := pe, fn, tmps := a.tmps, params := ps, assign, body, defers := w.heap.size })
    (pre : List α) (x : α) (W : World) (hi : I pre W) (hb : Book w.heap.size (r .ready none) W)
    (hassign : ∀ K : Act → World → Prop, (∀ a' W', KeepsFrom w.heap.size W W' → Kp W W' → I pre W' → Ax pre x a' W' → K a' W') →
      assign.wpIn (F.inRound (w.heap.size + 1)) (n - 1 - 1) P (Exit.then K (fun _ _ _ => False)) { tmps := (ps.zip (encs x)).foldl (fun t (p, v) => t.setIfInBounds p v) a.tmps, defers := [] } W)
    (hbody : ∀ a' W', (∃ q, W'.heap[w.heap.size + 1]? = some (.loop q)) → I pre W' → Ax pre x a' W' → body.wpIn (F.inRound (w.heap.size + 1)) (n - 1 - 1) P (ownPostG w.heap.size Kp I Ix (pre ++ [x]) W') a' W') :
    YieldAt F (n - 1 - 1) P (w.heap.size + 1) (encs x) W (SaidK (w.heap.size + 2) (fun s V => I s V ∧ Book w.heap.size (r .ready none) V) (fun s V => ∃ c, Ix c s V ∧ Book w.heap.size (r .done (some c)) V) Kp (pre ++ [x]) W) := by
  have hy := run_yield (P := P) (args := encs x) hb.lp (by rw [hr]; exact hps x)
  rw [hr] at hy
  refine ⟨fn, _, assign, body, hy, roundIn_of_wpIn hfn (hassign _ ?_)⟩
  intro a' V hkf hkp hiV hax
  have hbV := hb.kept hkf
  refine ⟨_, run_beginRound hbV.lp (by rw [hr]), ?_⟩
  have hb2 : Book w.heap.size { r .ready none with state := .busy } (V.putObj (w.heap.size + 1) (.loop { r .ready none with state := .busy })) := hbV.put
  have kf2 : KeepsFrom (w.heap.size + 2) W (V.putObj (w.heap.size + 1) (.loop { r .ready none with state := .busy })) := (keeps_up hkf (by omega)).trans (keeps_put _ (by omega))
  have hk2 := hKb V _ _ (.loop { r .ready none with state := .busy }) (by omega) hbV.lp rfl rfl
  refine wpIn_mono (hbody a' _ ⟨_, hb2.lp⟩ (hI.putObj _ hiV (by omega) hbV.lp rfl) (hAx pre x a' _ _ _ hax hbV.lp)) ?_
  have close : ∀ (jump : Option Code) (V3 : World), KeepsFrom w.heap.size (V.putObj (w.heap.size + 1) (.loop { r .ready none with state := .busy })) V3 →
      (Instr.endRound (w.heap.size + 1) jump).run P V3 = .ok (.bool jump.isNone) (V3.putObj (w.heap.size + 1) (.loop (r (if jump.isNone then .ready else .done) jump))) ∧
      Book w.heap.size { r .ready none with state := .busy } V3 := fun jump V3 h3 => by
    have hb3 := hb2.kept h3
    have hrun := run_endRound (P := P) jump hb3.lp
    refine ⟨?_, hb3⟩
    rw [hr] at hrun ⊢
    exact hrun
  have leave : ∀ (c : Code) (V3 : World), KeepsFrom w.heap.size (V.putObj (w.heap.size + 1) (.loop { r .ready none with state := .busy })) V3 → Ix c (pre ++ [x]) V3 →
      ∃ v V4, (Instr.endRound (w.heap.size + 1) (some c)).run P V3 = .ok v V4 ∧ SaidK (w.heap.size + 2) (fun s V => I s V ∧ Book w.heap.size (r .ready none) V) (fun s V => ∃ c, Ix c s V ∧ Book w.heap.size (r .done (some c)) V) Kp (pre ++ [x]) W (.returned v) V4 := fun c V3 h3 hx => by
    obtain ⟨h4, h5⟩ := close (some c) V3 h3
    exact ⟨_, _, h4, Or.inr ⟨rfl, ⟨c, (hIx c).putObj _ hx (by omega) h5.lp rfl, h5.put⟩, (kf2.trans (keeps_up h3 (by omega))).trans (keeps_put _ (by omega))⟩⟩
  rintro e a3 V3 hp
  cases e with
  | normal =>
    obtain ⟨h3, h4, h5⟩ := hp
    obtain ⟨h6, h7⟩ := close none V3 h3
    exact ⟨_, _, h6, Or.inl ⟨rfl, ⟨hI.putObj _ h5 (by omega) h7.lp rfl, h7.put⟩, hKt hkp (hKt (hKt hk2 h4) (hKb _ _ _ _ (by omega) h7.lp rfl rfl)), (kf2.trans (keeps_up h3 (by omega))).trans (keeps_put _ (by omega))⟩⟩
  | ret => exact leave .ret V3 hp.1 hp.2
  | exit id => exact leave (.exit id) V3 hp.1 hp.2
  | goto t => exact leave (.goto t) V3 hp.1 hp.2
  | panic ch => exact hp.elim
  | outgrown => exact hp.elim
/-- The caller's law for such an iterator. -/
theorem wpIn_rangeFunc_priv {α : Type} {g : Operand} {ps : Array Tmp} {assign body : Code} {Q : Exit → Act → World → Prop} {a : Act}
    (hro : F.round = none) (h1 : 1 ≤ n) {gf : Nat} {lb : Array Value} (hg : a.eval g = .func (.func gf) #[] lb) (hFg : F.fn gf) (eg : ∀ args w, (callFunc gf args).run P w = .ok (.enter gf args) w)
    {encs : α → Array Value} {Tx : Nat → (Nat → Prop) → List α → α → World → Prop} {K : Nat → Prop} {S Sp : List α → Prop} {w0 : World} (hseq : SeqPriv F (n - 1) P gf lb encs Tx K S Sp w0)
    (hKw : ∀ k, K k → k < w.heap.size) (hb0 : Below w0.heap.size w0 w) (hps : ∀ x, (encs x).size = ps.size)
    (I : (Nat → Prop) → List α → World → Prop) (Ix : Code → (Nat → Prop) → List α → World → Prop) (hI : Steady w.heap.size I) (hIx : ∀ c, Steady w.heap.size (Ix c)) (h0 : I (fun _ => False) [] w)
    (Ax : (Nat → Prop) → List α → α → Act → World → Prop) (hAx : ∀ T pre x a' W q o, (∀ k, T k → w.heap.size + 2 ≤ k) → Ax T pre x a' W → W.heap[w.heap.size + 1]? = some (.loop q) → Ax T pre x a' (W.putObj (w.heap.size + 1) o))
    (hassign : ∀ (T : Nat → Prop) (pre : List α) (x : α) (W : World) (K' : Act → World → Prop), (∀ k, T k → w.heap.size + 2 ≤ k ∧ k < W.heap.size) → I T pre W → Tx (w.heap.size + 2) T pre x W → (∀ a' W', KeepsFrom w.heap.size W W' → StayP K T W W' → I T pre W' → Ax T pre x a' W' → K' a' W') →
      assign.wpIn (F.inRound (w.heap.size + 1)) (n - 1 - 1) P (Exit.then K' (fun _ _ _ => False)) { tmps := (ps.zip (encs x)).foldl (fun t (p, v) => t.setIfInBounds p v) a.tmps, defers := [] } W)
    (hbody : ∀ (T : Nat → Prop) (pre : List α) (x : α) (a' : Act) (W : World), (∀ k, T k → w.heap.size + 2 ≤ k) → (∃ q, W.heap[w.heap.size + 1]? = some (.loop q)) → I T pre W → Ax T pre x a' W → body.wpIn (F.inRound (w.heap.size + 1)) (n - 1 - 1) P (ownPostG w.heap.size (StayP K T) (I T) (fun c => Ix c T) (pre ++ [x]) W) a' W)
    (hdone : ∀ (D : Nat) (T : Nat → Prop) (xs : List α) (W : World), w.heap.size ≤ D → (∀ k, T k → w.heap.size + 2 ≤ k) → S xs → I T xs W → W.heap[D]? = some (.deferred (some [])) → Q .normal { a with defers := { target := .collected D, args := #[] } :: a.defers } W)
    (hstop : ∀ (D : Nat) (c : Code) (T : Nat → Prop) (pre : List α) (W : World), w.heap.size ≤ D → (∀ k, T k → w.heap.size + 2 ≤ k) → Sp pre → Ix c T pre W → W.heap[D]? = some (.deferred (some [])) → c.wpIn F n P Q { a with defers := { target := .collected D, args := #[] } :: a.defers } W) :
    (Code.rangeFunc g ps assign body).wpIn F n P Q a w := by
  refine wpIn_rangeFunc fun fn hfn => ?_
  rw [hro]
  obtain ⟨r, hr⟩ : ∃ r : LoopState → Option Code → Loop, r = fun st pe => { state := st, pending := pe, fn, tmps := a.tmps, params := ps, assign, body, defers := w.heap.size } := ⟨_, rfl⟩
  obtain ⟨V, hV⟩ : ∃ V, (w.alloc (.deferred (some []))).alloc (.loop (r .ready none)) = V := ⟨_, rfl⟩
  have hb : Book w.heap.size (r .ready none) V := by
    rw [← hV]
    have h9 := World.alloc_heap_new (w.alloc (.deferred (some []))) (.loop (r .ready none))
    rw [World.size_alloc] at h9
    exact ⟨h9, (Below.heap_alloc _ _ _ (by simp)).trans (World.alloc_heap_new w _)⟩
  have hIV : I (fun _ => False) [] V := by rw [← hV]; exact hI.alloc (fun k hk => hk.elim) _ (hI.alloc (fun k hk => hk.elim) _ h0)
  have hBV : Below w0.heap.size w0 V := by
    rw [← hV]
    exact hb0.trans ((((Below.refl _ w).alloc (Nat.le_refl _) _).alloc (by simp) _).mono hb0.size)
  have hVs : V.heap.size = w.heap.size + 2 := by rw [← hV]; simp
  have hbk : ∀ {st : LoopState} {pe : Option Code} {T T' : Nat → Prop} {A A' : World}, Book w.heap.size (r st pe) A → (∀ k, T k → V.heap.size ≤ k) → Mv V.heap.size T A A' T' → Book w.heap.size (r st pe) A' := fun hb hT hm => by
    have hl := hb.lt
    exact ⟨(hm.block _ hl (fun e => by have := hT _ e; omega) (.inl (by omega))).trans hb.lp, (hm.block _ (by omega) (fun e => by have := hT _ e; omega) (.inl (by omega))).trans hb.df⟩
  refine ⟨w.heap.size + 1, [{ target := .collected w.heap.size, args := #[] }], V, { target := .fn (.func gf) lb, args := #[.func (.yield (w.heap.size + 1)) #[] #[]] }, V, gf, #[.func (.yield (w.heap.size + 1)) #[] #[]] ++ lb, V, ?_, ?_, ?_, ?_, fun _ => h1, ?_⟩
  · rw [← hV, hr]; exact run_enterLoop_outer _ _ _ _ _
  · simp only [resolve, hg]
    simp [go_sem]
  · intro f' hf'
    simp [Target.leads] at hf'
    subst hf'
    exact hFg
  · simp [invoke, go_sem, eg]
  · refine (hseq (w.heap.size + 1) (fun T s W => I T s W ∧ Book w.heap.size (r .ready none) W) (fun T s W => ∃ c, Ix c T s W ∧ Book w.heap.size (r .done (some c)) W) V hBV
      (fun T T' s A A' hs hT hm => ⟨hI T T' s A A' hs.1 (fun k hk => by have := hT k hk; omega) (hm.low (by omega)), hbk hs.2 hT hm⟩)
      (fun T T' s A A' ⟨c, h2, h3⟩ hT hm => ⟨c, hIx c T T' s A A' h2 (fun k hk => by have := hT k hk; omega) (hm.low (by omega)), hbk h3 hT hm⟩)
      (fun T pre x W hT hJ hTx => by
        rw [hVs]
        refine round_priv (Kp := StayP K T) (fun h k => h.trans k) (fun W l o o' hl h1 h2 _ => StayP.put W l o o' (fun k hk => Nat.lt_of_lt_of_le (hKw k hk) hl) h1 h2) hps (I T) (fun c => Ix c T) (hI.own (fun k hk => by have := (hT k hk).1; omega)) (fun c => (hIx c).own (fun k hk => by have := (hT k hk).1; omega)) (Ax T) (fun pre x a' W q o hx hq => hAx T pre x a' W q o (fun k hk => by have := (hT k hk).1; omega) hx hq) hfn r hr pre x W hJ.1 hJ.2 (fun K' hK => hassign T pre x W K' (fun k hk => ⟨by have := (hT k hk).1; omega, (hT k hk).2⟩) hJ.1 (hVs ▸ hTx) hK) (fun a' W' hq hi hx => hbody T pre x a' W' (fun k hk => by have := (hT k hk).1; omega) hq hi hx)) ⟨hIV, hb⟩).mono ?_
    rintro e W2 ⟨⟨v, rfl⟩, ⟨T, xs, hT, hS, hi, h2⟩ | ⟨T, pre, hT, hSp, c, hi, h2⟩⟩
    · have h3 := run_endLoop (P := P) h2.lp (by rw [hr]; simp)
      rw [show (r .ready none).pending = none by rw [hr]] at h3
      exact ⟨none, _, h3, hdone _ T xs _ (Nat.le_refl _) (fun k hk => by have := hT k hk; omega) hS ((hI.own (fun k hk => by have := hT k hk; omega)).putObj _ hi (by omega) h2.lp rfl) ((World.putObj_heap_other (by omega)).trans h2.df)⟩
    · have h3 := run_endLoop (P := P) h2.lp (by rw [hr]; simp)
      rw [show (r .done (some c)).pending = some c by rw [hr]] at h3
      exact ⟨some c, _, h3, hstop _ c T pre _ (Nat.le_refl _) (fun k hk => by have := hT k hk; omega) hSp (((hIx c).own (fun k hk => by have := hT k hk; omega)).putObj _ hi (by omega) h2.lp rfl) ((World.putObj_heap_other (by omega)).trans h2.df)⟩
end
end Go.Proofs.Ytgkeflgfnagnjaa
