/-
  Ranges over functions, also over one that itself ranges over another. A range over a function whose rounds are told, beside what they are handed, what lies there: the contract of such an iterator, and the caller's law. Nothing here speaks of the program.
-/
import Derived.RangeFuncNested
import Derived.RangeFuncBound
import Derived.RangeFuncCalls
import Derived.RangeFuncLeaves
import Derived.Shelf.Abstract
import Derived.Shelf.RegionOpen
import Derived.WalkKit
import Derived.OwnWalkIn
import Derived.TacticsInMore
import Derived.LoopNIn
import Derived.LoopIn
namespace Go.Proofs.YtlghcboenkglnaaGreatDoor
open Go.RowKit Go.Shelf
set_option linter.unusedVariables false

/-- What a round says to the iterator. -/
def Said {α : Type} (J Jx : List α → World → Prop) (Kp : World → World → Prop) (xs : List α) (W : World) (e : Ending) (W' : World) : Prop :=
  (e = .returned (.bool true) ∧ J xs W' ∧ Kp W W') ∨ (e = .returned (.bool false) ∧ Jx xs W')

/-- An iterator that hands on only what Tx tells of the world in which it does (and of how many blocks there were when it was called). -/
def SeqTold {α : Type} (F : Fence) (n : Nat) (P : Program) (g : Nat) (lb : Array Value) (encs : α → Array Value) (Tx : Nat → List α → α → World → Prop) (Kp : World → World → Prop) (S Sp : List α → Prop) (w : World) : Prop :=
  ∀ (l : Nat) (J Jx : List α → World → Prop) (W : World), Below w.heap.size w W → AbidesFrom W.heap.size J → AbidesFrom W.heap.size Jx →
    (∀ pre x W1, J pre W1 → Tx W.heap.size pre x W1 → YieldAt F (n - 1) P l (encs x) W1 (Said J Jx Kp (pre ++ [x]) W1)) → J [] W →
    CallsIn F n P g (#[.func (.yield l) #[] #[]] ++ lb) W fun e W' => (∃ v, e = .returned v) ∧ ((∃ xs, S xs ∧ J xs W') ∨ (∃ pre, Sp pre ∧ Jx pre W'))

/-- Where no depth is asked the figures are all one. -/
theorem yield_deep {F : Fence} (hd : F.depth = none) {m : Nat} (m' : Nat) {P : Program} {l : Nat} {args : Array Value} {W : World} {R : Ending → World → Prop} (h : YieldAt F m P l args W R) : YieldAt F m' P l args W R := by
  obtain ⟨fn, tmps, assign, body, hy, hR⟩ := h
  exact ⟨fn, tmps, assign, body, hy, hR.1, fun c cs _ => hR.2 c cs (fun d h => by rw [hd] at h; cases h)⟩

section
variable {F : Fence} {n : Nat} {P : Program} {w : World}

/-- The record of a loop that is under way, and the block of what its rounds defer. -/
structure Book (B : Nat) (r : Loop) (W : World) : Prop where
  lp : W.heap[B + 1]? = some (.loop r)
  df : W.heap[B]? = some (.deferred (some []))
theorem Book.lt {B : Nat} {r : Loop} {W : World} (h : Book B r W) : B + 1 < W.heap.size := (Array.getElem?_eq_some_iff.1 h.lp).1
theorem Book.put {B : Nat} {r r' : Loop} {W : World} (h : Book B r W) : Book B r' (W.putObj (B + 1) (.loop r')) :=
  ⟨World.putObj_heap_same h.lt, (World.putObj_heap_other (by omega)).trans h.df⟩
theorem Book.kept {B : Nat} {r : Loop} {W W' : World} (h : Book B r W) (hk : KeepsFrom B W W') : Book B r W' :=
  ⟨hk.same _ _ (by omega) h.lp rfl, hk.same _ _ (Nat.le_refl _) h.df rfl⟩
theorem Book.grown {B B' : Nat} {r : Loop} {W W' : World} {row : Option Nat} (h : Book B r W) (hg : W.grownBy W' row) (hr : ∀ q, row = some q → B' ≤ q ∧ ∃ o : Obj, W.heap[q]? = some o ∧ o.isWalk = true) : Book B r W' :=
  ⟨(grownBy_keeps hg (fun q e => (hr q e).2) h.lp rfl).trans h.lp, (grownBy_keeps hg (fun q e => (hr q e).2) h.df rfl).trans h.df⟩

/-- One round, where the loop's record says 'ready'. -/
theorem round_told {α : Type} {ps : Array Tmp} {assign body : Code} {a : Act} {encs : α → Array Value} {Kp : World → World → Prop}
    (hKt : ∀ {A B C : World}, Kp A B → Kp B C → Kp A C) (hKb : ∀ (W : World) (l : Nat) (o o' : Obj), w.heap.size ≤ l → W.heap[l]? = some o → o.isCells = false → o.isWalk = false → Kp W (W.putObj l o'))
    (hps : ∀ x, (encs x).size = ps.size) (I : List α → World → Prop) (Ix : Code → List α → World → Prop) (hI : OwnFrom w.heap.size I) (hIx : ∀ c, OwnFrom w.heap.size (Ix c))
    (Ax : List α → α → Act → World → Prop) (hAx : ∀ pre x a', OwnFrom w.heap.size (fun (_ : Unit) W => Ax pre x a' W))
    {fn : FuncId} (hfn : F.fn fn) (r : LoopState → Option Code → Loop) (hr : r = fun st pe => { state := st, pending := pe, fn, tmps := a.tmps, params := ps, assign, body, defers := w.heap.size })
    (pre : List α) (x : α) (W : World) (hi : I pre W) (hb : Book w.heap.size (r .ready none) W)
    (hassign : ∀ K : Act → World → Prop, (∀ a' W', KeepsFrom w.heap.size W W' → Kp W W' → I pre W' → Ax pre x a' W' → K a' W') →
      assign.wpIn (F.inRound (w.heap.size + 1)) (n - 1 - 1) P (Exit.then K (fun _ _ _ => False)) { tmps := (ps.zip (encs x)).foldl (fun t (p, v) => t.setIfInBounds p v) a.tmps, defers := [] } W)
    (hbody : ∀ a' W', (∃ q, W'.heap[w.heap.size + 1]? = some (.loop q)) → I pre W' → Ax pre x a' W' → body.wpIn (F.inRound (w.heap.size + 1)) (n - 1 - 1) P (ownPostG w.heap.size Kp I Ix (pre ++ [x]) W') a' W') :
    YieldAt F (n - 1 - 1) P (w.heap.size + 1) (encs x) W (Said (fun s V => I s V ∧ Book w.heap.size (r .ready none) V) (fun s V => ∃ c, Ix c s V ∧ Book w.heap.size (r .done (some c)) V) Kp (pre ++ [x]) W) := by
  have hy := run_yield (P := P) (args := encs x) hb.lp (by rw [hr]; exact hps x)
  rw [hr] at hy
  refine ⟨fn, _, assign, body, hy, roundIn_of_wpIn hfn (hassign _ ?_)⟩
  intro a' V hkf hkp hiV hax
  have hbV := hb.kept hkf
  refine ⟨_, run_beginRound hbV.lp (by rw [hr]), ?_⟩
  have hb2 : Book w.heap.size { r .ready none with state := .busy } (V.putObj (w.heap.size + 1) (.loop { r .ready none with state := .busy })) := hbV.put
  have hk2 := hKb V _ _ (.loop { r .ready none with state := .busy }) (by omega) hbV.lp rfl rfl
  refine wpIn_mono (hbody a' _ ⟨_, hb2.lp⟩ (hI.putObj _ hiV (by omega) hbV.lp rfl) ((hAx pre x a').putObj (s := ()) _ hax (by omega) hbV.lp rfl)) ?_
  have close : ∀ (jump : Option Code) (V3 : World), KeepsFrom w.heap.size (V.putObj (w.heap.size + 1) (.loop { r .ready none with state := .busy })) V3 →
      (Instr.endRound (w.heap.size + 1) jump).run P V3 = .ok (.bool jump.isNone) (V3.putObj (w.heap.size + 1) (.loop (r (if jump.isNone then .ready else .done) jump))) ∧
      Book w.heap.size { r .ready none with state := .busy } V3 := fun jump V3 h3 => by
    have hb3 := hb2.kept h3
    have hrun := run_endRound (P := P) jump hb3.lp
    refine ⟨?_, hb3⟩
    rw [hr] at hrun ⊢
    exact hrun
  have leave : ∀ (c : Code) (V3 : World), KeepsFrom w.heap.size (V.putObj (w.heap.size + 1) (.loop { r .ready none with state := .busy })) V3 → Ix c (pre ++ [x]) V3 →
      ∃ v V4, (Instr.endRound (w.heap.size + 1) (some c)).run P V3 = .ok v V4 ∧ Said (fun s V => I s V ∧ Book w.heap.size (r .ready none) V) (fun s V => ∃ c, Ix c s V ∧ Book w.heap.size (r .done (some c)) V) Kp (pre ++ [x]) W (.returned v) V4 := fun c V3 h3 hx => by
    obtain ⟨h4, h5⟩ := close (some c) V3 h3
    exact ⟨_, _, h4, Or.inr ⟨rfl, c, (hIx c).putObj _ hx (by omega) h5.lp rfl, h5.put⟩⟩
  rintro e a3 V3 hp
  cases e with
  | normal =>
    obtain ⟨h3, h4, h5⟩ := hp
    obtain ⟨h6, h7⟩ := close none V3 h3
    exact ⟨_, _, h6, Or.inl ⟨rfl, ⟨hI.putObj _ h5 (by omega) h7.lp rfl, h7.put⟩, hKt hkp (hKt (hKt hk2 h4) (hKb _ _ _ _ (by omega) h7.lp rfl rfl))⟩⟩
  | ret => exact leave .ret V3 hp.1 hp.2
  | exit id => exact leave (.exit id) V3 hp.1 hp.2
  | goto t => exact leave (.goto t) V3 hp.1 hp.2
  | panic ch => exact hp.elim
  | outgrown => exact hp.elim

/-- The caller's law. -/
theorem wpIn_rangeFunc_told {α : Type} {g : Operand} {ps : Array Tmp} {assign body : Code} {Q : Exit → Act → World → Prop} {a : Act}
    (hro : F.round = none) (h1 : 1 ≤ n) {gf : Nat} {lb : Array Value} (hg : a.eval g = .func (.func gf) #[] lb) (hFg : F.fn gf) (eg : ∀ args w, (callFunc gf args).run P w = .ok (.enter gf args) w)
    {encs : α → Array Value} {Tx : Nat → List α → α → World → Prop} {Kp : World → World → Prop} {S Sp : List α → Prop} {w0 : World} (hseq : SeqTold F (n - 1) P gf lb encs Tx Kp S Sp w0)
    (hKt : ∀ {A B C : World}, Kp A B → Kp B C → Kp A C) (hKb : ∀ (W : World) (l : Nat) (o o' : Obj), w.heap.size ≤ l → W.heap[l]? = some o → o.isCells = false → o.isWalk = false → Kp W (W.putObj l o')) (hb0 : Below w0.heap.size w0 w) (hps : ∀ x, (encs x).size = ps.size)
    (I : List α → World → Prop) (Ix : Code → List α → World → Prop) (hI : OwnFrom w.heap.size I) (hIx : ∀ c, OwnFrom w.heap.size (Ix c)) (h0 : I [] w) (Ax : List α → α → Act → World → Prop) (hAx : ∀ pre x a', OwnFrom w.heap.size (fun (_ : Unit) W => Ax pre x a' W))
    (hassign : ∀ (pre : List α) (x : α) (W : World) (K : Act → World → Prop), I pre W → Tx (w.heap.size + 2) pre x W → (∀ a' W', KeepsFrom w.heap.size W W' → Kp W W' → I pre W' → Ax pre x a' W' → K a' W') →
      assign.wpIn (F.inRound (w.heap.size + 1)) (n - 1 - 1) P (Exit.then K (fun _ _ _ => False)) { tmps := (ps.zip (encs x)).foldl (fun t (p, v) => t.setIfInBounds p v) a.tmps, defers := [] } W)
    (hbody : ∀ (pre : List α) (x : α) (a' : Act) (W : World), (∃ q, W.heap[w.heap.size + 1]? = some (.loop q)) → I pre W → Ax pre x a' W → body.wpIn (F.inRound (w.heap.size + 1)) (n - 1 - 1) P (ownPostG w.heap.size Kp I Ix (pre ++ [x]) W) a' W)
    (hdone : ∀ (D : Nat) (xs : List α) (W : World), w.heap.size ≤ D → S xs → I xs W → W.heap[D]? = some (.deferred (some [])) → Q .normal { a with defers := { target := .collected D, args := #[] } :: a.defers } W)
    (hstop : ∀ (D : Nat) (c : Code) (pre : List α) (W : World), w.heap.size ≤ D → Sp pre → Ix c pre W → W.heap[D]? = some (.deferred (some [])) → c.wpIn F n P Q { a with defers := { target := .collected D, args := #[] } :: a.defers } W) :
    (Code.rangeFunc g ps assign body).wpIn F n P Q a w := by
  refine wpIn_rangeFunc fun fn hfn => ?_
  rw [hro]
  obtain ⟨r, hr⟩ : ∃ r : LoopState → Option Code → Loop, r = fun st pe => { state := st, pending := pe, fn, tmps := a.tmps, params := ps, assign, body, defers := w.heap.size } := ⟨_, rfl⟩
  obtain ⟨V, hV⟩ : ∃ V, (w.alloc (.deferred (some []))).alloc (.loop (r .ready none)) = V := ⟨_, rfl⟩
  have hb : Book w.heap.size (r .ready none) V := by
    rw [← hV]
    have h9 := World.alloc_heap_new (w.alloc (.deferred (some []))) (.loop (r .ready none))
    rw [World.size_alloc] at h9
    exact ⟨h9, (Below.heap_alloc _ _ _ (by simp)).trans (World.alloc_heap_new w _)⟩
  have hIV : I [] V := by rw [← hV]; exact hI.alloc _ (hI.alloc _ h0)
  have hBV : Below w0.heap.size w0 V := by
    rw [← hV]
    exact hb0.trans ((((Below.refl _ w).alloc (Nat.le_refl _) _).alloc (by simp) _).mono hb0.size)
  have hVs : V.heap.size = w.heap.size + 2 := by rw [← hV]; simp
  have turn : ∀ {A : World} {row : Option Nat}, (∀ q, row = some q → V.heap.size ≤ q ∧ ∃ o : Obj, A.heap[q]? = some o ∧ o.isWalk = true) → ∀ q, row = some q → w.heap.size ≤ q ∧ ∃ o : Obj, A.heap[q]? = some o ∧ o.isCells = false := fun h q e => by
    obtain ⟨h2, o, h3, h4⟩ := h q e
    exact ⟨by omega, o, h3, Obj.not_cells_of_walk h4⟩
  refine ⟨w.heap.size + 1, [{ target := .collected w.heap.size, args := #[] }], V, { target := .fn (.func gf) lb, args := #[.func (.yield (w.heap.size + 1)) #[] #[]] }, V, gf, #[.func (.yield (w.heap.size + 1)) #[] #[]] ++ lb, V, ?_, ?_, ?_, ?_, fun _ => h1, ?_⟩
  · rw [← hV, hr]; exact run_enterLoop_outer _ _ _ _ _
  · simp only [resolve, hg]
    simp [go_sem]
  · intro f' hf'
    simp [Target.leads] at hf'
    subst hf'
    exact hFg
  · simp [invoke, go_sem, eg]
  · refine (hseq (w.heap.size + 1) (fun s W => I s W ∧ Book w.heap.size (r .ready none) W) (fun s W => ∃ c, Ix c s W ∧ Book w.heap.size (r .done (some c)) W) V hBV
      (fun s A B row hs hg' hq => ⟨hI s A B row hs.1 hg' (turn hq), hs.2.grown hg' hq⟩)
      (fun s A B row ⟨c, h2, h3⟩ hg' hq => ⟨c, hIx c s A B row h2 hg' (turn hq), h3.grown hg' hq⟩)
      (fun pre x W hJ hT => round_told (Kp := Kp) (fun h k => hKt h k) hKb hps I Ix hI hIx Ax hAx hfn r hr pre x W hJ.1 hJ.2 (fun K hK => hassign pre x W K hJ.1 (hVs ▸ hT) hK) (fun a' W' hq hi hx => hbody pre x a' W' hq hi hx)) ⟨hIV, hb⟩).mono ?_
    rintro e W2 ⟨⟨v, rfl⟩, ⟨xs, hS, hi, h2⟩ | ⟨pre, hSp, c, hi, h2⟩⟩
    · have h3 := run_endLoop (P := P) h2.lp (by rw [hr]; simp)
      rw [show (r .ready none).pending = none by rw [hr]] at h3
      exact ⟨none, _, h3, hdone _ xs _ (Nat.le_refl _) hS (hI.putObj _ hi (by omega) h2.lp rfl) ((World.putObj_heap_other (by omega)).trans h2.df)⟩
    · have h3 := run_endLoop (P := P) h2.lp (by rw [hr]; simp)
      rw [show (r .done (some c)).pending = some c by rw [hr]] at h3
      exact ⟨some c, _, h3, hstop _ c pre _ (Nat.le_refl _) hSp ((hIx c).putObj _ hi (by omega) h2.lp rfl) ((World.putObj_heap_other (by omega)).trans h2.df)⟩

theorem keeps_up {B B' : Nat} {W W' : World} (h : KeepsFrom B W W') (hB : B ≤ B') : KeepsFrom B' W W' := ⟨h.size, fun k o hk => h.same k o (Nat.le_trans hB hk)⟩
theorem keeps_put {B l : Nat} {W : World} (o : Obj) (hl : l < B) : KeepsFrom B W (W.putObj l o) := KeepsFrom.of_grownBy (grownBy_putObj' W l o) (fun j e => by cases e; exact hl)
/-- What a round says, and that it keeps what is no cells from B on. -/
def SaidK {α : Type} (B : Nat) (J Jx : List α → World → Prop) (Kp : World → World → Prop) (xs : List α) (W : World) (e : Ending) (W' : World) : Prop :=
  (e = .returned (.bool true) ∧ J xs W' ∧ Kp W W' ∧ KeepsFrom B W W') ∨ (e = .returned (.bool false) ∧ Jx xs W' ∧ KeepsFrom B W W')
/-- An iterator whose own loops turn their records between two rounds: what stands between two rounds speaks of cells, and of what lay there when it was called; and a round keeps those records. -/
def SeqOwn {α : Type} (F : Fence) (n : Nat) (P : Program) (g : Nat) (lb : Array Value) (encs : α → Array Value) (Tx : Nat → List α → α → World → Prop) (Kp : World → World → Prop) (S Sp : List α → Prop) (w : World) : Prop :=
  ∀ (l : Nat) (J Jx : List α → World → Prop) (W : World), Below w.heap.size w W → OwnFrom W.heap.size J → OwnFrom W.heap.size Jx →
    (∀ pre x W1, J pre W1 → Tx W.heap.size pre x W1 → YieldAt F (n - 1) P l (encs x) W1 (SaidK W.heap.size J Jx Kp (pre ++ [x]) W1)) → J [] W →
    CallsIn F n P g (#[.func (.yield l) #[] #[]] ++ lb) W fun e W' => (∃ v, e = .returned v) ∧ ((∃ xs, S xs ∧ J xs W') ∨ (∃ pre, Sp pre ∧ Jx pre W'))
theorem Book.far {B : Nat} {r : Loop} {W W' : World} {row : Option Nat} (h : Book B r W) (hg : W.grownBy W' row) (hr : ∀ q, row = some q → B + 2 ≤ q) : Book B r W' := by
  have hl := h.lt
  exact ⟨(hg.block _ hl (fun e => by have := hr _ e.symm; omega)).trans h.lp, (hg.block _ (by omega) (fun e => by have := hr _ e.symm; omega)).trans h.df⟩

/-- The same, and what lies behind the loop's record is kept. -/
theorem round_keeps {α : Type} {ps : Array Tmp} {assign body : Code} {a : Act} {encs : α → Array Value} {Kp : World → World → Prop}
    (hKt : ∀ {A B C : World}, Kp A B → Kp B C → Kp A C) (hKb : ∀ (W : World) (l : Nat) (o o' : Obj), w.heap.size ≤ l → W.heap[l]? = some o → o.isCells = false → o.isWalk = false → Kp W (W.putObj l o'))
    (hps : ∀ x, (encs x).size = ps.size) (I : List α → World → Prop) (Ix : Code → List α → World → Prop) (hI : OwnFrom w.heap.size I) (hIx : ∀ c, OwnFrom w.heap.size (Ix c))
    (Ax : List α → α → Act → World → Prop) (hAx : ∀ pre x a', OwnFrom w.heap.size (fun (_ : Unit) W => Ax pre x a' W))
    {fn : FuncId} (hfn : F.fn fn) (r : LoopState → Option Code → Loop) (hr : r = fun st pe => { state := st, pending := pe, fn, tmps := a.tmps, params := ps, assign, body, defers := w.heap.size })
    (pre : List α) (x : α) (W : World) (hi : I pre W) (hb : Book w.heap.size (r .ready none) W)
    (hassign : ∀ K : Act → World → Prop, (∀ a' W', KeepsFrom w.heap.size W W' → Kp W W' → I pre W' → Ax pre x a' W' → K a' W') →
      assign.wpIn (F.inRound (w.heap.size + 1)) (n - 1 - 1) P (Exit.then K (fun _ _ _ => False)) { tmps := (ps.zip (encs x)).foldl (fun t (p, v) => t.setIfInBounds p v) a.tmps, defers := [] } W)
    (hbody : ∀ a' W', (∃ q, W'.heap[w.heap.size + 1]? = some (.loop q)) → I pre W' → Ax pre x a' W' → body.wpIn (F.inRound (w.heap.size + 1)) (n - 1 - 1) P (ownPostG w.heap.size Kp I Ix (pre ++ [x]) W') a' W') :
    YieldAt F (n - 1 - 1) P (w.heap.size + 1) (encs x) W (SaidK (w.heap.size + 2) (fun s V => I s V ∧ Book w.heap.size (r .ready none) V) (fun s V => ∃ c, Ix c s V ∧ Book w.heap.size (r .done (some c)) V) Kp (pre ++ [x]) W) := by
  have hy := run_yield (P := P) (args := encs x) hb.lp (by rw [hr]; exact hps x)
  rw [hr] at hy
  refine ⟨fn, _, assign, body, hy, roundIn_of_wpIn hfn (hassign _ ?_)⟩
  intro a' V hkf hkp hiV hax
  have hbV := hb.kept hkf
  refine ⟨_, run_beginRound hbV.lp (by rw [hr]), ?_⟩
  have hb2 : Book w.heap.size { r .ready none with state := .busy } (V.putObj (w.heap.size + 1) (.loop { r .ready none with state := .busy })) := hbV.put
  have kf2 : KeepsFrom (w.heap.size + 2) W (V.putObj (w.heap.size + 1) (.loop { r .ready none with state := .busy })) := (keeps_up hkf (by omega)).trans (keeps_put _ (by omega))
  have hk2 := hKb V _ _ (.loop { r .ready none with state := .busy }) (by omega) hbV.lp rfl rfl
  refine wpIn_mono (hbody a' _ ⟨_, hb2.lp⟩ (hI.putObj _ hiV (by omega) hbV.lp rfl) ((hAx pre x a').putObj (s := ()) _ hax (by omega) hbV.lp rfl)) ?_
  have close : ∀ (jump : Option Code) (V3 : World), KeepsFrom w.heap.size (V.putObj (w.heap.size + 1) (.loop { r .ready none with state := .busy })) V3 →
      (Instr.endRound (w.heap.size + 1) jump).run P V3 = .ok (.bool jump.isNone) (V3.putObj (w.heap.size + 1) (.loop (r (if jump.isNone then .ready else .done) jump))) ∧
      Book w.heap.size { r .ready none with state := .busy } V3 := fun jump V3 h3 => by
    have hb3 := hb2.kept h3
    have hrun := run_endRound (P := P) jump hb3.lp
    refine ⟨?_, hb3⟩
    rw [hr] at hrun ⊢
    exact hrun
  have leave : ∀ (c : Code) (V3 : World), KeepsFrom w.heap.size (V.putObj (w.heap.size + 1) (.loop { r .ready none with state := .busy })) V3 → Ix c (pre ++ [x]) V3 →
      ∃ v V4, (Instr.endRound (w.heap.size + 1) (some c)).run P V3 = .ok v V4 ∧ SaidK (w.heap.size + 2) (fun s V => I s V ∧ Book w.heap.size (r .ready none) V) (fun s V => ∃ c, Ix c s V ∧ Book w.heap.size (r .done (some c)) V) Kp (pre ++ [x]) W (.returned v) V4 := fun c V3 h3 hx => by
    obtain ⟨h4, h5⟩ := close (some c) V3 h3
    exact ⟨_, _, h4, Or.inr ⟨rfl, ⟨c, (hIx c).putObj _ hx (by omega) h5.lp rfl, h5.put⟩, (kf2.trans (keeps_up h3 (by omega))).trans (keeps_put _ (by omega))⟩⟩
  rintro e a3 V3 hp
  cases e with
  | normal =>
    obtain ⟨h3, h4, h5⟩ := hp
    obtain ⟨h6, h7⟩ := close none V3 h3
    exact ⟨_, _, h6, Or.inl ⟨rfl, ⟨hI.putObj _ h5 (by omega) h7.lp rfl, h7.put⟩, hKt hkp (hKt (hKt hk2 h4) (hKb _ _ _ _ (by omega) h7.lp rfl rfl)), (kf2.trans (keeps_up h3 (by omega))).trans (keeps_put _ (by omega))⟩⟩
  | ret => exact leave .ret V3 hp.1 hp.2
  | exit id => exact leave (.exit id) V3 hp.1 hp.2
  | goto t => exact leave (.goto t) V3 hp.1 hp.2
  | panic ch => exact hp.elim
  | outgrown => exact hp.elim

/-- The caller's law for such an iterator. -/
theorem wpIn_rangeFunc_keeps {α : Type} {g : Operand} {ps : Array Tmp} {assign body : Code} {Q : Exit → Act → World → Prop} {a : Act}
    (hro : F.round = none) (h1 : 1 ≤ n) {gf : Nat} {lb : Array Value} (hg : a.eval g = .func (.func gf) #[] lb) (hFg : F.fn gf) (eg : ∀ args w, (callFunc gf args).run P w = .ok (.enter gf args) w)
    {encs : α → Array Value} {Tx : Nat → List α → α → World → Prop} {Kp : World → World → Prop} {S Sp : List α → Prop} {w0 : World} (hseq : SeqOwn F (n - 1) P gf lb encs Tx Kp S Sp w0)
    (hKt : ∀ {A B C : World}, Kp A B → Kp B C → Kp A C) (hKb : ∀ (W : World) (l : Nat) (o o' : Obj), w.heap.size ≤ l → W.heap[l]? = some o → o.isCells = false → o.isWalk = false → Kp W (W.putObj l o')) (hb0 : Below w0.heap.size w0 w) (hps : ∀ x, (encs x).size = ps.size)
    (I : List α → World → Prop) (Ix : Code → List α → World → Prop) (hI : OwnFrom w.heap.size I) (hIx : ∀ c, OwnFrom w.heap.size (Ix c)) (h0 : I [] w) (Ax : List α → α → Act → World → Prop) (hAx : ∀ pre x a', OwnFrom w.heap.size (fun (_ : Unit) W => Ax pre x a' W))
    (hassign : ∀ (pre : List α) (x : α) (W : World) (K : Act → World → Prop), I pre W → Tx (w.heap.size + 2) pre x W → (∀ a' W', KeepsFrom w.heap.size W W' → Kp W W' → I pre W' → Ax pre x a' W' → K a' W') →
      assign.wpIn (F.inRound (w.heap.size + 1)) (n - 1 - 1) P (Exit.then K (fun _ _ _ => False)) { tmps := (ps.zip (encs x)).foldl (fun t (p, v) => t.setIfInBounds p v) a.tmps, defers := [] } W)
    (hbody : ∀ (pre : List α) (x : α) (a' : Act) (W : World), (∃ q, W.heap[w.heap.size + 1]? = some (.loop q)) → I pre W → Ax pre x a' W → body.wpIn (F.inRound (w.heap.size + 1)) (n - 1 - 1) P (ownPostG w.heap.size Kp I Ix (pre ++ [x]) W) a' W)
    (hdone : ∀ (D : Nat) (xs : List α) (W : World), w.heap.size ≤ D → S xs → I xs W → W.heap[D]? = some (.deferred (some [])) → Q .normal { a with defers := { target := .collected D, args := #[] } :: a.defers } W)
    (hstop : ∀ (D : Nat) (c : Code) (pre : List α) (W : World), w.heap.size ≤ D → Sp pre → Ix c pre W → W.heap[D]? = some (.deferred (some [])) → c.wpIn F n P Q { a with defers := { target := .collected D, args := #[] } :: a.defers } W) :
    (Code.rangeFunc g ps assign body).wpIn F n P Q a w := by
  refine wpIn_rangeFunc fun fn hfn => ?_
  rw [hro]
  obtain ⟨r, hr⟩ : ∃ r : LoopState → Option Code → Loop, r = fun st pe => { state := st, pending := pe, fn, tmps := a.tmps, params := ps, assign, body, defers := w.heap.size } := ⟨_, rfl⟩
  obtain ⟨V, hV⟩ : ∃ V, (w.alloc (.deferred (some []))).alloc (.loop (r .ready none)) = V := ⟨_, rfl⟩
  have hb : Book w.heap.size (r .ready none) V := by
    rw [← hV]
    have h9 := World.alloc_heap_new (w.alloc (.deferred (some []))) (.loop (r .ready none))
    rw [World.size_alloc] at h9
    exact ⟨h9, (Below.heap_alloc _ _ _ (by simp)).trans (World.alloc_heap_new w _)⟩
  have hIV : I [] V := by rw [← hV]; exact hI.alloc _ (hI.alloc _ h0)
  have hBV : Below w0.heap.size w0 V := by
    rw [← hV]
    exact hb0.trans ((((Below.refl _ w).alloc (Nat.le_refl _) _).alloc (by simp) _).mono hb0.size)
  have hVs : V.heap.size = w.heap.size + 2 := by rw [← hV]; simp
  refine ⟨w.heap.size + 1, [{ target := .collected w.heap.size, args := #[] }], V, { target := .fn (.func gf) lb, args := #[.func (.yield (w.heap.size + 1)) #[] #[]] }, V, gf, #[.func (.yield (w.heap.size + 1)) #[] #[]] ++ lb, V, ?_, ?_, ?_, ?_, fun _ => h1, ?_⟩
  · rw [← hV, hr]; exact run_enterLoop_outer _ _ _ _ _
  · simp only [resolve, hg]
    simp [go_sem]
  · intro f' hf'
    simp [Target.leads] at hf'
    subst hf'
    exact hFg
  · simp [invoke, go_sem, eg]
  · refine (hseq (w.heap.size + 1) (fun s W => I s W ∧ Book w.heap.size (r .ready none) W) (fun s W => ∃ c, Ix c s W ∧ Book w.heap.size (r .done (some c)) W) V hBV
      (fun s A B row hs hg' hq => ⟨hI s A B row hs.1 hg' (fun q e => ⟨by have := (hq q e).1; omega, (hq q e).2⟩), hs.2.far hg' (fun q e => by have := (hq q e).1; omega)⟩)
      (fun s A B row ⟨c, h2, h3⟩ hg' hq => ⟨c, hIx c s A B row h2 hg' (fun q e => ⟨by have := (hq q e).1; omega, (hq q e).2⟩), h3.far hg' (fun q e => by have := (hq q e).1; omega)⟩)
      (fun pre x W hJ hT => by rw [hVs]; exact round_keeps (Kp := Kp) (fun h k => hKt h k) hKb hps I Ix hI hIx Ax hAx hfn r hr pre x W hJ.1 hJ.2 (fun K hK => hassign pre x W K hJ.1 (hVs ▸ hT) hK) (fun a' W' hq hi hx => hbody pre x a' W' hq hi hx)) ⟨hIV, hb⟩).mono ?_
    rintro e W2 ⟨⟨v, rfl⟩, ⟨xs, hS, hi, h2⟩ | ⟨pre, hSp, c, hi, h2⟩⟩
    · have h3 := run_endLoop (P := P) h2.lp (by rw [hr]; simp)
      rw [show (r .ready none).pending = none by rw [hr]] at h3
      exact ⟨none, _, h3, hdone _ xs _ (Nat.le_refl _) hS (hI.putObj _ hi (by omega) h2.lp rfl) ((World.putObj_heap_other (by omega)).trans h2.df)⟩
    · have h3 := run_endLoop (P := P) h2.lp (by rw [hr]; simp)
      rw [show (r .done (some c)).pending = some c by rw [hr]] at h3
      exact ⟨some c, _, h3, hstop _ c pre _ (Nat.le_refl _) hSp ((hIx c).putObj _ hi (by omega) h2.lp rfl) ((World.putObj_heap_other (by omega)).trans h2.df)⟩
end
end Go.Proofs.YtlghcboenkglnaaGreatDoor
