import Derived.Test.YtlghcboenkglnaaGreatDoorZas
import Derived.Test.YtlghcboenkglnaaGreatDoorRecX1
import Derived.Test.YtlghcboenkglnaaGreatDoorZaj
import Derived.OrdersIn
import Derived.Deep.RegionHeld3
/-
  wholes' closure as an iterator that tells what lies at what it hands on.
-/
namespace Go.Proofs.YtlghcboenkglnaaGreatDoor.Rec
open Go.Proofs.YtlghcboenkglnaaGreatDoor
open Go.RowKit Go.Shelf
set_option linter.unusedVariables false
attribute [local go_sem] Oper.semAt_some

theorem find_told (w : World) (ao : Option Addr) (n cap i : Nat) (L : List UInt8) (h : Bp w ao n cap L) (hi : i ≤ n) :
    Calls Tryz.prog 146 #[.slice ao n cap, .int .i64 i] w fun e w' => w.grownBy w' none ∧ ((∃ C, C ≠ 0 ∧ RK L n i 0 0 0 C [] ∧ e = .returned (.tuple #[.agg #[.int .i64 0, .slice none 0 0, .int .i64 0], .int .i64 C])) ∨
      (∃ (S : Nat) (b : Int) (c : Nat) (ro : Option Addr) (rc : Nat) (rs : List Rc), 32 ≤ S ∧ i + S ≤ n ∧ c ≤ 65536 ∧ RK L n i b c S 0 (ds rs) ∧ Rs w' ro c rc rs ∧ (∀ r ∈ rs, r.kn ≤ 1048576 ∧ r.vn ≤ 1048576) ∧ e = .returned (.tuple #[.agg #[.int .i64 b, .slice ro c rc, .int .i64 S], .int .i64 0]))) := by
  have hp : plcB n (i : Int) = true := by unfold plcB; simp; omega
  have hno : ∀ C, NoAt (L.drop i) C → C ≠ 0 ∧ RK L n i 0 0 0 C [] := fun C hN => ⟨hN.1, Or.inr (Or.inl ⟨hp, by simpa using hN, rfl, rfl, rfl, rfl⟩)⟩
  by_cases h0 : (extR (L.drop i)).2 = 0
  · have hE : extR (L.drop i) = ((extR (L.drop i)).1, 0) := by rw [← h0]
    obtain ⟨s1, s2, s3, _⟩ := extR_ok hE
    have hl := h.bs.len
    rw [List.length_drop, hl] at s3
    by_cases hW : Whole ((L.drop i).take (extR (L.drop i)).1) (extR (L.drop i)).1
    · obtain ⟨b, o, rfl, _⟩ := h.bs.addr (by omega)
      have hins : ∀ j, j < cAt ((L.drop i).take (extR (L.drop i)).1) → posAt ((L.drop i).take (extR (L.drop i)).1) (j + 1) ≤ (extR (L.drop i)).1 := hW.ins
      have htop := hW.top
      have hlow := hW.low
      have hpos0 : 20 + 12 * cAt ((L.drop i).take (extR (L.drop i)).1) ≤ (extR (L.drop i)).1 := by have := pos_ge ((L.drop i).take (extR (L.drop i)).1) (cAt ((L.drop i).take (extR (L.drop i)).1)); rw [hW.fin] at this; exact this
      refine (find_yes w b o n cap i _ L h.bs hi h.top h.cap hE (by omega) hW).mono ?_
      rintro e w' ⟨base, ro, rc, cs, hba, rfl, hR, hCut, hg⟩
      have hRK : ∀ D : List Dr, D.length = cAt ((L.drop i).take (extR (L.drop i)).1) → (∀ j d, D[j]? = some d → Says ((L.drop i).take (extR (L.drop i)).1) (posAt ((L.drop i).take (extR (L.drop i)).1) j) d) → RK L n i (bAt ((L.drop i).take (extR (L.drop i)).1)) (cAt ((L.drop i).take (extR (L.drop i)).1)) (extR (L.drop i)).1 0 D := fun D h1 h2 =>
        Or.inr (Or.inr ⟨hp, by simpa using hE, by simpa using hW, by simp, by simp, rfl, by simpa using h1, by simpa using h2⟩)
      clear hE hW
      generalize (extR (L.drop i)).1 = S at *
      generalize ((L.drop i).take S) = B at *
      have hcl := hR.len
      have hkn : ∀ r ∈ cs, Rk w' r ∧ r.kn ≤ 1048576 ∧ r.vn ≤ 1048576 := fun r hr => by
        obtain ⟨j, hj, hjr⟩ := List.getElem_of_mem hr
        have h9 := hCut j r (by rw [List.getElem?_eq_getElem hj, hjr])
        have hlj : posAt B (j + 1) ≤ S := hins j (by omega)
        have hpj : posAt B (j + 1) = posAt B j + 12 + kAt B (posAt B j) + vAt B (posAt B j) := rfl
        have e1 := h9.kn
        have e2 := h9.vn
        have k1 := h9.kb
        have k2 := h9.vb
        refine ⟨⟨?_, ?_, h9.key, h9.value, by omega, by omega⟩, by omega, by omega⟩
        · rw [h9.t]; unfold tAt wrap64; omega
        · rw [h9.t]; unfold tAt wrap64; omega
      refine ⟨hg, Or.inr ⟨S, _, _, ro, rc, cs, hlow, by omega, by omega, hRK (ds cs) (by rw [ds_len]; exact hcl) (fun j d hd => ?_), hR.shows (fun r hr => (hkn r hr).1), fun r hr => (hkn r hr).2, rfl⟩⟩
      unfold ds at hd
      rw [List.getElem?_map] at hd
      cases hc : cs[j]? with
      | none => rw [hc] at hd; cases hd
      | some r =>
        rw [hc] at hd
        simp at hd
        subst hd
        have h9 := hCut j r hc
        exact ⟨h9.t, by rw [← h9.kn]; exact h9.k, by rw [← h9.kn, ← h9.vn]; exact h9.v⟩
    · have hN : NoAt (L.drop i) 152 := ⟨by omega, Or.inr ⟨h0, rfl, hW⟩⟩
      refine (find_no w ao n cap i L 152 h hi hN).mono ?_
      rintro e w' ⟨rfl, hg⟩
      exact ⟨hg, Or.inl ⟨_, (hno _ hN).1, (hno _ hN).2, rfl⟩⟩
  · have hN : NoAt (L.drop i) (extR (L.drop i)).2 := ⟨h0, Or.inl rfl⟩
    refine (find_no w ao n cap i L _ h hi hN).mono ?_
    rintro e w' ⟨rfl, hg⟩
    exact ⟨hg, Or.inl ⟨_, (hno _ hN).1, (hno _ hN).2, rfl⟩⟩
/-- What a round is handed: a place, the batch that stands there, and its records. -/
structure Wy where
  p : Nat
  b : Int
  ro : Option Addr
  c : Nat
  rc : Nat
  s : Nat
  rs : List Rc
def yenc (x : Wy) : Array Value := #[.int .i64 x.p, .agg #[.int .i64 x.b, .slice x.ro x.c x.rc, .int .i64 x.s]]
def Wy.q (x : Wy) : Nat × Int × List Dr := (x.p, x.b, ds x.rs)
/-- What is told of it. -/
def Ytold (L : List UInt8) (n : Nat) (pre : List Wy) (x : Wy) (W : World) : Prop :=
  Pl L n (pre.map Wy.q) x.p ∧ RK L n x.p x.b x.c x.s 0 (ds x.rs) ∧ Rs W x.ro x.c x.rc x.rs ∧ (∀ r ∈ x.rs, r.kn ≤ 1048576 ∧ r.vn ≤ 1048576) ∧ x.c ≤ 65536
/-- All have come. -/
def Yend (L : List UInt8) (n : Nat) (ys : List (Nat × Int × List Dr)) : Prop := ∃ Z C, Pl L n ys Z ∧ RK L n Z 0 0 0 C [] ∧ C ≠ 0
end Go.Proofs.YtlghcboenkglnaaGreatDoor.Rec

/-
  A region that draws its order, inside a fence, whatever the order: one invariant over what has come up. Nothing here speaks of the program.
-/
namespace Go.Proofs.YtlghcboenkglnaaGreatDoor.Rec
open Go.Proofs.YtlghcboenkglnaaGreatDoor
open Go.RowKit
set_option linter.unusedVariables false

/-- How many have not come up. -/
def leftB (l : Array Bool) : Nat := l.toList.countP (fun b => !b)
theorem leftB_set {l : Array Bool} {i : Nat} (hi : i < l.size) (h : l.getD i true = false) : leftB (l.setIfInBounds i true) + 1 = leftB l := by
  unfold leftB
  have hi' : i < l.toList.length := by simpa using hi
  have hv : l.toList[i] = false := by simpa [hi] using h
  rw [Array.toList_setIfInBounds, List.countP_set hi']
  have hpos : 0 < l.toList.countP (fun b => !b) := List.countP_pos_iff.2 ⟨false, by rw [← hv]; exact List.getElem_mem hi', rfl⟩
  rw [hv]
  show l.toList.countP (fun b => !b) - 1 + 0 + 1 = _
  omega
theorem leftB_all (n : Nat) : leftB (Array.replicate n false) ≤ n := by
  unfold leftB
  have h := List.countP_le_length (p := fun b : Bool => !b) (l := (Array.replicate n false).toList)
  simpa using h
section
variable {F : Fence} {n : Nat} {P : Program} {ops : Array Oper} {Q : Exit → Act → World → Prop} {md : Region.Mode}
/-- What may come up. -/
theorem ready_mem (l : Array Bool) (i : Nat) : i ∈ Region.ready md ops l ↔ (i < ops.size ∧ l.getD i true = false ∧ ∃ o, ops[i]? = some o ∧ ∀ e ∈ o.after.toList, Region.binds md e = true → l.getD e.on false = true) := by
  unfold Region.ready
  rw [List.mem_filter, List.mem_range]
  constructor
  · rintro ⟨h1, h2⟩
    rw [Bool.and_eq_true] at h2
    obtain ⟨h3, h4⟩ := h2
    have ho : ops[i]? = some ops[i] := by simp [h1]
    rw [ho] at h4
    simp only [Option.map_some, Option.getD_some] at h4
    refine ⟨h1, by simpa using h3, ops[i], ho, fun e he hb => ?_⟩
    rw [Array.all_eq_true_iff_forall_mem] at h4
    have h5 := h4 e (by simpa using he)
    rw [hb] at h5
    simpa using h5
  · rintro ⟨h1, h2, o, ho, h3⟩
    refine ⟨h1, ?_⟩
    rw [h2, ho]
    simp only [Bool.not_false, Bool.true_and, Option.map_some, Option.getD_some]
    rw [Array.all_eq_true_iff_forall_mem]
    intro e he
    cases hb : Region.binds md e with
    | false => rfl
    | true => rw [h3 e (by simpa using he) hb]; rfl
/-- Whatever the order: an invariant that each operation keeps, once those that it waits for have come up. -/
theorem any_order_in (J : Array Bool → Act → World → Prop)
    (size : ∀ l a w, J l a w → l.size = ops.size)
    (step : ∀ l a w i o, J l a w → ops[i]? = some o → l.getD i true = false → (∀ e ∈ o.after.toList, Region.binds md e = true → l.getD e.on false = true) → wpOpIn F n P ops Q i (fun a' w' => J (l.setIfInBounds i true) a' w') a w)
    (stop : ∀ l a w, J l a w → (∀ i, i < ops.size → l.getD i false = true) → Q .normal a w)
    (low : ∀ (i : Nat) (o : Oper), ops[i]? = some o → ∀ e ∈ o.after.toList, Region.binds md e = true → e.on < i) :
    ∀ fuel l a w, J l a w → leftB l ≤ fuel → wpAnyIn F n P md ops Q fuel l a w := by
  have all : ∀ l, l.size = ops.size → Region.ready md ops l = [] → ∀ i, i < ops.size → l.getD i false = true := by
    intro l hs hr i
    induction i using Nat.strongRecOn with
    | _ i ih =>
      intro hi
      cases hv : l.getD i false with
      | true => rfl
      | false =>
        have ht : l.getD i true = false := by
          have hl : i < l.size := by omega
          simp only [Array.getD_eq_getD_getElem?, Array.getElem?_eq_getElem hl, Option.getD_some] at hv ⊢
          exact hv
        have : i ∈ Region.ready md ops l := (ready_mem l i).2 ⟨hi, ht, ops[i], by simp [hi], fun e he hb => ih e.on (low i _ (by simp [hi]) e he hb) (Nat.lt_trans (low i _ (by simp [hi]) e he hb) hi)⟩
        rw [hr] at this
        cases this
  intro fuel
  induction fuel with
  | zero =>
    intro l a w hJ hc
    have hs := size l a w hJ
    have hz : ∀ i, i < ops.size → l.getD i true = true := by
      intro i hi
      cases hv : l.getD i true with
      | true => rfl
      | false => have := leftB_set (by omega) hv; omega
    have hr : Region.ready md ops l = [] := by
      apply List.eq_nil_iff_forall_not_mem.2
      intro i hi
      obtain ⟨h1, h2, _⟩ := (ready_mem l i).1 hi
      rw [hz i h1] at h2
      cases h2
    exact ⟨hr, stop l a w hJ (all l hs hr)⟩
  | succ fuel ih =>
    intro l a w hJ hc
    have hs := size l a w hJ
    refine ⟨fun hr => stop l a w hJ (all l hs hr), fun i hi => ?_⟩
    obtain ⟨h1, h2, o, ho, h3⟩ := (ready_mem l i).1 hi
    have hl : i < l.size := by omega
    have h4 := leftB_set hl h2
    exact wpOpIn_mono (fun a' w' hJ' => ih _ a' w' hJ' (by omega)) (step l a w i o hJ ho h2 h3)
end
end Go.Proofs.YtlghcboenkglnaaGreatDoor.Rec

/-
  A region that draws its order, inside a round of a range over a function, by the plain law for regions whose cells are held. Nothing here speaks of the program.
-/
namespace Go.Proofs.YtlghcboenkglnaaGreatDoor.Rec
open Go.Proofs.YtlghcboenkglnaaGreatDoor
open Go.RowKit
set_option linter.unusedVariables false

section
variable {P : Program} {ops : Array Oper} {Q : Exit → Act → World → Prop} {md : Region.Mode}
theorem callsIn_round {r n : Nat} {f : FuncId} {args : Array Value} {w : World} {R : Ending → World → Prop} (h : Calls P f args w R) : CallsIn (Fence.wide.inRound r) n P f args w R :=
  callsIn_wide.2 h
/-- One that puts nothing off, and enters no row. -/
def still (o : Oper) : Bool := match o.op with
  | .defer _ => false
  | _ => true
theorem wpOpIn_of_op {r n i : Nat} {K : Act → World → Prop} {a : Act} {w : World} (hd : ∀ o, ops[i]? = some o → still o = true) (hno : ¬ LetsOut Q) (h : wpOp P ops Q i K a w) : wpOpIn (Fence.wide.inRound r) n P ops Q i K a w := by
  unfold wpOpIn
  unfold wpOp at h
  cases ho : ops[i]? with
  | none => simpa [ho] using h
  | some o =>
    have hs : ∀ c, o.op ≠ .defer c := fun c e => by
      have := hd o ho
      unfold still at this
      rw [e] at this
      cases this
    simp only [ho] at h ⊢
    split
    · rename_i hw
      simp only [hw, if_true] at h
      rcases h with h | ⟨_, h⟩
      · refine ⟨fun _ _ => trivial, ?_⟩
        rw [Oper.semAt_eq _ _ _ hs]
        unfold Oper.wp at h
        generalize (execOp a.eval o).run P w = rr at *
        cases rr with
        | ok x w' =>
          cases x <;> simp only [Oper.upon, Oper.uponIn] at h ⊢ <;> first
            | exact h
            | exact ⟨fun e => (Bool.false_ne_true e).elim, callsIn_round (Calls.mono h (fun e w'' he => by cases e <;> exact he))⟩
            | exact ⟨fun e => (Bool.false_ne_true e).elim, fun c cs _ => let ⟨v, w9, hr, hst⟩ := h c cs; ⟨v, w9, hr, stepsIn_wide.2 hst⟩⟩
            | exact h.elim
        | halt x w' =>
          cases x <;> simp only [Oper.upon, Oper.uponIn] at h ⊢ <;> first
            | exact h
            | exact h.elim
      · exact absurd h hno
    · rename_i hw
      simp only [hw] at h
      exact ⟨fun _ _ => trivial, h⟩
end
end Go.Proofs.YtlghcboenkglnaaGreatDoor.Rec

/-
  All's closure: the region in which it yields.
-/
namespace Go.Proofs.YtlghcboenkglnaaGreatDoor.Rec
open Go.Proofs.YtlghcboenkglnaaGreatDoor
open Go.RowKit Go.Shelf
set_option linter.unusedVariables false
attribute [local go_sem] Oper.semAt_some

/-- The operations of a region, also within a range over a function. -/
def findRng (id : Nat) : Code → Option (Array Oper)
  | .region i ops _ => if i = id then some ops else none
  | .seq a b => (findRng id a).or (findRng id b)
  | .cond _ a b => (findRng id a).or (findRng id b)
  | .block _ a => findRng id a
  | .loop a => findRng id a
  | .scope a => findRng id a
  | .rangeFunc _ _ a b => (findRng id a).or (findRng id b)
  | _ => none
/-- What has come up of it. -/
structure J53 (A : Act) (w0 : World) (vy pl vx : Value) (Bt : Value → World → Prop) (Out : Bool → World → Prop) (l : Array Bool) (a : Act) (W : World) : Prop where
  fr : Fr A A.tmps [9, 10, 11, 12, 13, 14] 6 l a
  t0 : l.getD 0 false = true → a.tmps[9]? = some vy
  t1 : l.getD 1 false = true → a.tmps[10]? = some pl
  t2 : l.getD 2 false = true → a.tmps[11]? = some vx
  d2 : l.getD 3 false = true → l.getD 2 false = true
  d3 : l.getD 4 false = true → l.getD 3 false = true ∧ l.getD 0 false = true ∧ l.getD 1 false = true
  d4 : l.getD 5 false = true → l.getD 4 false = true
  sA : l.getD 3 false = false → W = w0
  sB : l.getD 3 false = true → l.getD 4 false = false → ∃ v, a.tmps[12]? = some v ∧ Bt v W
  sC : l.getD 4 false = true → ∃ bb, a.tmps[13]? = some (.bool bb) ∧ Out bb W ∧ (l.getD 5 false = true → a.tmps[14]? = some (.bool (!bb)))
theorem J53.quiet {A : Act} {w0 : World} {vy pl vx : Value} {Bt : Value → World → Prop} {Out : Bool → World → Prop} {l : Array Bool} {a : Act} {W : World} (h : J53 A w0 vy pl vx Bt Out l a W) (hroom : A.tmps.size = 15) (i : Nat) (hi : i < 3) (v : Value) (h4 : l.getD 4 false = false)
    (hv0 : i = 0 → v = vy) (hv1 : i = 1 → v = pl) (hv2 : i = 2 → v = vx) : J53 A w0 vy pl vx Bt Out (l.setIfInBounds i true) (a.put (some (9 + i)) v) W := by
  have hk := h.fr.size
  have hs := h.fr.room
  have hoth : ∀ j, j ≠ i → (l.setIfInBounds i true).getD j false = l.getD j false := fun j hj => getD_other hk (by omega) hj
  have hself : (a.put (some (9 + i)) v).tmps[9 + i]? = some v := put_self (by omega)
  have hput : ∀ t, t ≠ 9 + i → (a.put (some (9 + i)) v).tmps[t]? = a.tmps[t]? := fun t ht => put_other (Ne.symm ht)
  refine ⟨h.fr.put i _ v (by have : i = 0 ∨ i = 1 ∨ i = 2 := by omega
                             rcases this with rfl | rfl | rfl <;> simp), fun hl => ?_, fun hl => ?_, fun hl => ?_, fun hl => ?_, fun hl => ?_, fun hl => ?_, fun hl => ?_, fun hl hl' => ?_, fun hl => ?_⟩
  · by_cases e : 0 = i
    · subst e; rw [hself, hv0 rfl]
    · rw [hoth _ e] at hl; rw [hput _ (by omega)]; exact h.t0 hl
  · by_cases e : 1 = i
    · subst e; rw [hself, hv1 rfl]
    · rw [hoth _ e] at hl; rw [hput _ (by omega)]; exact h.t1 hl
  · by_cases e : 2 = i
    · subst e; rw [hself, hv2 rfl]
    · rw [hoth _ e] at hl; rw [hput _ (by omega)]; exact h.t2 hl
  · rw [hoth _ (by omega)] at hl
    by_cases e : 2 = i
    · subst e; rw [getD_set (by omega)]; simp
    · rw [hoth _ e]; exact h.d2 hl
  · rw [hoth _ (by omega), h4] at hl
    cases hl
  · rw [hoth _ (by omega)] at hl
    have := h.d4 hl
    rw [h4] at this
    cases this
  · rw [hoth _ (by omega)] at hl
    exact h.sA hl
  · rw [hoth _ (by omega)] at hl hl'
    obtain ⟨v9, h1, h2⟩ := h.sB hl hl'
    exact ⟨v9, by rw [hput _ (by omega)]; exact h1, h2⟩
  · rw [hoth _ (by omega), h4] at hl
    cases hl
set_option maxRecDepth 100000 in
set_option maxHeartbeats 4000000 in
theorem reg53 {ops : Array Oper} (hops : Tryz.f122.body.bind (findRng 4) = some ops) {A : Act} {w0 : World} {r m ly y0 gx : Nat} {pl : Value} {b : Int} {ro : Option Addr} {c rc : Nat} {s : Int} {Bt : Value → World → Prop} {Out : Bool → World → Prop}
    (hroom : A.tmps.size = 15) (b2 : A.tmps[2]? = some (.pointer (some ⟨y0, 0, none⟩))) (b3 : A.tmps[3]? = some pl) (b4 : A.tmps[4]? = some (.pointer (some ⟨gx, 0, none⟩)))
    (hy0 : w0.cell? ⟨y0, 0, none⟩ = some (.func (.yield ly) #[] #[])) (hB : ∀ v W, Bt v W → w0.grownBy W none)
    (x0 : w0.cell? ⟨gx, 0, none⟩ = some (.int .i64 b)) (x1 : w0.cell? ⟨gx, 1, none⟩ = some (.slice ro c rc)) (x2 : w0.cell? ⟨gx, 2, none⟩ = some (.int .i64 s))
    (h48 : Calls Tryz.prog 124 #[.agg #[.int .i64 b, .slice ro c rc, .int .i64 s]] w0 fun e W' => ∃ v, e = .returned v ∧ Bt v W')
    (hY : ∀ v W, Bt v W → YieldAt Fence.wide (m - 1) Tryz.prog ly #[pl, v] W fun e W' => ∃ bb, e = .returned (.bool bb) ∧ Out bb W')
    {Q : Exit → Act → World → Prop} (hno : ¬ LetsOut Q)
    (hQ : ∀ a' W' bb, a'.tmps.size = A.tmps.size → a'.defers = A.defers → (∀ s, s ∉ [9, 10, 11, 12, 13, 14] → a'.tmps[s]? = A.tmps[s]?) → a'.tmps[14]? = some (.bool (!bb)) → Out bb W' → Q .normal a' W') :
    wpAnyIn (Fence.wide.inRound r) m Tryz.prog .any ops Q 6 (Array.replicate 6 false) A w0 := by
  have hops2 : ∃ ops', Tryz.f122.body.bind (findRng 4) = some ops' ∧ wpAnyIn (Fence.wide.inRound r) m Tryz.prog .any ops' Q 6 (Array.replicate 6 false) A w0 := by
    refine ⟨_, rfl, ?_⟩
    refine any_order_in (J := J53 A w0 (.func (.yield ly) #[] #[]) pl (.agg #[.int .i64 b, .slice ro c rc, .int .i64 s]) Bt Out) ?size ?step ?stop ?low _ _ _ _ ?init ?count
    case size => exact fun l a w h => h.fr.size
    case low => exact low_of (by kernel_rfl)
    case count => exact leftB_all 6
    case init =>
      have hno : ∀ j, (Array.replicate 6 false).getD j false = true → False := by
        intro j hj
        by_cases h9 : j < 6 <;> simp [h9] at hj
      exact ⟨⟨rfl, rfl, rfl, fun _ _ => rfl⟩, fun h => (hno _ h).elim, fun h => (hno _ h).elim, fun h => (hno _ h).elim, fun h => (hno _ h).elim, fun h => (hno _ h).elim, fun h => (hno _ h).elim, fun _ => rfl, fun h => (hno _ h).elim, fun h => (hno _ h).elim⟩
    case stop =>
      intro l a' w' hJ hall
      obtain ⟨bb, h1, h2, h3⟩ := hJ.sC (hall 4 (by simp))
      exact hQ a' w' bb hJ.fr.room hJ.fr.defers hJ.fr.same (h3 (hall 5 (by simp))) h2
    case step =>
      intro l a' w' q op hJ ho hl hdep
      have hq : q < 6 := by
        have h9 := (Array.getElem?_eq_some_iff.1 ho).1
        simpa using h9
      have e2 := hJ.fr.at b2 (by decide)
      have e3 := hJ.fr.at b3 (by decide)
      have e4 := hJ.fr.at b4 (by decide)
      have hsz := hJ.fr.size
      have hlf : l.getD q false = false := by
        have hl9 : q < l.size := by omega
        simp only [Array.getD_eq_getD_getElem?, Array.getElem?_eq_getElem hl9, Option.getD_some] at hl ⊢
        exact hl
      have bf : ∀ j, l.getD j false ≠ true → l.getD j false = false := fun j h => by cases h9 : l.getD j false with
        | true => exact absurd h9 h
        | false => rfl
      match q, hq with
      | 0, _ =>
        cases ho
        have h4 : l.getD 4 false = false := bf 4 (fun h => by rw [(hJ.d3 h).2.1] at hlf; cases hlf)
        have hc : w'.cell? ⟨y0, 0, none⟩ = some (.func (.yield ly) #[] #[]) := by
          cases h3 : l.getD 3 false with
          | false => rw [hJ.sA h3]; exact hy0
          | true => obtain ⟨v, _, h9⟩ := hJ.sB h3 h4; exact (hB v w' h9).cell hy0 (by simp)
        refine wpOpIn_of_op (fun o ho => by cases ho; rfl) hno (wpOp_step rfl (fun K hK => ?_))
        go_simp
        exact hK _ _ (hJ.quiet hroom 0 (by omega) _ h4 (fun _ => rfl) (fun e => by cases e) (fun e => by cases e))
      | 1, _ =>
        cases ho
        have h4 : l.getD 4 false = false := bf 4 (fun h => by rw [(hJ.d3 h).2.2] at hlf; cases hlf)
        refine wpOpIn_of_op (fun o ho => by cases ho; rfl) hno (wpOp_step rfl (fun K hK => ?_))
        go_simp
        exact hK _ _ (hJ.quiet hroom 1 (by omega) _ h4 (fun e => by cases e) (fun _ => rfl) (fun e => by cases e))
      | 2, _ =>
        cases ho
        have h3 : l.getD 3 false = false := bf 3 (fun h => by rw [hJ.d2 h] at hlf; cases hlf)
        have h4 : l.getD 4 false = false := bf 4 (fun h => by rw [(hJ.d3 h).1] at h3; cases h3)
        obtain rfl := hJ.sA h3
        refine wpOpIn_of_op (fun o ho => by cases ho; rfl) hno (wpOp_step rfl (fun K hK => ?_))
        go_simp
        exact hK _ _ (hJ.quiet hroom 2 (by omega) _ h4 (fun e => by cases e) (fun e => by cases e) (fun _ => rfl))
      | 3, _ =>
        cases ho
        have e11 := hJ.t2 (hdep { on := 2, ground := .data } (by simp) rfl)
        have h4 : l.getD 4 false = false := bf 4 (fun h => by rw [(hJ.d3 h).1] at hlf; cases hlf)
        obtain rfl := hJ.sA hlf
        have hr2 := hdep { on := 2, ground := .data } (by simp) rfl
        refine wpOpIn_of_op (fun o ho => by cases ho; rfl) hno (wpOp_step rfl (fun K hK => ?_))
        go_simp
        go_at_call 124
        refine h48.mono ?_
        rintro e W' ⟨v, rfl, hb⟩
        go_simp
        have hk := hJ.fr.size
        have hoth : ∀ j, j ≠ 3 → (l.setIfInBounds 3 true).getD j false = l.getD j false := fun j hj => getD_other hk (by omega) hj
        have hthr : (l.setIfInBounds 3 true).getD 3 false = true := by rw [getD_set (by omega)]; simp
        have hput : ∀ t, t ≠ 12 → (a'.put (some 12) v).tmps[t]? = a'.tmps[t]? := fun t ht => put_other (Ne.symm ht)
        have hrm := hJ.fr.room
        suffices hN : J53 A w' (.func (.yield ly) #[] #[]) pl (.agg #[.int .i64 b, .slice ro c rc, .int .i64 s]) Bt Out (l.setIfInBounds 3 true) (a'.put (some 12) v) W' from hK _ _ hN
        refine ⟨hJ.fr.put 3 12 v (by simp), fun hl => ?_, fun hl => ?_, fun hl => ?_, fun _ => ?_, fun hl => ?_, fun hl => ?_, fun hl => ?_, fun _ _ => ⟨v, put_self (by omega), hb⟩, fun hl => ?_⟩
        · rw [hoth _ (by omega)] at hl; rw [hput _ (by omega)]; exact hJ.t0 hl
        · rw [hoth _ (by omega)] at hl; rw [hput _ (by omega)]; exact hJ.t1 hl
        · rw [hput _ (by omega)]; exact e11
        · rw [hoth _ (by omega)]; exact hr2
        · rw [hoth _ (by omega), h4] at hl; cases hl
        · rw [hoth _ (by omega)] at hl; have := hJ.d4 hl; rw [h4] at this; cases this
        · rw [hthr] at hl; cases hl
        · rw [hoth _ (by omega), h4] at hl; cases hl
      | 4, _ =>
        cases ho
        have r0 := hdep { on := 0, ground := .data } (by simp) rfl
        have r1 := hdep { on := 1, ground := .data } (by simp) rfl
        have r3 := hdep { on := 3, ground := .data } (by simp) rfl
        have e9 := hJ.t0 r0
        have e10 := hJ.t1 r1
        obtain ⟨v, e12, hbt⟩ := hJ.sB r3 hlf
        obtain ⟨fn, tmps, assign, body, hy, hR⟩ := hY v w' hbt
        have h5 : l.getD 5 false = false := bf 5 (fun h => by rw [hJ.d4 h] at hlf; cases hlf)
        refine wpOpIn_step rfl (fun K hK => ?_)
        go_simp
        refine ⟨fun e => (Bool.false_ne_true e).elim, ?_⟩
        refine RoundIn.mono (show RoundIn (Fence.wide.inRound r) (m - 1) Tryz.prog ly fn tmps assign body w' _ from hR) ?_
        rintro e W' ⟨bb, rfl, hout⟩
        have hk := hJ.fr.size
        have hoth : ∀ j, j ≠ 4 → (l.setIfInBounds 4 true).getD j false = l.getD j false := fun j hj => getD_other hk (by omega) hj
        have hrm := hJ.fr.room
        have hput : ∀ t, t ≠ 13 → (a'.put (some 13) (.bool bb)).tmps[t]? = a'.tmps[t]? := fun t ht => put_other (Ne.symm ht)
        have hfou : (l.setIfInBounds 4 true).getD 4 false = true := by rw [getD_set (by omega)]; simp
        suffices hN : J53 A w0 (.func (.yield ly) #[] #[]) pl (.agg #[.int .i64 b, .slice ro c rc, .int .i64 s]) Bt Out (l.setIfInBounds 4 true) (a'.put (some 13) (.bool bb)) W' from hK _ _ hN
        refine ⟨hJ.fr.put 4 13 _ (by simp), fun hl => ?_, fun hl => ?_, fun hl => ?_, fun hl => ?_, fun hl => ?_, fun hl => ?_, fun hl => ?_, fun hl hl' => ?_, fun hl => ⟨bb, put_self (by omega), hout, fun h9 => ?_⟩⟩
        · rw [hput _ (by omega)]; exact e9
        · rw [hput _ (by omega)]; exact e10
        · rw [hoth _ (by omega)] at hl; rw [hput _ (by omega)]; exact hJ.t2 hl
        · rw [hoth _ (by omega)] at hl ⊢; exact hJ.d2 hl
        · rw [hoth _ (by omega), hoth _ (by omega), hoth _ (by omega)]; exact ⟨r3, r0, r1⟩
        · rw [hoth _ (by omega), h5] at hl; cases hl
        · rw [hoth _ (by omega), r3] at hl; cases hl
        · rw [hfou] at hl'; cases hl'
        · rw [hoth _ (by omega), h5] at h9; cases h9
      | 5, _ =>
        cases ho
        have r4 := hdep { on := 4, ground := .data } (by simp) rfl
        obtain ⟨bb, e13, hout, _⟩ := hJ.sC r4
        refine wpOpIn_of_op (fun o ho => by cases ho; rfl) hno (wpOp_step rfl (fun K hK => ?_))
        go_simp
        have hk := hJ.fr.size
        have hoth : ∀ j, j ≠ 5 → (l.setIfInBounds 5 true).getD j false = l.getD j false := fun j hj => getD_other hk (by omega) hj
        have hrm := hJ.fr.room
        have hput : ∀ t, t ≠ 14 → (a'.put (some 14) (.bool (!bb))).tmps[t]? = a'.tmps[t]? := fun t ht => put_other (Ne.symm ht)
        suffices hN : J53 A w0 (.func (.yield ly) #[] #[]) pl (.agg #[.int .i64 b, .slice ro c rc, .int .i64 s]) Bt Out (l.setIfInBounds 5 true) (a'.put (some 14) (.bool (!bb))) w' from hK _ _ hN
        refine ⟨hJ.fr.put 5 14 _ (by simp), fun hl => ?_, fun hl => ?_, fun hl => ?_, fun hl => ?_, fun hl => ?_, fun hl => ?_, fun hl => ?_, fun hl hl' => ?_, fun hl => ⟨bb, by rw [hput _ (by omega)]; exact e13, hout, fun _ => put_self (by omega)⟩⟩
        · rw [hoth _ (by omega)] at hl; rw [hput _ (by omega)]; exact hJ.t0 hl
        · rw [hoth _ (by omega)] at hl; rw [hput _ (by omega)]; exact hJ.t1 hl
        · rw [hoth _ (by omega)] at hl; rw [hput _ (by omega)]; exact hJ.t2 hl
        · rw [hoth _ (by omega)] at hl ⊢; exact hJ.d2 hl
        · rw [hoth _ (by omega), hoth _ (by omega), hoth _ (by omega)]; rw [hoth _ (by omega)] at hl; exact hJ.d3 hl
        · rw [hoth _ (by omega)]; exact r4
        · rw [hoth _ (by omega)] at hl; exact hJ.sA hl
        · rw [hoth _ (by omega), r4] at hl'; cases hl'
  obtain ⟨ops', h1, h2⟩ := hops2
  rw [hops] at h1
  cases h1
  exact h2
end Go.Proofs.YtlghcboenkglnaaGreatDoor.Rec
