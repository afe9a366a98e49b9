/-
  For every base, lists of records, step and picks the call of SegmentReads returns true and leaves its argument as it was: what is read from any offset is that part of all records. The variable of no spot starts as the program's text lays it, which the card ties. No other condition.
-/
import Derived.Test.YtlghcboenkglnaaGreatDoorCards
import Derived.Test.YtlghcboenkglnaaGreatDoorTie
import Derived.Test.YtlghcboenkglnaaGreatDoorSP
import Derived.ProofKit
import Derived.OpenShut
import Derived.SizedLaws
import Derived.Deep.DeepHandedRow
import Derived.Lib.LaidTab
import Derived.Lib.SmallJoins
import Derived.Stop.LaidErr
namespace Go.Proofs.YtlghcboenkglnaaGreatDoor
open Go.ChangeShapes Go.WideShapes Go.ChangeAt Go.RowKit
open Go.ChangeMaps (open_string shut_string)
set_option linter.unusedVariables false

theorem own : ownKnob Tryz.prog.godebug = none := by kernel_rfl
theorem laidOut : laidOutB Tryz.prog = true := by kernel_rfl
theorem cells90 : Tryz.prog.cellsOf 90 = 4 := by kernel_rfl
theorem gNone : Tryz.prog.globalNamed "millrace/index.none" = some 0 := by kernel_rfl
theorem gNoneType : (Tryz.prog.globals[0]?).map (·.type) = some 138 := by kernel_rfl
theorem cells2 : Tryz.prog.cellsOf 2 = 1 := by kernel_rfl
theorem cells3 : Tryz.prog.cellsOf 3 = 1 := by kernel_rfl
theorem dt_of {W : World} (h : laidMetH Tryz.prog Rows.segmentReadsRow.laid W) : Idx.Dt W := by
  have h1 : laidMet Tryz.prog [("millrace/index.none", .agg [.lit (.int .i64 (-1)), .lit (.int .i64 (-1))])] W := h
  obtain ⟨ps, ⟨g', t', cs, fuel, p, q, hg', ht', hvar, hd, _, _⟩, _⟩ := h1
  obtain rfl := Option.some.inj (gNone.symm.trans hg')
  obtain rfl := Option.some.inj (gNoneType.symm.trans ht')
  obtain ⟨y0, y1, n, hx, _, h0, h1⟩ := Go.ChangeShapes.trod_struct2 Tryz.underlying138 hd
  obtain ⟨z0, e0, rfl, _⟩ := DataW.trod_int Tryz.underlying2 h0
  obtain ⟨z1, e1, rfl, _⟩ := DataW.trod_int Tryz.underlying3 h1
  simp at hx
  obtain ⟨⟨rfl, rfl⟩, _⟩ := hx
  simp [cells2, cells3] at e0 e1
  have v0 := World.var?_cell gNone hvar 0
  have v1 := World.var?_cell gNone hvar 1
  have c0 : cs[0]? = some (.int .i64 (-1)) := by
    have := congrArg (·[0]?) e0
    simpa [List.getElem?_take] using this
  have c1 : cs[1]? = some (.int .i64 (-1)) := by
    have := congrArg (·[0]?) e1
    simpa [List.getElem?_take] using this
  exact ⟨v0.trans c0, v1.trans c1⟩

/-- A block whose cells are these. -/
def holding (cs : Array Value) : Obj → Obj
  | .cells _ t frozen => .cells cs t frozen
  | o => o
noncomputable def laidWorld (os : Os) : World :=
  { World.holding Tryz.prog os ⟨#[], #[], []⟩ with heap := (World.holding Tryz.prog os ⟨#[], #[], []⟩).heap.modify 0 (holding #[.int .i64 (-1), .int .i64 (-1)]) }

section
variable {H : Type} {enc : TypeId × Value → H} {P : Program} {W : World} {base : Nat}
theorem open_ip {t e : TypeId} {ao : Option Addr} {n cap fuel : Nat} {y : DataW H × List MemPlace} (ht : P.underlying t = some (.slice e)) (he : P.underlying e = some (.int .i64)) (hc : P.cellsOf e = 1)
    (h : DataW.trod enc P W base (fun _ => true) true fuel t [Value.slice ao n cap] = some y) : ∃ l, Dsk.Ip W ao n l := by
  have hh : DataW.trod enc P W base (fun _ => true) true fuel t (Value.slice ao n cap).cells.toList = some (y.1, y.2) := h
  rcases open_ints ht he hc hh with ⟨hcs, hx⟩ | ⟨x, l, c, zs, hcs, _, hl, hm, hz, hx, hcell, hwz⟩
  · simp [Value.cells] at hcs
    obtain ⟨rfl, rfl, rfl⟩ := hcs
    exact ⟨[], ⟨rfl, fun i x hx => (by simp at hx)⟩⟩
  · simp [Value.cells] at hcs
    obtain ⟨rfl, rfl, rfl⟩ := hcs
    have hz' : zs.length = cap := by simpa using hz
    refine ⟨zs.take n, ⟨by simp; omega, fun i u hu => ?_⟩⟩
    rw [List.getElem?_take] at hu
    split at hu
    · rename_i hj
      have hjz : i < zs.length := by omega
      have h0 := hcell 0 (by omega)
      have hx0 : x.add 0 = x := by simp [Addr.add]
      rw [hx0] at h0
      obtain ⟨q, f, rfl, _⟩ := addr_of h0
      have h1 := hcell i hjz
      rw [Addr.add_lit] at h1
      refine ⟨q, f, rfl, ?_⟩
      rw [h1]
      simp only [List.getElem?_eq_getElem hjz, Option.some.injEq] at hu
      rw [← hu]
      simp [List.getD, List.getElem?_eq_getElem hjz]
    · cases hu
end
namespace SegmentReadsDone

set_option maxRecDepth 100000 in
theorem contract (H : Type) (enc : TypeId × Value → H) (W : World) (base : Nat) (args : Array Value) (ds gs : List (DataW H)) (before : List MemPlace)
    (hval : ∀ (j : Nat) t v, Tryz.f6.params[j]? = some t → args[j]? = some v → Value.okWide Tryz.prog W .any base t v)
    (hW : DataW.Whole enc Tryz.prog Tryz.f6.params.toList Rows.segmentReadsSpec.vars false W args.toList ds gs before)
    (hsz : (DataW.weightsEach Tryz.prog (Tryz.f6.params.toList ++ Rows.segmentReadsSpec.plain.varTypes Tryz.prog) (ds ++ gs)).all (· ≤ reachBytes) = true) (hL : laidMetH Tryz.prog Rows.segmentReadsRow.laid W) :
    Calls Tryz.prog 6 args W fun e W' => ∃ v, e = .returned v ∧ Rows.segmentReadsSpec.post enc Tryz.prog Tryz.f6 false true false false W args v W' := by
  have hW' := hW
  obtain ⟨p, q, hA0, hV, rfl, hfz, hnd⟩ := hW
  have hA : DataW.TrodAll enc Tryz.prog W 0 (fun _ => true) true Tryz.f6.params.toList args.toList ds p := hA0
  rw [Tryz.params6] at hA hval hsz
  obtain ⟨v0, vs0, d0, ds0, p0, q0, hargs, rfl, rfl, h0, r0⟩ := trodAll_cons hA
  obtain ⟨rfl, rfl, rfl⟩ := trodAll_nil r0
  obtain rfl : args = #[v0] := by cases args; simp_all
  obtain ⟨rfl, rfl⟩ := trodVars_none hV
  have k0 := h0
  have lt0 : ∀ x ∈ p0, x.block < W.heap.size := by obtain ⟨m, hm⟩ := k0; exact DataW.trod_lt m _ _ _ hm
  have w0 : ∀ k ∈ d0.weights Tryz.prog 90, k ≤ reachBytes := fun k hk => of_decide_eq_true (List.all_eq_true.1 hsz k (DataW.weights_mem_each (j := 0) rfl rfl k hk))
  obtain ⟨c0, c1, c2, c3, y0, y1, y2, y3, m, rfl, rfl, rfl, hy0, hy1, hy2, hy3⟩ := open_agg4 Tryz.underlying90 (by kernel_rfl) cells90 (hval 0 90 v0 rfl rfl) h0
  obtain ⟨x, e0, _, wx⟩ := DataW.trod_int Tryz.underlying2 hy0
  simp at e0
  subst e0
  obtain ⟨lo, ln, lc, e1⟩ := Joins.slice_form Tryz.underlying88 hy1
  simp only [List.cons.injEq, and_true] at e1
  subst e1
  obtain ⟨st, e2, _, ws⟩ := DataW.trod_int Tryz.underlying3 hy2
  simp at e2
  subst e2
  obtain ⟨po, pn, pc, e3⟩ := Joins.slice_form Tryz.underlying49 hy3
  simp only [List.cons.injEq, and_true] at e3
  subst e3
  have hw1 : ∀ k ∈ y1.1.weights Tryz.prog 88, k ≤ reachBytes := fun k hk => w0 k (by
    simp only [DataW.weights, Tryz.underlying90, List.map_cons, List.map_nil, DataW.weightsEach, List.mem_append]
    exact Or.inr (Or.inl hk))
  obtain ⟨L, hLL⟩ : ∃ L, Ll W lo ln lc L := open_lists (ao := lo) (n := ln) (cap := lc) (d := y1.1) (p := y1.2) Tryz.underlying88 (by kernel_rfl) Tryz.underlying47 Tryz.underlying148 (by kernel_rfl) rfl rfl rfl (by kernel_rfl) rfl rfl (by kernel_rfl) Tryz.underlying2 Tryz.underlying48 Tryz.underlying5 (by kernel_rfl) (by kernel_rfl) hw1 hy1
  obtain ⟨P, hPi⟩ := open_ip Tryz.underlying49 Tryz.underlying3 (by kernel_rfl) hy3
  have hD := dt_of hL
  have walk := reads_any W x st lo po ln lc pn pc L P hLL hPi hD hD.lt
  clear hA0
  refine walk.mono fun e W' ⟨he, hg⟩ => ?_
  have bel := grownBy_below hg
  subst he
  exact ⟨_, rfl, _, _, _, [], _, [], hW', trodAll_mk1 (shut_bool Tryz.underlying4 _), (trodAll_cons_mk (Below.trod laidOut (by kernel_rfl) (of_decide_eq_true (by kernel_rfl)) k0 bel lt0) trodAll_mk0), rfl, bel.frame _, fun h => by cases h⟩

theorem laid_met (os : Os) : laidMet Tryz.prog Rows.segmentReadsRow.laid ((laidWorld os).forCall (fun _ _ => 0) ⟨#[], #[.agg #[.int .i64 0, .slice none 0 0, .int .i64 0, .slice none 0 0]], []⟩).memory :=
  laidMet_of_run' 8 (by kernel_rfl) (by kernel_rfl)
theorem reads (os : Os) {H : Type} (enc : TypeId × Value → H) : ∃ places, DataW.whole enc Tryz.prog ((laidWorld os).forCall (fun _ _ => 0) ⟨#[], #[.agg #[.int .i64 0, .slice none 0 0, .int .i64 0, .slice none 0 0]], []⟩).memory Tryz.f6.params.toList Rows.segmentReadsSpec.vars false #[Value.agg #[.int .i64 0, .slice none 0 0, .int .i64 0, .slice none 0 0]].toList 8 = some ([.agg [.lit (.int .i64 0), .nil, .lit (.int .i64 0), .nil]], [], places) :=
  ⟨[], by kernel_rfl⟩

set_option maxRecDepth 100000 in
theorem lifted (os : Os) (started : os.Started) (H : Type) (enc : TypeId × Value → H) (F : Stop.Interp) :
    ReturnsInHanded {} Tryz.checked os 6 .any ((OpenSpec.ofChange Rows.segmentReadsSpec).preRow enc Tryz.prog Tryz.f6 Rows.segmentReadsRow.domain false Rows.segmentReadsRow.laid) (((OpenSpec.ofChange Rows.segmentReadsSpec).at F).post enc Tryz.prog Tryz.f6 false true false false) := by
  obtain ⟨places, hx⟩ := reads os enc
  refine returnsInHanded_of_row (C := Tryz.checked) (s := OpenSpec.ofChange Rows.segmentReadsSpec) own started (by kernel_rfl) Tryz.func6
    (witness_row_at (enc := enc) (C := Tryz.checked) false (laidWorld os) #[.agg #[.int .i64 0, .slice none 0 0, .int .i64 0, .slice none 0 0]] rfl (by kernel_rfl) (by kernel_rfl) (by kernel_rfl)
      (OpenSpec.preRow_of_cond 8 hx (by kernel_rfl) (fun k hk => by cases hk) (by kernel_rfl) (laid_met os))) ?_
  intro W base args ds gs before hval hW _ _ hsz hL _ _
  exact contract H enc W base args ds gs before hval hW hsz hL

theorem said : Rows.SegmentReadsSaid :=
  OpenClaim.holds_of_cond 6 Tryz.f6 rfl rfl rfl rfl rfl rfl rfl ⟨rfl, rfl, rfl, rfl, rfl⟩ rfl rfl rfl rfl rfl (by kernel_rfl) Tryz.func6 (by kernel_rfl)
    (of_decide_eq_true (by kernel_rfl)) (by unfold Func.isWrapper; first | (rw [if_pos (by decide +kernel)]; kernel_rfl) | (rw [if_neg (by decide +kernel)]; exact ⟨rfl, rfl⟩))
    (fun os started H enc _ F => by rw [OpenClaim.pre_eq_preRow]; exact lifted os started H enc F)

theorem plain (f : FuncId) (fn : Func) (hf : Tryz.pinned.checked.prog.funcNamed "millrace/millracelaw10.SegmentReads" = some f) (hfn : Tryz.pinned.checked.prog.funcs[f]? = some fn) :
    false = Tryz.pinned.checked.prog.looks [] ∧ ∀ (j : Nat) t, fn.params[j]? = some t → Tryz.pinned.checked.prog.wantsStandIn t = false := by
  obtain rfl : f = 6 := Option.some.inj ((show Tryz.prog.funcNamed "millrace/millracelaw10.SegmentReads" = some 6 by kernel_rfl).symm.trans hf) |>.symm
  obtain rfl : fn = Tryz.f6 := (Option.some.inj (Tryz.func6.symm.trans hfn)).symm
  refine ⟨by kernel_rfl, fun j t ht => ?_⟩
  rw [Tryz.params6] at ht
  have hm : t ∈ [90] := by simpa using Array.mem_of_getElem? ht
  have hall : ([90].all fun u => !Tryz.prog.wantsStandIn u) = true := by kernel_rfl
  exact (show Tryz.prog.wantsStandIn t = false by simpa using List.all_eq_true.1 hall t hm)
end SegmentReadsDone

theorem segmentReads_card : Rows.SegmentReadsCardSaid :=
  Claim7.holds_tied_plain_at .later [] _ _ _ _ SegmentReadsDone.said (fun _ h => by cases h) (by kernel_rfl) (fun _ h => by cases h) segmentReads_row_tie rfl ⟨rfl, rfl⟩ (by kernel_rfl) rfl SegmentReadsDone.plain (by kernel_rfl)
#print axioms segmentReads_card
end Go.Proofs.YtlghcboenkglnaaGreatDoor
