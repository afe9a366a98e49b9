/-
  stops: of no disk nothing is told.
-/
import Derived.Test.YtgkeflgfnagnjaaZax
import Derived.Test.YtgkeflgfnagnjaaOE
namespace Go.Proofs.Ytgkeflgfnagnjaa
open Go.RowKit Go.Shelf
set_option linter.unusedVariables false
set_option maxRecDepth 100000
attribute [local go_sem] Oper.semAt_some

theorem run_equalIn_fn (w : World) (d : Nat) (t : TypeId) (ps rs : Array TypeId) (vd : Bool) (ht : Try.prog.underlying t = some (.func ps rs vd)) (fn : Fn) (fi ca : Array Value) : (Op.equalIn (d + 1) t (.func fn fi ca) .nilFunc).run Try.prog w = .ok false w := by
  simp [Op.equalIn, run_underlying ht]
theorem run_equal_fn (w : World) (t : TypeId) (ps rs : Array TypeId) (vd : Bool) (ht : Try.prog.underlying t = some (.func ps rs vd)) (fn : Fn) (fi ca : Array Value) : (Op.equal t (.func fn fi ca) .nilFunc).run Try.prog w = .ok false w := run_equalIn_fn w 9999 t ps rs vd ht fn fi ca
theorem run_eql_fn (w : World) (t : TypeId) (ps rs : Array TypeId) (vd : Bool) (ht : Try.prog.underlying t = some (.func ps rs vd)) (fn : Fn) (fi ca : Array Value) : (binOp .eql t (.func fn fi ca) .nilFunc).run Try.prog w = .ok (.bool false) w := by
  simp only [binOp]
  simp [run_equal_fn w t ps rs vd ht fn fi ca]
theorem results_boolO {fn : Func} {p : Tmp} (h : fn.results = #[.cell p 4]) (tmps : Array Value) (w : World) (g : Nat) (b : Bool) (hp : tmps.getD p undef = .pointer (some ⟨g, 0, none⟩)) (hc : w.cell? ⟨g, 0, none⟩ = some (.bool b)) : (results fn tmps).run Try.prog w = .ok (.bool b) w := by
  simp only [results, h]
  have hp' : tmps[p]?.getD undef = .pointer (some ⟨g, 0, none⟩) := by simpa using hp
  simp [Sem.run_bind, Result.andThen, hp', asAddr, loadVar, go_sem, hc]
theorem Ib.own {w w' : World} {za zd zl zt : Nat} {row : Option Nat} (h : Ib w za zd zl zt) (hg : w.grownBy w' row) (hr : ∀ r, row = some r → ∃ o : Obj, w.heap[r]? = some o ∧ o.isCells = false) : Ib w' za zd zl zt :=
  ⟨box_own h.a hg hr, box_own h.d hg hr, ⟨box_own h.n.l hg hr, box_own h.n.t hg hr⟩⟩
set_option maxHeartbeats 8000000 in
theorem none_any {w : World} {p : Option Addr} (h : No w p) (o : Option Addr) (n c : Nat) (N : Int) : Calls Try.prog 29 #[.pointer p, .slice o n c, .int .i64 N] w fun e w' => e = .returned (.bool true) ∧ w.grownBy w' none := by
  have ga := aGrown w (.cells #[.bool false] 4)
  have b1 := Boxed.new w 4 (.bool false)
  refine (callsIn_wide (n := 5)).1 ?_
  refine callsIn_of_wp_marks Try.func29 rfl trivial ?_
  simp only [Try.ntmps29, List.size_toArray, List.length_cons, List.length_nil, Nat.reduceAdd, Nat.reduceSub, Array.replicate_succ, Array.replicate_zero, List.push_toArray, List.append_toArray, List.nil_append, List.cons_append]
  gi_wp2_with fail
  obtain ⟨r, hr⟩ : ∃ r, w.heap.size = r := ⟨_, rfl⟩
  rw [hr] at b1
  simp only [hr]
  have hrl : HidO (w.heap.size = r) := hr
  clear hr
  generalize w.alloc (.cells #[.bool false] 4) = w1 at *
  refine ⟨trivial, callsIn_wide.2 ((count_no (h.grown ga)).mono ?_)⟩
  rintro e w2 ⟨rfl, hg⟩
  have hG2 := grown_trans ga hg (by simp)
  have b2 := box_own b1 hg (fun r e => by cases e)
  clear hg ga b1
  gi_wp2_with fail
  refine ⟨trivial, callsIn_wide.2 ((plain_no (h.grown hG2) o n c).mono ?_)⟩
  rintro e w3 ⟨rfl, hg⟩
  have gz := aGrown w3 (.cells #[.slice none 0 0] 35)
  have bp := Boxed.new w3 35 (.slice none 0 0)
  have hgz := grown_trans hg gz (by simp)
  have hG3 := grown_trans hG2 hgz (by simp)
  have b3 := box_own b2 hgz (fun r e => by cases e)
  clear hg gz hgz b2 hG2
  gi_wp2_with fail
  generalize w3.alloc (.cells #[.slice none 0 0] 35) = w4 at *
  generalize w3.heap.size = zp at *
  refine ⟨trivial, callsIn_wide.2 ((number_no (h.grown hG3) o n c).mono ?_)⟩
  rintro e w5 ⟨rfl, hg⟩
  have hG5 := grown_trans hG3 hg (by simp)
  have b5 := box_own b3 hg (fun r e => by cases e)
  have bp5 := box_own bp hg (fun r e => by cases e)
  clear hg b3 bp hG3
  gi_wp2_with fail
  refine ⟨trivial, callsIn_wide.2 ((sat_no (h.grown hG5) N).mono ?_)⟩
  rintro e w6 ⟨rfl, hg⟩
  have gz := aGrown w6 (.cells #[.slice none 0 0] 35)
  have bs := Boxed.new w6 35 (.slice none 0 0)
  have hgz := grown_trans hg gz (by simp)
  have hG7 := grown_trans hG5 hgz (by simp)
  have b7 := box_own b5 hgz (fun r e => by cases e)
  have bp7 := box_own bp5 hgz (fun r e => by cases e)
  clear hg gz hgz b5 bp5 hG5
  gi_wp2_with fail
  generalize w6.alloc (.cells #[.slice none 0 0] 35) = w7 at *
  generalize w6.heap.size = zs at *
  refine ⟨trivial, callsIn_wide.2 ((least_no (h.grown hG7)).mono ?_)⟩
  rintro e w8 ⟨rfl, hg⟩
  have hG8 := grown_trans hG7 hg (by simp)
  have b8 := box_own b7 hg (fun r e => by cases e)
  have bp8 := box_own bp7 hg (fun r e => by cases e)
  have bs8 := box_own bs hg (fun r e => by cases e)
  clear hg b7 bp7 bs hG7
  gi_wp2_with fail
  refine ⟨trivial, callsIn_wide.2 ((most_no (h.grown hG8)).mono ?_)⟩
  rintro e w9 ⟨rfl, hg⟩
  have hG9 := grown_trans hG8 hg (by simp)
  have b9 := box_own b8 hg (fun r e => by cases e)
  have bp9 := box_own bp8 hg (fun r e => by cases e)
  have bs9 := box_own bs8 hg (fun r e => by cases e)
  clear hg b8 bp8 bs8 hG8
  gi_wp2_with fail
  refine ⟨trivial, callsIn_wide.2 ((sall_no (h.grown hG9)).mono ?_)⟩
  rintro e w10 ⟨zl, zt, rfl, hN, hg⟩
  have hG10 := grown_trans hG9 hg (by simp)
  have b10 := box_own b9 hg (fun r e => by cases e)
  have bp10 := box_own bp9 hg (fun r e => by cases e)
  have bs10 := box_own bs9 hg (fun r e => by cases e)
  clear hg b9 bp9 bs9 hG9
  gi_wp2_with fail
  refine ⟨trivial, callsIn_wide.2 ((images_no (h.grown hG10)).mono ?_)⟩
  rintro e w11 ⟨za, zd, zl2, zt2, rfl, hI, hg⟩
  have hG := grown_trans hG10 hg (by simp)
  have b11 := box_own b10 hg (fun r e => by cases e)
  have bp11 := box_own bp10 hg (fun r e => by cases e)
  have bs11 := box_own bs10 hg (fun r e => by cases e)
  have hN11 := hN.grown hg
  clear hg b10 bp10 bs10 hG10 hN h
  have heq1 := fun W => run_eql_fn W 45 _ _ _ Try.underlying45 (.func 49) #[] #[.pointer (some ⟨zl, 0, none⟩), .pointer (some ⟨zt, 0, none⟩)]
  have heq2 := fun W => run_eql_fn W 48 _ _ _ Try.underlying48 (.func 54) #[] #[.pointer (some ⟨za, 0, none⟩), .pointer (some ⟨zd, 0, none⟩)]
  gi_wp2_with fail
  clear heq1 heq2
  apply wpIn_rangeFunc_told (α := Empty) (encs := Empty.elim) (Kp := fun _ _ => True) (w0 := w11) rfl (by decide) (gf := 49) (lb := #[.pointer (some ⟨zl, 0, none⟩), .pointer (some ⟨zt, 0, none⟩)]) rfl trivial (enters_of Try.func49 (by kernel_rfl) rfl)
    (sall1_none 4 w11 zl zt hN11) (fun _ _ => trivial) (fun _ _ _ _ _ _ _ _ => trivial) (Below.refl _ _) (fun x => x.elim)
    (fun pre W => Boxed W r 4 (.bool false) ∧ Boxed W zp 35 (.slice none 0 0) ∧ Boxed W zs 35 (.slice none 0 0) ∧ Ib W za zd zl2 zt2 ∧ w.grownBy W none)
    (fun _ _ _ => False)
    (fun s A B row hs hg hr => ⟨box_own hs.1 hg (fun r e => (hr r e).2), box_own hs.2.1 hg (fun r e => (hr r e).2), box_own hs.2.2.1 hg (fun r e => (hr r e).2), hs.2.2.2.1.own hg (fun r e => (hr r e).2), grown_trans hs.2.2.2.2 hg (fun k e => Or.inr (by have := (hr k e).1; have := hG.size; omega))⟩)
    (fun cd s A B row hs hg hr => hs.elim)
    ⟨b11, bp11, bs11, hI, hG⟩
    (fun _ _ _ _ => False)
  case hAx => intro pre x; exact x.elim
  case hassign => intro pre x; exact x.elim
  case hbody => intro pre x; exact x.elim
  case hstop =>
    intro D cd pre W _ hf
    exact hf.elim
  case hdone =>
    clear hN11 b11 bp11 bs11 hI
    rintro D xs W hD _ ⟨b12, bp12, bs12, hI, hG12⟩ hK
    have hDW := (Array.getElem?_eq_some_iff.1 hK).1
    have hDw : w.heap.size ≤ D := Nat.le_trans hG.size hD
    clear hG hD
    gi_wp2_with fail
    apply wpIn_rangeFunc_keeps (α := Empty) (encs := Empty.elim) (Kp := fun _ _ => True) (w0 := W) rfl (by decide) (gf := 54) (lb := #[.pointer (some ⟨za, 0, none⟩), .pointer (some ⟨zd, 0, none⟩)]) rfl trivial (enters_of Try.func54 (by kernel_rfl) rfl)
      (images1_none 4 (by decide) W za zd zl2 zt2 hI) (fun _ _ => trivial) (fun _ _ _ _ _ _ _ _ => trivial) (Below.refl _ _) (fun x => x.elim)
      (fun pre V => Boxed V r 4 (.bool false) ∧ Boxed V zp 35 (.slice none 0 0) ∧ Boxed V zs 35 (.slice none 0 0) ∧ V.heap[D]? = some (.deferred (some [])) ∧ w.grownBy V none)
      (fun _ _ _ => False)
      (fun s A B row hs hg hr => ⟨box_own hs.1 hg (fun r e => (hr r e).2), box_own hs.2.1 hg (fun r e => (hr r e).2), box_own hs.2.2.1 hg (fun r e => (hr r e).2), heap_kept hg hs.2.2.2.1 (fun e => by have := (hr D e.symm).1; omega), grown_trans hs.2.2.2.2 hg (fun k e => Or.inr (by have := (hr k e).1; have := hG12.size; omega))⟩)
      (fun cd s A B row hs hg hr => hs.elim)
      ⟨b12, bp12, bs12, hK, hG12⟩
      (fun _ _ _ _ => False)
    case hAx => intro pre x; exact x.elim
    case hassign => intro pre x; exact x.elim
    case hbody => intro pre x; exact x.elim
    case hstop =>
      intro D2 cd pre V _ hf
      exact hf.elim
    case hdone =>
      clear b12 bp12 bs12 hI hK
      rintro D2 ys V hD2 _ ⟨b13, bp13, bs13, hK, hG13⟩ hK2
      have k0 := b13.cell
      have kf := b13.frozen
      have k1 := bp13.cell
      have k2 := bs13.cell
      have b14 := b13.set (.bool true)
      have hc := setCell_chg V r 0 (.bool true)
      have hg14 : w.grownBy (V.setCell ⟨r, 0, none⟩ (.bool true)) none := ((Chg.of_grown hG13 _).trans hc).grown (fun q hq e => by have h9 : q = r := e; have := hrl.out; omega)
      have hrD : ∀ D, V.heap[D]? = some (.deferred (some [])) → D ≠ r := fun D h e => by subst e; rw [show V.heap[D]? = _ from b13] at h; cases h
      have e2 : (V.setCell ⟨r, 0, none⟩ (.bool true)).heap[D2]? = some (.deferred (some [])) := (Below.heap_setCell _ _ _ _ (hrD D2 hK2)).trans hK2
      have e1 : (V.setCell ⟨r, 0, none⟩ (.bool true)).heap[D]? = some (.deferred (some [])) := (Below.heap_setCell _ _ _ _ (hrD D hK)).trans hK
      have hww : w.heap.size ≤ D2 := Nat.le_trans hG12.size hD2
      have hDD : D ≠ D2 := by omega
      gi_wp2
      refine ⟨by simp, .inl ⟨_, _, rfl, run_takeDeferred e2, ?_⟩⟩
      have po := grownBy_putObj' (V.setCell ⟨r, 0, none⟩ (.bool true)) D2 (.deferred none)
      have e1' := heap_kept po e1 (by simp; omega)
      refine ⟨by simp, .inl ⟨_, _, rfl, run_takeDeferred e1', ?_⟩⟩
      have po2 := grownBy_putObj' ((V.setCell ⟨r, 0, none⟩ (.bool true)).putObj D2 (.deferred none)) D (.deferred none)
      have hb10 := box_own (box_own b14 po (fun r e => by cases e; exact ⟨_, e2, rfl⟩)) po2 (fun r e => by cases e; exact ⟨_, e1', rfl⟩)
      exact ⟨_, results_boolO (fn := Try.f29) rfl _ _ _ _ rfl hb10.cell, rfl, grown_trans (grown_trans hg14 po (fun k e => Or.inr (by cases e; omega))) po2 (fun k e => Or.inr (by cases e; omega))⟩
end Go.Proofs.Ytgkeflgfnagnjaa
