import Derived.Test.YtlghcboenkglnaaGreatDoorZag
import Derived.Test.YtlghcboenkglnaaGreatDoorZai
import Derived.Deep.RegionWith
import Derived.Deep.RegionLaw
import Derived.WalkKit
import Derived.Orders
/-
  appendRecord: the walk.
-/
namespace Go.Proofs.YtlghcboenkglnaaGreatDoor.Rec
open Go.Proofs.YtlghcboenkglnaaGreatDoor
open Go.RowKit
set_option linter.unusedVariables false

/-- A number of eight bytes, as it is put. -/
def i8 (t : Int) : List UInt8 := low (t % 18446744073709551616).toNat 8
/-- A record's bytes. -/
def rby (r : Rc) : List UInt8 := i8 r.t ++ low r.kn 2 ++ low r.vn 2 ++ r.k ++ r.v
theorem i8_len (t : Int) : (i8 t).length = 8 := low_length _ _
theorem wrapU64 (z : Int) : IntKind.u64.wrap z = (((z % 18446744073709551616).toNat : Nat) : Int) := by
  rw [IntKind.wrap_u64]; omega
set_option maxRecDepth 100000 in
set_option maxHeartbeats 4000000 in
theorem appendRecord_any (w : World) (base g n cap : Nat) (l : List UInt8) (r : Rc) (ho : Ow w base 5 (some ⟨g, 0, none⟩) n cap l) (hk : ∀ W, w.grownBy W (some g) → Rk W r) (hroom : n + 12 + r.kn + r.vn ≤ cap) (h1 : r.kn ≤ 65535) (h2 : r.vn ≤ 65535) :
    Calls Tryz.prog 103 #[.slice (some ⟨g, 0, none⟩) n cap, .agg #[.int .i64 r.t, .slice r.ko r.kn r.kc, .slice r.vo r.vn r.vc]] w fun e w' => e = .returned (.slice (some ⟨g, 0, none⟩) (n + (12 + r.kn + r.vn) : Nat) cap) ∧ Ow w' base 5 (some ⟨g, 0, none⟩) (n + (12 + r.kn + r.vn)) cap (l ++ rby r) ∧ w.grownBy w' (some g) := by
  have hgl := (ho.from_base g rfl).2
  have hbase := (ho.from_base g rfl).1
  have hg0 := alloc_grown w (.cells #[.int .i64 r.t, .slice r.ko r.kn r.kc, .slice r.vo r.vn r.vc] 148)
  have b0 : (w.alloc (.cells #[.int .i64 r.t, .slice r.ko r.kn r.kc, .slice r.vo r.vn r.vc] 148)).cell? ⟨w.heap.size, 0, none⟩ = some (.int .i64 r.t) := by simp
  have b1 : (w.alloc (.cells #[.int .i64 r.t, .slice r.ko r.kn r.kc, .slice r.vo r.vn r.vc] 148)).cell? ⟨w.heap.size, 1, none⟩ = some (.slice r.ko r.kn r.kc) := by simp
  have b2 : (w.alloc (.cells #[.int .i64 r.t, .slice r.ko r.kn r.kc, .slice r.vo r.vn r.vc] 148)).cell? ⟨w.heap.size, 2, none⟩ = some (.slice r.vo r.vn r.vc) := by simp
  have hne : w.heap.size ≠ g := by omega
  have hhs : w.heap.size < (w.alloc (.cells #[.int .i64 r.t, .slice r.ko r.kn r.kc, .slice r.vo r.vn r.vc] 148)).heap.size := by simp
  have ho0 := ho.grown hg0
  have hG0 := grown_any hg0 (some g)
  clear ho hg0
  go_enter Tryz.func103, Tryz.ntmps103
  go_wp2_with fail
  generalize w.alloc (.cells #[.int .i64 r.t, .slice r.ko r.kn r.kc, .slice r.vo r.vn r.vc] 148) = w0 at *
  generalize w.heap.size = h0 at *
  have hrow : ∀ {W W' : World}, W.grownBy W' (some g) → ∀ i v, W.cell? ⟨h0, i, none⟩ = some v → W'.cell? ⟨h0, i, none⟩ = some v := fun hg i v h => hg.cell h (by simpa using hne)
  refine (appendI64_any _ none 0 0 r.t _ [] (wrapU64 r.t) (by omega) (Bs.empty _) (by omega)).mono ?_
  rintro e w1 ⟨ao1, c1, rfl, ho1, hg1⟩
  have hG1 := grown_trans hG0 (grown_any hg1 (some g)) (fun k hk => Or.inl hk)
  go_wp2_with (at_builtin; refine wpList_append_room _ rfl _ _ 48 rfl base 5 Tryz.underlying48 Tryz.info5 rfl (ho0.grown hg1) rfl ho1.shows (by omega) ?_)
  intro w2 ho2 hg2
  have hG2 := grown_trans hG1 hg2 (fun k hk => Or.inl hk)
  have c1' := hrow hg2 _ _ (hg1.cell b1 (by simp))
  have c2' := hrow hg2 _ _ (hg1.cell b2 (by simp))
  clear ho1 hg1 hg2 ho0 b0 b1 b2 hG1
  go_wp2_with fail
  refine (appendU16_any _ none 0 0 r.kn [] (Bs.empty _) (by omega) (by omega)).mono ?_
  rintro e w3 ⟨ao3, c3, rfl, ho3, hg3⟩
  have hG3 := grown_trans hG2 (grown_any hg3 (some g)) (fun k hk => Or.inl hk)
  go_wp2_with (at_builtin; refine wpList_append_room _ rfl _ _ 48 rfl base 5 Tryz.underlying48 Tryz.info5 rfl (ho2.grown hg3) rfl ho3.shows (by omega) ?_)
  intro w4 ho4 hg4
  have hG4 := grown_trans hG3 hg4 (fun k hk => Or.inl hk)
  have d1 := hrow hg4 _ _ (hg3.cell c1' (by simp))
  have d2 := hrow hg4 _ _ (hg3.cell c2' (by simp))
  clear ho3 hg3 hg4 ho2 c1' c2' hG3 hG2
  go_wp2_with fail
  refine (appendU16_any _ none 0 0 r.vn [] (Bs.empty _) (by omega) (by omega)).mono ?_
  rintro e w5 ⟨ao5, c5, rfl, ho5, hg5⟩
  have hG5 := grown_trans hG4 (grown_any hg5 (some g)) (fun k hk => Or.inl hk)
  go_wp2_with (at_builtin; refine wpList_append_room _ rfl _ _ 48 rfl base 5 Tryz.underlying48 Tryz.info5 rfl (ho4.grown hg5) rfl ho5.shows (by omega) ?_)
  intro w6 ho6 hg6
  have hG6 := grown_trans hG5 hg6 (fun k hk => Or.inl hk)
  have e1 := hrow hg6 _ _ (hg5.cell d1 (by simp))
  have e2 := hrow hg6 _ _ (hg5.cell d2 (by simp))
  have hk6 := (hk _ hG6).key
  clear ho5 hg5 hg6 ho4 d1 d2 hG5 hG4
  go_wp2_with (at_builtin; refine wpList_append_room _ rfl _ _ 48 rfl base 5 Tryz.underlying48 Tryz.info5 rfl ho6 rfl hk6 (by omega) ?_)
  intro w7 ho7 hg7
  have hG7 := grown_trans hG6 hg7 (fun k hk => Or.inl hk)
  have f2 := hrow hg7 _ _ e2
  have hv7 := (hk _ hG7).value
  clear ho6 hg7 e1 e2 hk6 hG6
  go_wp2_with (at_builtin; refine wpList_append_room _ rfl _ _ 48 rfl base 5 Tryz.underlying48 Tryz.info5 rfl ho7 rfl hv7 (by omega) ?_)
  intro w8 ho8 hg8
  have hG8 := grown_trans hG7 hg8 (fun k hk => Or.inl hk)
  clear ho7 hg8 f2 hv7 hG7
  go_wp2
  go_ret
  have hn : n + 8 + 2 + 2 + r.kn + r.vn = n + (12 + r.kn + r.vn) := by omega
  refine ⟨by rw [← hn]; rfl, ?_, hG8⟩
  rw [← hn]
  simpa [rby, i8, List.append_assoc] using ho8
/-- What stands behind the sum. -/
def bodyB (base : Int) (l : List Rc) : List UInt8 := i8 base ++ low l.length 4 ++ (l.map rby).flatten
/-- A batch's bytes. -/
def batB (base : Int) (l : List Rc) : List UInt8 := low (16 + szs l) 4 ++ low (sm (bodyB base l)) 4 ++ bodyB base l
theorem flat_rby {l : List Rc} {i : Nat} (h : i < l.length) : ((l.take (i + 1)).map rby).flatten = ((l.take i).map rby).flatten ++ rby l[i] := by
  rw [List.take_succ_eq_append_getElem h, List.map_append, List.flatten_append]
  simp
theorem fits_ok {l : List Rc} (h : (fitsR l).2 = 0) : l.all mayR = true ∧ l ≠ [] ∧ l.length ≤ 256 ∧ 20 + szs l ≤ 65536 ∧ (fitsR l).1 = 20 + szs l := by
  unfold fitsR at *
  split at h
  · simp at h
  · split at h
    · simp at h
    · rename_i h1 h2
      rw [if_neg h1, if_neg h2]
      simp only [not_or, Bool.not_eq_false] at h1 h2
      exact ⟨h1.1, h1.2, by omega, by omega, rfl⟩
theorem meas_ok {base : Int} {l : List Rc} (h : (measR base l).2 = 0) : (fitsR l).2 = 0 ∧ offB base l.length = true ∧ measR base l = fitsR l := by
  unfold measR at *
  split at h
  · simp at h
  · rename_i h1
    rw [if_neg h1]
    simp only [not_or, Bool.not_eq_false] at h1
    exact ⟨h, h1.2, rfl⟩
set_option maxRecDepth 100000 in
set_option maxHeartbeats 1000000 in
theorem put_not (w : World) (base : Int) (ao : Option Addr) (n cap : Nat) (l : List Rc) (ha : Rs w ao n cap l) (hs : Small l) (hm : (measR base l).2 ≠ 0) :
    Calls Tryz.prog 60 #[.agg #[.int .i64 base, .slice ao n cap]] w fun e w' => e = .returned (.tuple #[.slice none 0 0, .int .i64 (measR base l).2]) ∧ w.grownBy w' none := by
  have hg0 := alloc_grown w (.cells #[.int .i64 base, .slice ao n cap] 54)
  have hd : ((measR base l).2 != 0) = true := by simpa using hm
  go_enter Tryz.func60, Tryz.ntmps60
  go_wp2_with fail
  refine (measure_any _ base ao n cap l (ha.grown hg0) hs).mono ?_
  rintro e w2 ⟨rfl, hg2⟩
  go_wp2
  go_ret2
  exact ⟨rfl, grown_trans hg0 hg2 (by simp)⟩
end Go.Proofs.YtlghcboenkglnaaGreatDoor.Rec

/-
  cut's blocks; where records stand.
-/
namespace Go.Proofs.YtlghcboenkglnaaGreatDoor.Rec
open Go.Proofs.YtlghcboenkglnaaGreatDoor
open Go.RowKit
set_option linter.unusedVariables false

/-- What the first bytes of a batch say. -/
def sAt (B : List UInt8) : Nat := val ((B.drop 4).take 4)
def bAt (B : List UInt8) : Int := wrap64 (val ((B.drop 8).take 8) : Nat)
def cAt (B : List UInt8) : Nat := val ((B.drop 16).take 4)
/-- The blocks of 'cut': the batch's, the error's, the cutter's. -/
structure Kc (w : World) (z zc : Nat) (bo : Option Addr) (bn bc rb : Nat) (x y e : Value) : Prop where
  b0 : w.cell? ⟨z, 0, none⟩ = some x
  b1 : w.cell? ⟨z, 1, none⟩ = some y
  e0 : w.cell? ⟨z + 1, 0, none⟩ = some e
  c0 : w.cell? ⟨zc, 0, none⟩ = some (.slice bo bn bc)
  c1 : w.cell? ⟨zc, 1, none⟩ = some (.pointer (some ⟨rb, 0, none⟩))
  fb : ∀ i, w.frozen? ⟨z, i, none⟩ = false
  fe : ∀ i, w.frozen? ⟨z + 1, i, none⟩ = false
  lz : z + 1 < w.heap.size
  lc : zc < w.heap.size
theorem Kc.kept {w w' : World} {z zc : Nat} {bo : Option Addr} {bn bc rb : Nat} {x y e : Value} {row : Option Nat} (h : Kc w z zc bo bn bc rb x y e) (hg : w.grownBy w' row) (n0 : some z ≠ row) (n1 : some (z + 1) ≠ row) (n2 : some zc ≠ row) : Kc w' z zc bo bn bc rb x y e :=
  ⟨hg.cell h.b0 n0, hg.cell h.b1 n0, hg.cell h.e0 n1, hg.cell h.c0 n2, hg.cell h.c1 n2, fun i => frozen_kept hg (Nat.lt_of_succ_lt h.lz) (fun e => n0 e.symm) (h.fb i), fun i => frozen_kept hg h.lz (fun e => n1 e.symm) (h.fe i), Nat.lt_of_lt_of_le h.lz hg.size, Nat.lt_of_lt_of_le h.lc hg.size⟩
theorem Kc.set {w : World} {z zc : Nat} {bo : Option Addr} {bn bc rb : Nat} {x y e : Value} (h : Kc w z zc bo bn bc rb x y e) (hz : z + 2 ≤ zc) (v : Value) :
    Kc (w.setCell ⟨z, 0, none⟩ v) z zc bo bn bc rb v y e ∧ Kc (w.setCell ⟨z, 1, none⟩ v) z zc bo bn bc rb x v e ∧ Kc (w.setCell ⟨z + 1, 0, none⟩ v) z zc bo bn bc rb x y v := by
  have hlz := h.lz
  have hlc := h.lc
  refine ⟨⟨?_, ?_, ?_, ?_, ?_, ?_, ?_, ?_, ?_⟩, ⟨?_, ?_, ?_, ?_, ?_, ?_, ?_, ?_, ?_⟩, ⟨?_, ?_, ?_, ?_, ?_, ?_, ?_, ?_, ?_⟩⟩
  all_goals first
    | (rw [World.cell?_setCell_other _ _ _ _ (by simp <;> omega)]; first | exact h.b0 | exact h.b1 | exact h.e0 | exact h.c0 | exact h.c1)
    | exact World.cell?_setCell_same _ _ _ h.b0
    | exact World.cell?_setCell_same _ _ _ h.b1
    | exact World.cell?_setCell_same _ _ _ h.e0
    | (intro i; simpa using h.fb i)
    | (intro i; simpa using h.fe i)
    | exact Nat.lt_of_lt_of_le hlz (setCell_grown _ _ _ _).size
    | exact Nat.lt_of_lt_of_le hlc (setCell_grown _ _ _ _).size
theorem pos_ge (B : List UInt8) (j : Nat) : 20 + 12 * j ≤ posAt B j := by
  induction j with
  | zero => exact Nat.le_refl _
  | succ j ih => unfold posAt; omega
theorem Pc.of1 {w : World} {s : Nat} {ao : Option Addr} {n cap : Nat} {l : List UInt8} (hc : w.cell? ⟨s, 0, none⟩ = some (.slice ao n cap)) (hb : Bs w ao n cap l) : Pc w (some ⟨s, 0, none⟩) 1 1 [l] := by
  refine ⟨rfl, Nat.le_refl _, by decide, (by simp), fun a ha j u hu => ?_⟩
  obtain rfl := Option.some.inj ha
  match j, hu with
  | 0, hu =>
    simp at hu
    subst hu
    exact ⟨ao, n, cap, by simpa [Addr.add] using hc, hb⟩
end Go.Proofs.YtlghcboenkglnaaGreatDoor.Rec

/-
  A region that draws its order, whatever the order: one invariant over what has come up. Nothing here speaks of the program.
-/
namespace Go.Proofs.YtlghcboenkglnaaGreatDoor.Rec
open Go.Proofs.YtlghcboenkglnaaGreatDoor
open Go.RowKit
set_option linter.unusedVariables false

theorem getD_set {l : Array Bool} {i j : Nat} {d : Bool} (hi : i < l.size) : (l.setIfInBounds i true).getD j d = if j = i then true else l.getD j d := by
  by_cases e : j = i
  · subst e; simp [hi]
  · have e' : ¬ i = j := fun h => e h.symm
    simp [e, e']
/-- How many have not come up. -/
def left (l : Array Bool) : Nat := l.toList.countP (fun b => !b)
theorem left_set {l : Array Bool} {i : Nat} (hi : i < l.size) (h : l.getD i true = false) : left (l.setIfInBounds i true) + 1 = left l := by
  unfold left
  have hi' : i < l.toList.length := by simpa using hi
  have hv : l.toList[i] = false := by simpa [hi] using h
  rw [Array.toList_setIfInBounds, List.countP_set hi']
  have hpos : 0 < l.toList.countP (fun b => !b) := List.countP_pos_iff.2 ⟨false, by rw [← hv]; exact List.getElem_mem hi', rfl⟩
  rw [hv]
  show l.toList.countP (fun b => !b) - 1 + 0 + 1 = _
  omega
section
variable {P : Program} {ops : Array Oper} {Q : Exit → Act → World → Prop} {md : Region.Mode}

/-- Whatever the order: an invariant that each operation keeps, once those that it waits for have come up. -/
theorem any_order (J : Array Bool → Act → World → Prop)
    (size : ∀ l a w, J l a w → l.size = ops.size)
    (step : ∀ l a w i o, J l a w → ops[i]? = some o → l.getD i true = false → (∀ e ∈ o.after.toList, Region.binds md e = true → l.getD e.on false = true) → wpOp P ops Q i (fun a' w' => J (l.setIfInBounds i true) a' w') a w)
    (stop : ∀ l a w, J l a w → (∀ i, i < ops.size → l.getD i false = true) → Q .normal a w)
    (low : ∀ (i : Nat) (o : Oper), ops[i]? = some o → ∀ e ∈ o.after.toList, Region.binds md e = true → e.on < i) :
    ∀ fuel l a w, J l a w → left l ≤ fuel → wpAny P md ops Q fuel l a w := by
  have mem : ∀ l i, i ∈ Region.ready md ops l ↔ (i < ops.size ∧ l.getD i true = false ∧ ∃ o, ops[i]? = some o ∧ ∀ e ∈ o.after.toList, Region.binds md e = true → l.getD e.on false = true) := by
    intro l i
    unfold Region.ready
    rw [List.mem_filter, List.mem_range]
    constructor
    · rintro ⟨h1, h2⟩
      rw [Bool.and_eq_true] at h2
      obtain ⟨h3, h4⟩ := h2
      have ho : ops[i]? = some ops[i] := by simp [h1]
      rw [ho] at h4
      simp only [Option.map_some, Option.getD_some] at h4
      refine ⟨h1, by simpa using h3, ops[i], ho, fun e he hb => ?_⟩
      rw [Array.all_eq_true_iff_forall_mem] at h4
      have h5 := h4 e (by simpa using he)
      rw [hb] at h5
      simpa using h5
    · rintro ⟨h1, h2, o, ho, h3⟩
      refine ⟨h1, ?_⟩
      rw [h2, ho]
      simp only [Bool.not_false, Bool.true_and, Option.map_some, Option.getD_some]
      rw [Array.all_eq_true_iff_forall_mem]
      intro e he
      cases hb : Region.binds md e with
      | false => rfl
      | true => rw [h3 e (by simpa using he) hb]; rfl
  have all : ∀ l, l.size = ops.size → Region.ready md ops l = [] → ∀ i, i < ops.size → l.getD i false = true := by
    intro l hs hr i
    induction i using Nat.strongRecOn with
    | _ i ih =>
      intro hi
      cases hv : l.getD i false with
      | true => rfl
      | false =>
        have ht : l.getD i true = false := by
          have hl : i < l.size := by omega
          simp only [Array.getD_eq_getD_getElem?, Array.getElem?_eq_getElem hl, Option.getD_some] at hv ⊢
          exact hv
        have : i ∈ Region.ready md ops l := (mem l i).2 ⟨hi, ht, ops[i], by simp [hi], fun e he hb => ih e.on (low i _ (by simp [hi]) e he hb) (Nat.lt_trans (low i _ (by simp [hi]) e he hb) hi)⟩
        rw [hr] at this
        cases this
  intro fuel
  induction fuel with
  | zero =>
    intro l a w hJ hc
    have hs := size l a w hJ
    have hz : ∀ i, i < ops.size → l.getD i true = true := by
      intro i hi
      cases hv : l.getD i true with
      | true => rfl
      | false => have := left_set (by omega) hv; omega
    have hr : Region.ready md ops l = [] := by
      apply List.eq_nil_iff_forall_not_mem.2
      intro i hi
      obtain ⟨h1, h2, _⟩ := (mem l i).1 hi
      rw [hz i h1] at h2
      cases h2
    exact ⟨hr, stop l a w hJ (all l hs hr)⟩
  | succ fuel ih =>
    intro l a w hJ hc
    have hs := size l a w hJ
    refine ⟨fun hr => stop l a w hJ (all l hs hr), fun i hi => ?_⟩
    obtain ⟨h1, h2, o, ho, h3⟩ := (mem l i).1 hi
    have hl : i < l.size := by omega
    have h4 := left_set hl h2
    exact wpOp_mono (fun a' w' hJ' => ih _ a' w' hJ' (by omega)) (step l a w i o hJ ho h2 h3)
theorem low_of (h : ((List.range ops.size).all fun i => ((ops[i]?).map (·.after.all fun e => !(Region.binds md e) || decide (e.on < i))).getD true) = true) : ∀ (i : Nat) (o : Oper), ops[i]? = some o → ∀ e ∈ o.after.toList, Region.binds md e = true → e.on < i := by
  intro i o ho e he hb
  have hi := (Array.getElem?_eq_some_iff.1 ho).1
  have h1 := List.all_eq_true.1 h i (by simpa using hi)
  rw [ho] at h1
  simp only [Option.map_some, Option.getD_some] at h1
  rw [Array.all_eq_true_iff_forall_mem] at h1
  have h2 := h1 e (by simpa using he)
  rw [hb] at h2
  exact of_decide_eq_true (by simpa using h2)
end
theorem left_all (n : Nat) : left (Array.replicate n false) ≤ n := by
  unfold left
  have h := List.countP_le_length (p := fun b : Bool => !b) (l := (Array.replicate n false).toList)
  simpa using h
/-- The operations of a region. -/
def findReg (id : Nat) : Code → Option (Array Oper)
  | .region i ops _ => if i = id then some ops else none
  | .seq a b => (findReg id a).or (findReg id b)
  | .cond _ a b => (findReg id a).or (findReg id b)
  | .block _ a => findReg id a
  | .loop a => findReg id a
  | .scope a => findReg id a
  | _ => none
/-- A frame that is as it was but at some slots. -/
theorem frame_but (S : List Nat) : ∀ {A B : Array Value}, B.size = A.size → (∀ s, s ∉ S → B[s]? = A[s]?) → B = S.foldl (fun t s => t.setIfInBounds s (B.getD s undef)) A := by
  induction S with
  | nil =>
    intro A B hs h
    apply Array.ext_getElem?
    intro s
    exact h s (by simp)
  | cons d S ih =>
    intro A B hs h
    rw [List.foldl_cons]
    refine ih (by simp [hs]) (fun s hn => ?_)
    by_cases e : s = d
    · subst e
      by_cases hl : s < B.size
      · rw [Array.getElem?_setIfInBounds_self, if_pos (by omega)]
        simp [hl]
      · rw [Array.getElem?_eq_none (by omega), Array.getElem?_eq_none (by simp; omega)]
    · rw [Array.getElem?_setIfInBounds_ne (fun h => e h.symm)]
      exact h s (by simp [e, hn])
/-- The frame within a region: but for the slots S it is A. -/
structure Fr (D : Act) (A : Array Value) (S : List Nat) (k : Nat) (l : Array Bool) (a : Act) : Prop where
  size : l.size = k
  room : a.tmps.size = A.size
  defers : a.defers = D.defers
  same : ∀ s, s ∉ S → a.tmps[s]? = A[s]?
theorem Fr.put {D : Act} {A : Array Value} {S : List Nat} {k : Nat} {l : Array Bool} {a : Act} (h : Fr D A S k l a) (i s : Nat) (v : Value) (hs : s ∈ S) : Fr D A S k (l.setIfInBounds i true) (a.put (some s) v) := by
  refine ⟨by simp [h.size], by simp [Act.put, h.room], h.defers, fun t ht => ?_⟩
  show (a.tmps.setIfInBounds s v)[t]? = _
  have hne : s ≠ t := fun e => ht (by rw [← e]; exact hs)
  rw [Array.getElem?_setIfInBounds_ne hne]
  exact h.same t ht
theorem Fr.skip {D : Act} {A : Array Value} {S : List Nat} {k : Nat} {l : Array Bool} {a : Act} (h : Fr D A S k l a) (i : Nat) : Fr D A S k (l.setIfInBounds i true) a := ⟨by simp [h.size], h.room, h.defers, h.same⟩
theorem Fr.at {D : Act} {A : Array Value} {S : List Nat} {k : Nat} {l : Array Bool} {a : Act} (h : Fr D A S k l a) {s : Nat} {v : Value} (hv : A[s]? = some v) (hs : s ∉ S) : a.tmps[s]? = some v := (h.same s hs).trans hv
/-- What those operations that came up have left in their slots, where it is said. -/
def Tv (sl : Nat → Option Nat) (vals : Nat → Option Value) (l : Array Bool) (a : Act) : Prop := ∀ i, l.getD i false = true → ∀ s v, sl i = some s → vals i = some v → a.tmps[s]? = some v
theorem Tv.put {D : Act} {A : Array Value} {S : List Nat} {k : Nat} {sl : Nat → Option Nat} {vals : Nat → Option Value} {l : Array Bool} {a : Act} (hF : Fr D A S k l a) (h : Tv sl vals l a) (hinj : ∀ i j s, sl i = some s → sl j = some s → i = j) (hlt : ∀ i s, sl i = some s → s < A.size) (i s : Nat) (hi : i < k) (hs : sl i = some s) (u : Value) (hu : ∀ v, vals i = some v → u = v) : Tv sl vals (l.setIfInBounds i true) (a.put (some s) u) := by
  intro j hj t v ht hv
  show (a.tmps.setIfInBounds s u)[t]? = _
  by_cases e : j = i
  · subst e
    rw [hs] at ht
    cases ht
    rw [Array.getElem?_setIfInBounds_self, hu v hv, if_pos (by rw [hF.room]; exact hlt _ _ hs)]
  · rw [getD_set (by rw [hF.size]; exact hi), if_neg e] at hj
    have hne : s ≠ t := fun h9 => e (hinj j i t ht (by rw [← h9]; exact hs))
    rw [Array.getElem?_setIfInBounds_ne hne]
    exact h j hj t v ht hv
theorem Tv.skip {D : Act} {A : Array Value} {S : List Nat} {k : Nat} {sl : Nat → Option Nat} {vals : Nat → Option Value} {l : Array Bool} {a : Act} (hF : Fr D A S k l a) (h : Tv sl vals l a) (i : Nat) (hi : i < k) (hs : sl i = none) : Tv sl vals (l.setIfInBounds i true) a := by
  intro j hj t v ht hv
  by_cases e : j = i
  · subst e; rw [hs] at ht; cases ht
  · rw [getD_set (by rw [hF.size]; exact hi), if_neg e] at hj
    exact h j hj t v ht hv
theorem getD_other {l : Array Bool} {i j k : Nat} (hk : l.size = k) (hi : i < k) (hne : j ≠ i) : (l.setIfInBounds i true).getD j false = l.getD j false := by
  rw [getD_set (by omega), if_neg hne]
theorem put_other {a : Act} {s t : Nat} {u : Value} (h : s ≠ t) : (a.put (some s) u).tmps[t]? = a.tmps[t]? := by
  show (a.tmps.setIfInBounds s u)[t]? = _
  exact Array.getElem?_setIfInBounds_ne h
theorem put_self {a : Act} {s : Nat} {u : Value} (h : s < a.tmps.size) : (a.put (some s) u).tmps[s]? = some u := by
  show (a.tmps.setIfInBounds s u)[s]? = _
  rw [Array.getElem?_setIfInBounds_self, if_pos h]
end Go.Proofs.YtlghcboenkglnaaGreatDoor.Rec

/-
  cut's region 8 (a record more), whatever the order.
-/
namespace Go.Proofs.YtlghcboenkglnaaGreatDoor.Rec
open Go.Proofs.YtlghcboenkglnaaGreatDoor
open Go.RowKit
set_option linter.unusedVariables false

def sl8 : Nat → Option Nat
  | 0 => some 27 | 1 => some 28 | 2 => some 29 | 3 => some 30 | 4 => some 31 | 5 => some 32 | 6 => some 33 | _ => none
theorem sl8_lt {i s : Nat} (h : sl8 i = some s) : i < 7 ∧ s = 27 + i := by
  unfold sl8 at h
  split at h <;> simp_all
theorem sl8_inj (i j s : Nat) (hi : sl8 i = some s) (hj : sl8 j = some s) : i = j := by
  have h1 := sl8_lt hi
  have h2 := sl8_lt hj
  omega
def vals8 (z : Nat) (y c : Value) : Nat → Option Value
  | 0 => some (.pointer (some ⟨z, 1, none⟩)) | 1 => some y | 2 => some c | 6 => some (.pointer (some ⟨z, 1, none⟩)) | _ => none
/-- A record was cut out. -/
structure Pst (w0 : World) (bb oo bn bc rb g : Nat) (B : List UInt8) (i : Nat) (r : Rc) (w : World) : Prop where
  cut : Cut w (some ⟨bb, oo, none⟩) bc B (posAt B i) r
  ct : Ct w (some ⟨bb, oo, none⟩) bn bc rb g B (posAt B (i + 1))
  gr : w0.grownBy w (some rb)
/-- How far the region has come. -/
inductive St8 (w0 : World) (z bb oo bn bc rb g base : Nat) (B : List UInt8) (i : Nat) (ro : Option Addr) (rs : List Rc) (l : Array Bool) (a : Act) (w : World) : Prop
  | A (h3 : l.getD 3 false = false) (h4 : l.getD 4 false = false) (h5 : l.getD 5 false = false) (h7 : l.getD 7 false = false) (hw : w = w0)
  | B (h3 : l.getD 3 false = true) (h4 : l.getD 4 false = false) (h5 : l.getD 5 false = false) (h7 : l.getD 7 false = false) (r : Rc) (hs : a.tmps[30]? = some (.agg #[.int .i64 r.t, .slice r.ko r.kn r.kc, .slice r.vo r.vn r.vc])) (hp : Pst w0 bb oo bn bc rb g B i r w)
  | C (h3 : l.getD 3 false = true) (h4 : l.getD 4 false = true) (h5 : l.getD 5 false = false) (h7 : l.getD 7 false = false) (r : Rc) (w2 : World) (hp : Pst w0 bb oo bn bc rb g B i r w2) (hw : w = w2.alloc (.cells #[.int .i64 r.t, .slice r.ko r.kn r.kc, .slice r.vo r.vn r.vc] 148)) (hs : a.tmps[31]? = some (.slice (some ⟨w2.heap.size, 0, none⟩) 1 1))
  | D (h3 : l.getD 3 false = true) (h4 : l.getD 4 false = true) (h5 : l.getD 5 false = true) (h7 : l.getD 7 false = false) (r : Rc) (w2 : World) (ro' : Option Addr) (rc' : Nat) (hp : Pst w0 bb oo bn bc rb g B i r w2) (hg : (w2.alloc (.cells #[.int .i64 r.t, .slice r.ko r.kn r.kc, .slice r.vo r.vn r.vc] 148)).grownBy w (blk ro)) (hR : Rw w base ro' (i + 1) rc' (rs ++ [r])) (hs : a.tmps[32]? = some (.slice ro' (i + 1) rc'))
  | E (h3 : l.getD 3 false = true) (h4 : l.getD 4 false = true) (h5 : l.getD 5 false = true) (h7 : l.getD 7 false = true) (r : Rc) (w2 : World) (ro' : Option Addr) (rc' : Nat) (w4 : World) (hp : Pst w0 bb oo bn bc rb g B i r w2) (hg : (w2.alloc (.cells #[.int .i64 r.t, .slice r.ko r.kn r.kc, .slice r.vo r.vn r.vc] 148)).grownBy w4 (blk ro)) (hR : Rw w4 base ro' (i + 1) rc' (rs ++ [r])) (hw : w = w4.setCell ⟨z, 1, none⟩ (.slice ro' (i + 1) rc'))
structure J8 (A0 : Act) (w0 : World) (z bb oo bn bc rb g base : Nat) (B : List UInt8) (i : Nat) (ro : Option Addr) (rc : Nat) (rs : List Rc) (l : Array Bool) (a : Act) (w : World) : Prop where
  fr : Fr A0 A0.tmps [27, 28, 29, 30, 31, 32, 33] 8 l a
  tv : Tv sl8 (vals8 z (.slice ro i rc) (.agg #[.slice (some ⟨bb, oo, none⟩) bn bc, .pointer (some ⟨rb, 0, none⟩)])) l a
  d1 : l.getD 5 false = true → l.getD 1 false = true
  d2 : l.getD 3 false = true → l.getD 2 false = true
  d3 : l.getD 7 false = true → l.getD 1 false = true
  st : St8 w0 z bb oo bn bc rb g base B i ro rs l a w
theorem St8.quiet {w0 : World} {z bb oo bn bc rb g base : Nat} {B : List UInt8} {i : Nat} {ro : Option Addr} {rs : List Rc} {l : Array Bool} {a : Act} {w : World} (h : St8 w0 z bb oo bn bc rb g base B i ro rs l a w) (hsz : l.size = 8) (q s : Nat) (hq : q < 8) (hn : q ≠ 3 ∧ q ≠ 4 ∧ q ≠ 5 ∧ q ≠ 7) (hs : s ≠ 30 ∧ s ≠ 31 ∧ s ≠ 32) (u : Value) : St8 w0 z bb oo bn bc rb g base B i ro rs (l.setIfInBounds q true) (a.put (some s) u) w := by
  have o := fun j (hj : j ≠ q) => getD_other (l := l) (i := q) (j := j) hsz hq hj
  have e3 := o 3 (fun e => hn.1 e.symm)
  have e4 := o 4 (fun e => hn.2.1 e.symm)
  have e5 := o 5 (fun e => hn.2.2.1 e.symm)
  have e7 := o 7 (fun e => hn.2.2.2 e.symm)
  have p30 := put_other (a := a) (u := u) hs.1
  have p31 := put_other (a := a) (u := u) hs.2.1
  have p32 := put_other (a := a) (u := u) hs.2.2
  cases h with
  | A h3 h4 h5 h7 hw => exact .A (e3.trans h3) (e4.trans h4) (e5.trans h5) (e7.trans h7) hw
  | B h3 h4 h5 h7 r hs hp => exact .B (e3.trans h3) (e4.trans h4) (e5.trans h5) (e7.trans h7) r (p30.trans hs) hp
  | C h3 h4 h5 h7 r w2 hp hw hs => exact .C (e3.trans h3) (e4.trans h4) (e5.trans h5) (e7.trans h7) r w2 hp hw (p31.trans hs)
  | D h3 h4 h5 h7 r w2 ro' rc' hp hg hR hs => exact .D (e3.trans h3) (e4.trans h4) (e5.trans h5) (e7.trans h7) r w2 ro' rc' hp hg hR (p32.trans hs)
  | E h3 h4 h5 h7 r w2 ro' rc' w4 hp hg hR hw => exact .E (e3.trans h3) (e4.trans h4) (e5.trans h5) (e7.trans h7) r w2 ro' rc' w4 hp hg hR hw
theorem J8.quiet {A0 : Act} {w0 : World} {z bb oo bn bc rb g base : Nat} {B : List UInt8} {i : Nat} {ro : Option Addr} {rc : Nat} {rs : List Rc} {l : Array Bool} {a : Act} {w : World} (hA : A0.tmps.size = 50) (h : J8 A0 w0 z bb oo bn bc rb g base B i ro rc rs l a w) (q s : Nat) (hs : sl8 q = some s) (hq : q = 0 ∨ q = 1 ∨ q = 2 ∨ q = 6) (u : Value) (hu : ∀ v, vals8 z (.slice ro i rc) (.agg #[.slice (some ⟨bb, oo, none⟩) bn bc, .pointer (some ⟨rb, 0, none⟩)]) q = some v → u = v) : J8 A0 w0 z bb oo bn bc rb g base B i ro rc rs (l.setIfInBounds q true) (a.put (some s) u) w := by
  have h1 := sl8_lt hs
  have hsz := h.fr.size
  have m : ∀ j, l.getD j false = true → (l.setIfInBounds q true).getD j false = true := fun j hj => by
    rw [getD_set (by omega)]
    split
    · rfl
    · exact hj
  have o := fun j (hj : j ≠ q) => getD_other (l := l) (i := q) (j := j) hsz (by omega) hj
  refine ⟨h.fr.put q s u (by rw [h1.2]; rcases hq with rfl | rfl | rfl | rfl <;> decide), Tv.put h.fr h.tv sl8_inj (fun i s hs => by have := sl8_lt hs; omega) q s (by omega) hs u hu, ?_, ?_, ?_, h.st.quiet hsz q s (by omega) (by omega) (by omega) u⟩
  · rw [o 5 (by omega)]; exact fun h9 => m _ (h.d1 h9)
  · rw [o 3 (by omega)]; exact fun h9 => m _ (h.d2 h9)
  · rw [o 7 (by omega)]; exact fun h9 => m _ (h.d3 h9)
end Go.Proofs.YtlghcboenkglnaaGreatDoor.Rec
