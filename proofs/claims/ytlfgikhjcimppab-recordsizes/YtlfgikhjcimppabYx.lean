import Derived.Test.YtlfgikhjcimppabI5
import Derived.RangeFuncNested
import Derived.RangeFuncBound
import Derived.RangeFuncCalls
import Derived.RangeFuncLeaves
import Derived.Shelf.Abstract
import Derived.OwnWalkIn
import Derived.TacticsInMore
import Derived.LoopNIn
import Derived.LoopIn
import Derived.Shelf.RegionOpen
import Derived.WalkKit
import Derived.Test.YtlfgikhjcimppabOrd
import Derived.OrdersIn
import Derived.Deep.RegionHeld3

/-
  wholes: its closure as an iterator.
-/
namespace Go.Proofs.Ytlfgikhjcimppab
open Go.RowKit Go.Shelf
set_option linter.unusedVariables false
attribute [local go_sem] Oper.semAt_some

/-- What a round is handed: a place, and the batch that stands there. -/
structure Wx where
  p : Nat
  b : Int
  ro : Option Addr
  c : Nat
  rc : Nat
  s : Nat
def wenc (x : Wx) : Array Value := #[.int .i64 x.p, .agg #[.int .i64 x.b, .slice x.ro x.c x.rc, .int .i64 x.s]]
/-- Batches one behind the other, each as it was handed. -/
inductive Run (L : List UInt8) (i : Nat) : List Wx → Nat → Prop
  | nil : Run L i [] 0
  | snoc {ys : List Wx} {Z S : Nat} {x : Wx} : Run L i ys Z → extR (L.drop (i + Z)) = (S, 0) → Whole ((L.drop (i + Z)).take S) S → x.p = i + Z → x.c = cAt ((L.drop (i + Z)).take S) → x.s = S → Run L i (ys ++ [x]) (Z + S)
theorem Run.ch {L : List UInt8} {i Z : Nat} {ys : List Wx} (h : Run L i ys Z) : Ch L i ys.length (ys.map (·.c)).sum Z ∧ (ys.map (·.s)).sum = Z := by
  induction h with
  | nil => exact ⟨Ch.nil, rfl⟩
  | @snoc ys Z S x h1 h2 h3 h4 h5 h6 ih =>
    refine ⟨?_, by simp [ih.2, h6]⟩
    have h9 := Ch.snoc ih.1 h2 h3
    simp only [List.length_append, List.length_cons, List.length_nil, List.map_append, List.map_cons, List.map_nil, List.sum_append, List.sum_cons, List.sum_nil, h5, Nat.add_zero]
    exact h9
theorem Run.le {L : List UInt8} {i Z : Nat} {ys : List Wx} (h : Run L i ys Z) : 32 * ys.length ≤ Z := by
  induction h with
  | nil => simp
  | @snoc ys Z S x h1 h2 h3 h4 h5 h6 ih =>
    have := h3.low
    simp
    omega
/-- All blocks of cells but one are kept. -/
structure Kz (q : Nat) (W W' : World) : Prop where
  size : W.heap.size ≤ W'.heap.size
  same : ∀ (k : Nat) (o : Obj), W.heap[k]? = some o → o.isCells = true → k ≠ q → W'.heap[k]? = some o
theorem Kz.trans {q : Nat} {A B C : World} (h : Kz q A B) (h' : Kz q B C) : Kz q A C := ⟨Nat.le_trans h.size h'.size, fun k o h1 h2 h3 => h'.same k o (h.same k o h1 h2 h3) h2 h3⟩
theorem Kz.heap {q : Nat} {W W' : World} (h : Kz q W W') {k : Nat} {cs : Array Value} {t : TypeId} (hk : W.heap[k]? = some (.cells cs t)) (hq : k ≠ q) : W'.heap[k]? = some (.cells cs t) := h.same k _ hk rfl hq
theorem Kz.cell {q : Nat} {W W' : World} (h : Kz q W W') {a : Addr} {v : Value} (hc : W.cell? a = some v) (hq : a.block ≠ q) : W'.cell? a = some v := by
  cases ho : W.heap[a.block]? with
  | none => simp [World.cell?, ho] at hc
  | some o =>
    by_cases hi : o.isCells = true
    · rw [World.cell?_of_block ((h.same _ o ho hi hq).trans ho.symm)]
      exact hc
    · exfalso
      cases o <;> simp_all [World.cell?, Obj.isCells]
theorem Kz.of {q : Nat} {W W' : World} (h : W.grownBy W' none) : Kz q W W' := ⟨h.size, fun k o hk _ _ => heap_kept h hk (by simp)⟩
theorem find_any (w : World) (ao : Option Addr) (n cap i : Nat) (L : List UInt8) (h : Bp w ao n cap L) (hi : i ≤ n) :
    Calls Try.prog 22 #[.slice ao n cap, .int .i64 i] w fun e w' => w.grownBy w' none ∧ ((∃ C, NoAt (L.drop i) C ∧ e = .returned (.tuple #[.agg #[.int .i64 0, .slice none 0 0, .int .i64 0], .int .i64 C])) ∨
      (∃ S ro rc, extR (L.drop i) = (S, 0) ∧ Whole ((L.drop i).take S) S ∧ i + S ≤ n ∧ e = .returned (.tuple #[.agg #[.int .i64 (bAt ((L.drop i).take S)), .slice ro (cAt ((L.drop i).take S)) rc, .int .i64 S], .int .i64 0]))) := by
  by_cases h0 : (extR (L.drop i)).2 = 0
  · have hE : extR (L.drop i) = ((extR (L.drop i)).1, 0) := by rw [← h0]
    obtain ⟨s1, s2, s3, _⟩ := extR_ok hE
    have hl := h.bs.len
    rw [List.length_drop, hl] at s3
    by_cases hW : Whole ((L.drop i).take (extR (L.drop i)).1) (extR (L.drop i)).1
    · obtain ⟨b, o, rfl, _⟩ := h.bs.addr (by omega)
      refine (find_yes w b o n cap i _ L h.bs hi h.top h.cap hE (by omega) hW).mono ?_
      rintro e w' ⟨base, ro, rc, rs, -, rfl, -, -, hg⟩
      exact ⟨hg, Or.inr ⟨_, ro, rc, hE, hW, by omega, rfl⟩⟩
    · have hN : NoAt (L.drop i) 152 := ⟨by omega, Or.inr ⟨h0, rfl, hW⟩⟩
      refine (find_no w ao n cap i L 152 h hi hN).mono ?_
      rintro e w' ⟨rfl, hg⟩
      exact ⟨hg, Or.inl ⟨_, hN, rfl⟩⟩
  · have hN : NoAt (L.drop i) (extR (L.drop i)).2 := ⟨h0, Or.inl rfl⟩
    refine (find_no w ao n cap i L _ h hi hN).mono ?_
    rintro e w' ⟨rfl, hg⟩
    exact ⟨hg, Or.inl ⟨_, hN, rfl⟩⟩
set_option maxRecDepth 100000 in
set_option maxHeartbeats 2000000 in
theorem wholes1_in (l ca cb q : Nat) (ao : Option Addr) (n cap i : Nat) (L : List UInt8) (hi : i ≤ n) (hn : n ≤ 1048576) (J Jx : List Wx → World → Prop) (m : Nat) (hm : 1 ≤ m)
    (hJ : ∀ s W W', J s W → W.grownBy W' none → J s W') (hJx : ∀ s W W', Jx s W → W.grownBy W' none → Jx s W')
    (hY : ∀ pre x W1, J pre W1 → pre.length < n → YieldAt Fence.wide (m - 1) Try.prog l (wenc x) W1 fun e W' =>
      (e = .returned (.bool true) ∧ J (pre ++ [x]) W' ∧ Kz q W1 W') ∨ (e = .returned (.bool false) ∧ Jx (pre ++ [x]) W'))
    (W : World) (hca : W.cell? ⟨ca, 0, none⟩ = some (.int .i64 i)) (hcb : W.heap[cb]? = some (.cells #[.slice ao n cap] 23)) (hcq : cb ≠ q) (hql : q < W.heap.size) (hB : ∀ W', Kz q W W' → Bp W' ao n cap L) (h0 : J [] W) :
    CallsIn Fence.wide m Try.prog 31 #[.func (.yield l) #[] #[], .pointer (some ⟨ca, 0, none⟩), .pointer (some ⟨cb, 0, none⟩)] W fun e W' => (∃ v, e = .returned v) ∧
      ((∃ ys, (∃ Z C, Run L i ys Z ∧ i + Z ≤ n ∧ NoAt (L.drop (i + Z)) C) ∧ J ys W') ∨ (∃ pre, (∃ Z, Run L i pre Z) ∧ Jx pre W')) := by
  refine callsIn_of_wp Try.func31 rfl trivial ?_
  simp only [Try.ntmps31, List.size_toArray, List.length_cons, List.length_nil, Nat.reduceAdd, Nat.reduceSub, Array.replicate_succ, Array.replicate_zero, List.push_toArray, List.append_toArray, List.nil_append, List.cons_append]
  gi_wp2
  gi_loopw [4, 5, 6] (fun pl _ _ wr => ∃ (ys : List Wx) (Z : Nat), Run L i ys Z ∧ i + Z ≤ n ∧ pl = .int .i64 (i + Z : Nat) ∧ Kz q W wr ∧ J ys wr) (fun pl _ _ _ => n - (intOf pl).toNat)
  case atStart => exact ⟨[], 0, Run.nil, by omega, rfl, ⟨Nat.le_refl _, fun _ _ h _ _ => h⟩, h0⟩
  case round =>
    obtain ⟨ys, Z, hrun, hZ, rfl, hK, hJy⟩ := hrel
    have hcw := hK.heap hcb hcq
    have c0 := cell_of (i := 0) (v := .slice ao n cap) hcw rfl
    obtain ⟨T, hT⟩ : ∃ T, Hid (T = i + Z) := ⟨i + Z, (rfl : _ = _)⟩
    rw [show ((i + Z : Nat) : Int) = (T : Int) by rw [hT.out]]
    have hfa := find_any wr ao n cap T L (hB _ hK) (by have := hT.out; omega)
    gi_wp2_with fail
    refine ⟨trivial, callsIn_wide.2 (hfa.mono ?_)⟩
    clear hfa c0 hcw
    rintro e w1 ⟨hg1, ⟨C, hNo, rfl⟩ | ⟨S, ro, rc, hE, hW, hS, rfl⟩⟩
    · have hC : (C != 0) = true := by simpa using hNo.1
      have ga := alloc_grown w1 (.cells #[.int .i64 0, .slice none 0 0, .int .i64 0] 61)
      have hJe := hJ _ _ _ (hJ _ _ _ hJy hg1) ga
      gi_wp2
      refine ⟨(fun f hf => nomatch hf), ?_⟩
      gi_wp2
      refine bodyPost_ret (results_none rfl _ _ _) rfl ?_
      exact ⟨⟨_, rfl⟩, .inl ⟨ys, ⟨Z, C, hrun, hZ, by rw [← hT.out]; exact hNo⟩, hJe⟩⟩
    · have hs32 := hW.low
      have hrun2 : ∀ x : Wx, x.p = T → x.c = cAt ((L.drop T).take S) → x.s = S → Run L i (ys ++ [x]) (Z + S) := fun x h1 h2 h3 => Run.snoc hrun (by rw [← hT.out]; exact hE) (by rw [← hT.out]; exact hW) (by rw [← hT.out]; exact h1) (by rw [← hT.out]; exact h2) h3
      have hZ2 : i + (Z + S) ≤ n := by have := hT.out; omega
      generalize bAt ((L.drop T).take S) = BA at *
      generalize cAt ((L.drop T).take S) = CA at *
      have hrunx := hrun2 ⟨T, BA, ro, CA, rc, S⟩ rfl rfl rfl
      have ga := alloc_grown w1 (.cells #[.int .i64 BA, .slice ro CA rc, .int .i64 (S : Int)] 61)
      have k3 := heap_alloc_new w1 (.cells #[.int .i64 BA, .slice ro CA rc, .int .i64 (S : Int)] 61)
      have hJe := hJ _ _ _ (hJ _ _ _ hJy hg1) ga
      have hK2 := (hK.trans (Kz.of hg1)).trans (Kz.of ga)
      have hzq : w1.heap.size ≠ q := by have h1 := hK.size; have h2 := hg1.size; omega
      have hlen9 := hrun.le
      obtain ⟨fn, tmps, assign, body, hy, hR⟩ := hY ys ⟨T, BA, ro, CA, rc, S⟩ _ hJe (by omega)
      simp only [wenc] at hy
      gi_wp2_with fail
      refine hR.mono ?_
      clear hR hy
      generalize w1.alloc (.cells #[.int .i64 BA, .slice ro CA rc, .int .i64 (S : Int)] 61) = w2 at *
      generalize w1.heap.size = z5 at *
      rintro e W3 (⟨rfl, hJ3, hk3⟩ | ⟨rfl, hJx3⟩)
      · have k5 := hk3.heap k3 hzq
        have c2 := cell_of (i := 2) (v := .int .i64 (S : Int)) k5 rfl
        have hTs : ((T : Int) + (S : Int)) = ((i + (Z + S) : Nat) : Int) := by have := hT.out; omega
        have hK3 := hK2.trans hk3
        obtain ⟨T2, hT2⟩ : ∃ T2 : Nat, Hid (T2 = i + (Z + S)) := ⟨_, (rfl : i + (Z + S) = _)⟩
        rw [show (i + (Z + S)) = T2 from hT2.out.symm] at hTs
        gi_wp2
        go_roundw
        case rel => exact ⟨ys ++ [⟨T, BA, ro, CA, rc, S⟩], Z + S, hrunx, hZ2, by rw [hT2.out], hK3, hJ3⟩
        case measure => have := hT.out; have := hT2.out; simp [intOf]; omega
      · gi_wp2
        refine bodyPost_ret (results_none rfl _ _ _) rfl ?_
        exact ⟨⟨_, rfl⟩, .inr ⟨_, ⟨_, hrunx⟩, hJx3⟩⟩
end Go.Proofs.Ytlfgikhjcimppab

/-
  wholes, as the kit's word for an iterator.
-/
namespace Go.Proofs.Ytlfgikhjcimppab
open Go.RowKit Go.Shelf
set_option linter.unusedVariables false
attribute [local go_sem] Oper.semAt_some

theorem Bs.kz {q : Nat} {W W' : World} {ao : Option Addr} {n cap : Nat} {L : List UInt8} (h : Bs W ao n cap L) (hk : Kz q W W') (hne : ∀ a, ao = some a → a.block ≠ q) : Bs W' ao n cap L :=
  ⟨h.len, h.room, h.top, h.nil, fun a ha j u hu => hk.cell (h.cells a ha j u hu) (by rw [show (a.add j).block = a.block by unfold Addr.add; split <;> rfl]; exact hne a ha)⟩
theorem Bs.below {B : Nat} {W W' : World} {ao : Option Addr} {n cap : Nat} {L : List UInt8} (h : Bs W ao n cap L) (hW : Below B W W') (hne : ∀ a, ao = some a → a.block < B) : Bs W' ao n cap L :=
  ⟨h.len, h.room, h.top, h.nil, fun a ha j u hu => (hW.cell (p := a.add j) (by rw [show (a.add j).block = a.block by unfold Addr.add; split <;> rfl]; exact hne a ha)).trans (h.cells a ha j u hu)⟩
set_option maxHeartbeats 1000000 in
theorem wholes_any (w : World) (ao : Option Addr) (n cap : Nat) (i : Int) :
    Calls Try.prog 21 #[.slice ao n cap, .int .i64 i] w fun e w' => e = .returned (.func (.func 31) #[] #[.pointer (some ⟨w.heap.size + 1, 0, none⟩), .pointer (some ⟨w.heap.size, 0, none⟩)]) ∧ w'.heap[w.heap.size]? = some (.cells #[.slice ao n cap] 23) ∧ w'.heap[w.heap.size + 1]? = some (.cells #[.int .i64 i] 3) ∧ w.grownBy w' none := by
  have hmf : ∀ (fn : Fn) (first cap : Array Value) (w : World), (Instr.makeFunc fn first cap).run Try.prog w = .ok (.func fn first cap) w := fun _ _ _ _ => rfl
  have g1 := alloc_grown w (.cells #[.slice ao n cap] 23)
  have k1 := heap_alloc_new w (.cells #[.slice ao n cap] 23)
  have g2 := alloc_grown (w.alloc (.cells #[.slice ao n cap] 23)) (.cells #[.int .i64 i] 3)
  have k2 := heap_alloc_new (w.alloc (.cells #[.slice ao n cap] 23)) (.cells #[.int .i64 i] 3)
  rw [show (w.alloc (.cells #[.slice ao n cap] 23)).heap.size = w.heap.size + 1 by simp] at k2
  have k1' := heap_kept g2 k1 (by simp)
  have hG := grown_trans g1 g2 (by simp)
  clear g1 g2 k1
  go_enter Try.func21, Try.ntmps21
  go_wp2
  go_ret
  exact ⟨rfl, k1', k2, hG⟩
/-- What a run is. -/
def Rn (L : List UInt8) (i n : Nat) (ys : List Wx) : Prop := ∃ Z C, Run L i ys Z ∧ i + Z ≤ n ∧ NoAt (L.drop (i + Z)) C
theorem wholes_stops (m : Nat) (hm : 1 ≤ m) (ca cb q : Nat) (ao : Option Addr) (n cap i : Nat) (L : List UInt8) (hi : i ≤ n) (w : World) (hB : Bp w ao n cap L) (hca : w.cell? ⟨ca, 0, none⟩ = some (.int .i64 i)) (hcb : w.heap[cb]? = some (.cells #[.slice ao n cap] 23)) (hcq : cb ≠ q) (hql : q < w.heap.size) (hne : ∀ a, ao = some a → a.block ≠ q) (hlt : ∀ a, ao = some a → a.block < w.heap.size) :
    SeqStopsK Fence.wide m Try.prog 31 #[.pointer (some ⟨ca, 0, none⟩), .pointer (some ⟨cb, 0, none⟩)] wenc (Kz q) (Rn L i n) (fun pre => ∃ Z, Run L i pre Z) n w := by
  intro l J Jx W hW hJ hJx hY h0
  have hcl : ca < w.heap.size := World.block_lt_of_cell? w _ hca
  refine wholes1_in l ca cb q ao n cap i L hi hB.top J Jx m hm (fun s A B hs hg => hJ s A B none hs hg (fun r e => by cases e)) (fun s A B hs hg => hJx s A B none hs hg (fun r e => by cases e)) hY W ((hW.cell (p := ⟨ca, 0, none⟩) hcl).trans hca) ((hW.block cb (lt_of_heap hcb)).trans hcb) hcq (Nat.lt_of_lt_of_le hql hW.size) (fun W' hk => ⟨(hB.bs.below hW hlt).kz hk hne, hB.at_, hB.top, hB.cap⟩) h0
end Go.Proofs.Ytlfgikhjcimppab

/-
  Walk: the walk.
-/
namespace Go.Proofs.Ytlfgikhjcimppab
open Go.RowKit Go.Shelf
set_option linter.unusedVariables false
attribute [local go_sem] Oper.semAt_some

theorem Kz.set (q : Nat) (W : World) (i : Nat) (v : Value) : Kz q W (W.setCell ⟨q, i, none⟩ v) := ⟨(setCell_grown W q i v).size, fun k o hk _ hq => heap_oth hk i v hq⟩
/-- Sums as the program makes them. -/
def addW (f : Wx → Nat) (ys : List Wx) : Int := ys.foldl (fun a x => wrap64 (a + (f x : Int))) 0
theorem addW_snoc (f : Wx → Nat) (ys : List Wx) (x : Wx) : addW f (ys ++ [x]) = wrap64 (addW f ys + (f x : Int)) := by simp [addW]
theorem wrap64_in {z : Int} (h0 : 0 ≤ z) (h1 : z < 9223372036854775808) : wrap64 z = z := by unfold wrap64; omega
theorem run_add {L : List UInt8} {i Z : Nat} {ys : List Wx} (h : Run L i ys Z) (hZ : Z ≤ 1048576) : addW (·.c) ys = ((ys.map (·.c)).sum : Nat) ∧ addW (·.s) ys = (Z : Int) := by
  induction h with
  | nil => exact ⟨rfl, rfl⟩
  | @snoc ys Z S x h1 h2 h3 h4 h5 h6 ih =>
    obtain ⟨i1, i2⟩ := ih (by omega)
    have hc := whole_c h3
    have hch := (ch_le h1.ch.1).2
    rw [← h5] at hc
    rw [addW_snoc, addW_snoc, i1, i2, h6]
    refine ⟨?_, ?_⟩
    · rw [List.map_append, List.sum_append]
      simp only [List.map_cons, List.map_nil, List.sum_cons, List.sum_nil, Nat.add_zero]
      rw [wrap64_in (by omega) (by omega)]
      omega
    · rw [wrap64_in (by omega) (by omega)]
      omega
set_option maxRecDepth 100000 in
set_option maxHeartbeats 4000000 in
theorem walk_any (w : World) (ao : Option Addr) (n cap i : Nat) (L : List UInt8) (hB : Bp w ao n cap L) (hi : i ≤ n) (hlt : ∀ a, ao = some a → a.block < w.heap.size) :
    Calls Try.prog 9 #[.slice ao n cap, .int .i64 i] w fun e w' => w.grownBy w' none ∧ ∃ (k R Z : Nat) (C : Int), Ch L i k R Z ∧ NoAt (L.drop (i + Z)) C ∧ i + Z ≤ n ∧ e = .returned (.tuple #[.agg #[.int .i64 k, .int .i64 R, .int .i64 Z, .int .i64 C], .int .i64 0]) := by
  have htop := hB.top
  have g1 := alloc_grown w (.cells #[.int .i64 0, .int .i64 0, .int .i64 0, .int .i64 0] 39)
  have k1 := heap_alloc_new w (.cells #[.int .i64 0, .int .i64 0, .int .i64 0, .int .i64 0] 39)
  have hip := isPlace_any (w.alloc (.cells #[.int .i64 0, .int .i64 0, .int .i64 0, .int .i64 0] 39)) ao n cap i
  rw [show plcB n i = true by unfold plcB; simp; omega] at hip
  obtain ⟨z, hz⟩ : ∃ z, w.heap.size = z := ⟨_, rfl⟩
  rw [hz] at k1
  refine (callsIn_wide (n := 5)).1 ?_
  refine callsIn_of_wp_marks Try.func9 rfl trivial ?_
  simp only [Try.ntmps9, List.size_toArray, List.length_cons, List.length_nil, Nat.reduceAdd, Nat.reduceSub, Array.replicate_succ, Array.replicate_zero, List.push_toArray, List.append_toArray, List.nil_append, List.cons_append]
  gi_wp2_with fail
  refine ⟨trivial, callsIn_wide.2 (hip.mono ?_)⟩
  clear hip
  rintro e w0 ⟨rfl, hw⟩
  subst hw
  gi_wp2_with fail
  have g2 := alloc_grown (w.alloc (.cells #[.int .i64 0, .int .i64 0, .int .i64 0, .int .i64 0] 39)) (.cells #[.int .i64 0, .int .i64 0, .int .i64 0, .int .i64 0] 39)
  have k2 := heap_alloc_new (w.alloc (.cells #[.int .i64 0, .int .i64 0, .int .i64 0, .int .i64 0] 39)) (.cells #[.int .i64 0, .int .i64 0, .int .i64 0, .int .i64 0] 39)
  have hs1 : (w.alloc (.cells #[.int .i64 0, .int .i64 0, .int .i64 0, .int .i64 0] 39)).heap.size = z + 1 := by simp [hz]
  rw [hs1] at k2
  have k1' := heap_kept g2 k1 (by simp)
  have hG2 := grown_trans g1 g2 (by simp)
  have hwh := wholes_any ((w.alloc (.cells #[.int .i64 0, .int .i64 0, .int .i64 0, .int .i64 0] 39)).alloc (.cells #[.int .i64 0, .int .i64 0, .int .i64 0, .int .i64 0] 39)) ao n cap i
  rw [show ((w.alloc (.cells #[.int .i64 0, .int .i64 0, .int .i64 0, .int .i64 0] 39)).alloc (.cells #[.int .i64 0, .int .i64 0, .int .i64 0, .int .i64 0] 39)).heap.size = z + 2 by simp [hz]] at hwh
  clear g1 g2 k1 hs1
  generalize (w.alloc (.cells #[.int .i64 0, .int .i64 0, .int .i64 0, .int .i64 0] 39)).alloc (.cells #[.int .i64 0, .int .i64 0, .int .i64 0, .int .i64 0] 39) = w2 at *
  refine ⟨trivial, callsIn_wide.2 (hwh.mono ?_)⟩
  clear hwh
  rintro e w3 ⟨rfl, kb, ka, hg3⟩
  have ks := heap_kept hg3 k2 (by simp)
  have kr := heap_kept hg3 k1' (by simp)
  have hG3 := grown_trans hG2 hg3 (by simp)
  clear k2 k1' hG2 hg3
  gi_wp2_with fail
  have hsz3 : z + 4 ≤ w3.heap.size := lt_of_heap ka
  have hbel : Below z w w3 := by rw [← hz]; exact grownBy_below hG3
  have hB3 := hB.grown hG3
  have hq1 : z + 1 < w3.heap.size := by omega
  have hcA := cell_of (i := 0) (v := .int .i64 (i : Int)) ka rfl
  have hne3 : ∀ a, ao = some a → a.block ≠ z + 1 := fun a ha => by have := hlt a ha; omega
  have hlt3 : ∀ a, ao = some a → a.block < w3.heap.size := fun a ha => by have := hlt a ha; omega
  apply wpIn_rangeFunc_ownH (encs := wenc) (Kp := Kz (z + 1)) (S := Rn L i n) (Sp := fun pre => ∃ Z, Run L i pre Z) (N := n) (w0 := w3) rfl (by decide) (gf := 31) (lb := #[.pointer (some ⟨z + 2 + 1, 0, none⟩), .pointer (some ⟨z + 2, 0, none⟩)]) rfl trivial (enters_of Try.func31 (by kernel_rfl) rfl)
    (wholes_stops 4 (by decide) (z + 2 + 1) (z + 2) (z + 1) ao n cap i L hi w3 hB3 hcA kb (by omega) hq1 hne3 hlt3) (fun h h' => h.trans h')
    (fun W l o o' hl ho hc _ => ⟨by simp, fun k x hk hx hq => heap_kept (grownBy_putObj' W l o') hk (fun e => by
      obtain rfl : k = l := by simpa using e
      rw [ho] at hk
      cases hk
      rw [hc] at hx
      cases hx)⟩) (Below.refl _ _) (fun _ => rfl)
    (fun pre W => W.heap[z + 1]? = some (.cells #[.int .i64 (pre.length : Int), .int .i64 (addW (·.c) pre), .int .i64 (addW (·.s) pre), .int .i64 0] 39) ∧ W.heap[z]? = some (.cells #[.int .i64 0, .int .i64 0, .int .i64 0, .int .i64 0] 39) ∧ Below z w W ∧ z + 4 ≤ W.heap.size)
    (fun _ _ _ => False)
    (fun s A B row hs hg hr => ⟨heap_kept hg hs.1 (fun e => by have := (hr _ e.symm).1; omega), heap_kept hg hs.2.1 (fun e => by have := (hr _ e.symm).1; omega), hs.2.2.1.grown hg (by have := hs.2.2.2; omega) (fun k hk => by have := (hr k hk).1; omega), Nat.le_trans hs.2.2.2 hg.size⟩)
    (fun _ _ _ _ _ hs _ _ => hs.elim)
    ⟨ks, kr, hbel, hsz3⟩
    (fun x a' W => ∃ g, W.heap[g]? = some (.cells #[.int .i64 x.b, .slice x.ro x.c x.rc, .int .i64 (x.s : Int)] 61) ∧ g ≠ z + 1 ∧ g ≠ z ∧ a' = { tmps := #[.slice ao n cap, .int .i64 i, undef, undef, .pointer (some ⟨z, 0, none⟩), .int .i64 0, .pointer (some ⟨z + 1, 0, none⟩), undef, .pointer (some ⟨g, 0, none⟩), .slice ao n cap, .int .i64 i, .bool true, .bool false, undef, .slice ao n cap, .int .i64 i, .func (.func 31) #[] #[.pointer (some ⟨z + 2 + 1, 0, none⟩), .pointer (some ⟨z + 2, 0, none⟩)], .int .i64 x.p, .agg #[.int .i64 x.b, .slice x.ro x.c x.rc, .int .i64 x.s], undef, undef, undef, undef, undef, undef, undef, undef, undef, undef, undef, undef, undef, undef, undef, undef, undef, undef, undef, undef, undef, undef, undef, undef, undef, undef, undef, undef, undef], defers := [] })
  case hAx =>
    rintro x a' ⟨⟩ A B row ⟨g, h1, h2, h3, h4⟩ hg hr
    exact ⟨g, heap_kept hg h1 (fun e => by
      obtain ⟨_, o, ho, hoc⟩ := hr _ e.symm
      rw [h1] at ho
      cases ho
      cases hoc), h2, h3, h4⟩
  case hassign =>
    intro l pre x W K hI hK
    simp only [wenc]
    have ga := alloc_grown W (.cells #[.int .i64 x.b, .slice x.ro x.c x.rc, .int .i64 (x.s : Int)] 61)
    have k9 := heap_alloc_new W (.cells #[.int .i64 x.b, .slice x.ro x.c x.rc, .int .i64 (x.s : Int)] 61)
    gi_wp2
    refine hK _ _ ((KeepsOthers.alloc W _).from _) (Kz.of ga) ⟨heap_kept ga hI.1 (by simp), heap_kept ga hI.2.1 (by simp), hI.2.2.1.grown ga (by have := hI.2.2.2; omega) (fun k hk => by cases hk), Nat.le_trans hI.2.2.2 ga.size⟩ ⟨W.heap.size, k9, by have := hI.2.2.2; omega, by have := hI.2.2.2; omega, rfl⟩
  case hbody =>
    rintro l pre x a' W hl ⟨rr, hrr⟩ ⟨i1, i2, i3, i4⟩ ⟨g, g1, g2, g3, rfl⟩ hpl
    have x0 := cell_of (i := 0) (v := .int .i64 (pre.length : Int)) i1 rfl
    have x1 := cell_of (i := 1) (v := .int .i64 (addW (·.c) pre)) i1 rfl
    have x2 := cell_of (i := 2) (v := .int .i64 (addW (·.s) pre)) i1 rfl
    have xf := frozen_of i1
    have y1 := cell_of (i := 1) (v := .slice x.ro x.c x.rc) g1 rfl
    have y2 := cell_of (i := 2) (v := .int .i64 (x.s : Int)) g1 rfl
    have ne1 : ¬ g = z + 1 := g2
    have ne2 : ¬ z + 1 = g := fun e => g2 e.symm
    have hk1 := ((Kz.set (z + 1) W 0 (.int .i64 ((pre.length : Int) + 1))).trans (Kz.set (z + 1) _ 1 (.int .i64 (wrap64 (addW (·.c) pre + (x.c : Int)))))).trans (Kz.set (z + 1) _ 2 (.int .i64 (wrap64 (addW (·.s) pre + (x.s : Int)))))
    have hk2 := ((KeepsOthers.setCell W ⟨z + 1, 0, none⟩ (.int .i64 ((pre.length : Int) + 1))).trans (KeepsOthers.setCell _ ⟨z + 1, 1, none⟩ (.int .i64 (wrap64 (addW (·.c) pre + (x.c : Int)))))).trans (KeepsOthers.setCell _ ⟨z + 1, 2, none⟩ (.int .i64 (wrap64 (addW (·.s) pre + (x.s : Int)))))
    have p1 := heap_set (heap_set (heap_set i1 0 (.int .i64 ((pre.length : Int) + 1))) 1 (.int .i64 (wrap64 (addW (·.c) pre + (x.c : Int))))) 2 (.int .i64 (wrap64 (addW (·.s) pre + (x.s : Int))))
    have p2 := heap_oth (heap_oth (heap_oth i2 0 (.int .i64 ((pre.length : Int) + 1)) (show z ≠ z + 1 by omega)) 1 (.int .i64 (wrap64 (addW (·.c) pre + (x.c : Int)))) (show z ≠ z + 1 by omega)) 2 (.int .i64 (wrap64 (addW (·.s) pre + (x.s : Int)))) (show z ≠ z + 1 by omega)
    have p3 := ((i3.setCell (p := ⟨z + 1, 0, none⟩) (by show z ≤ z + 1; omega) (.int .i64 ((pre.length : Int) + 1))).setCell (p := ⟨z + 1, 1, none⟩) (by show z ≤ z + 1; omega) (.int .i64 (wrap64 (addW (·.c) pre + (x.c : Int))))).setCell (p := ⟨z + 1, 2, none⟩) (by show z ≤ z + 1; omega) (.int .i64 (wrap64 (addW (·.s) pre + (x.s : Int))))
    have p4 : z + 4 ≤ _ := Nat.le_trans i4 hk1.size
    rw [← addW_snoc, ← addW_snoc] at hk1 hk2 p1 p2 p3 p4
    have e1 : ((pre ++ [x]).length : Int) = (pre.length : Int) + 1 := by simp
    gi_wp2_with fail
    rw [← addW_snoc, ← addW_snoc]
    exact ⟨hk2.from _, hk1, by rw [e1]; exact p1, p2, p3, p4⟩
  case hdone =>
    rintro D ys W hD ⟨Z, C, hrun, hZ, hNo⟩ ⟨i1, i2, i3, i4⟩ hK
    obtain ⟨hch, hsum⟩ := hrun.ch
    obtain ⟨a1, a2⟩ := run_add hrun (by omega)
    rw [a1, a2] at i1
    have x2 := cell_of (i := 2) (v := .int .i64 (Z : Int)) i1 rfl
    obtain ⟨T, hT⟩ : ∃ T, Hid (T = i + Z) := ⟨i + Z, (rfl : _ = _)⟩
    have hTs : (i : Int) + (Z : Int) = (T : Int) := by have := hT.out; omega
    have hBW : Bp W ao n cap L := ⟨hB.bs.below i3 (fun a ha => by have := hlt a ha; omega), hB.at_, hB.top, hB.cap⟩
    have hfn := find_no W ao n cap T L C hBW (by have := hT.out; omega) (by rw [hT.out]; exact hNo)
    gi_wp2_with fail
    refine ⟨trivial, callsIn_wide.2 (hfn.mono ?_)⟩
    clear hfn x2
    rintro e w4 ⟨rfl, hg4⟩
    have i1' := heap_kept hg4 i1 (by simp)
    have i2' := heap_kept hg4 i2 (by simp)
    have hK4 := heap_kept hg4 hK (by simp)
    have hs4 := hg4.size
    have i3' := i3.grown hg4 (by omega) (fun k hk => by cases hk)
    have x0 := cell_of (i := 0) (v := .int .i64 (ys.length : Int)) i1' rfl
    have x1 := cell_of (i := 1) (v := .int .i64 (((ys.map (·.c)).sum : Nat) : Int)) i1' rfl
    have x2 := cell_of (i := 2) (v := .int .i64 (Z : Int)) i1' rfl
    have x3 := cell_of (i := 3) (v := .int .i64 (0 : Int)) i1' rfl
    have xf := frozen_of i1'
    have y0 := cell_of (i := 0) (v := .int .i64 (0 : Int)) i2' rfl
    have y1 := cell_of (i := 1) (v := .int .i64 (0 : Int)) i2' rfl
    have y2 := cell_of (i := 2) (v := .int .i64 (0 : Int)) i2' rfl
    have y3 := cell_of (i := 3) (v := .int .i64 (0 : Int)) i2' rfl
    have yf := frozen_of i2'
    have hko := ((((KeepsOthers.setCell w4 ⟨z + 1, 3, none⟩ (.int .i64 C)).trans (KeepsOthers.setCell _ ⟨z, 0, none⟩ (.int .i64 (ys.length : Int)))).trans (KeepsOthers.setCell _ ⟨z, 1, none⟩ (.int .i64 (((ys.map (·.c)).sum : Nat) : Int)))).trans (KeepsOthers.setCell _ ⟨z, 2, none⟩ (.int .i64 (Z : Int)))).trans (KeepsOthers.setCell _ ⟨z, 3, none⟩ (.int .i64 C))
    have hK5 := hko.same D _ hK4 rfl
    have p1 := heap_set (heap_set (heap_set (heap_set (heap_oth i2' 3 (.int .i64 C) (show z ≠ z + 1 by omega)) 0 (.int .i64 (ys.length : Int))) 1 (.int .i64 (((ys.map (·.c)).sum : Nat) : Int))) 2 (.int .i64 (Z : Int))) 3 (.int .i64 C)
    have p3 := ((((i3'.setCell (p := ⟨z + 1, 3, none⟩) (by show z ≤ z + 1; omega) (.int .i64 C)).setCell (p := ⟨z, 0, none⟩) (Nat.le_refl _) (.int .i64 (ys.length : Int))).setCell (p := ⟨z, 1, none⟩) (Nat.le_refl _) (.int .i64 (((ys.map (·.c)).sum : Nat) : Int))).setCell (p := ⟨z, 2, none⟩) (Nat.le_refl _) (.int .i64 (Z : Int))).setCell (p := ⟨z, 3, none⟩) (Nat.le_refl _) (.int .i64 C)
    gi_wp2_with fail
    refine ⟨by simp, .inl ⟨_, _, rfl, run_takeDeferred hK5, ?_⟩⟩
    have hpo := grownBy_putObj' (((((w4.setCell ⟨z + 1, 3, none⟩ (.int .i64 C)).setCell ⟨z, 0, none⟩ (.int .i64 (ys.length : Int))).setCell ⟨z, 1, none⟩ (.int .i64 (((ys.map (·.c)).sum : Nat) : Int))).setCell ⟨z, 2, none⟩ (.int .i64 (Z : Int))).setCell ⟨z, 3, none⟩ (.int .i64 C)) D (.deferred none)
    have p2 := heap_kept hpo p1 (by simp; omega)
    have v0 := cell_of (i := 0) (v := .int .i64 (ys.length : Int)) p2 rfl
    have v1 := cell_of (i := 1) (v := .int .i64 (((ys.map (·.c)).sum : Nat) : Int)) p2 rfl
    have v2 := cell_of (i := 2) (v := .int .i64 (Z : Int)) p2 rfl
    have v3 := cell_of (i := 3) (v := .int .i64 C) p2 rfl
    have p4 := p3.grown hpo (Nat.le_trans (by omega) hko.size) (fun k hk => by cases hk; omega)
    clear p1 p3 hko x0 x1 x2 x3 xf y0 y1 y2 y3 yf
    generalize ((((((w4.setCell ⟨z + 1, 3, none⟩ (.int .i64 C)).setCell ⟨z, 0, none⟩ (.int .i64 (ys.length : Int))).setCell ⟨z, 1, none⟩ (.int .i64 (((ys.map (·.c)).sum : Nat) : Int))).setCell ⟨z, 2, none⟩ (.int .i64 (Z : Int))).setCell ⟨z, 3, none⟩ (.int .i64 C))).putObj D (.deferred none) = w9 at *
    exact ⟨.tuple #[.agg #[.int .i64 (ys.length : Int), .int .i64 (((ys.map (·.c)).sum : Nat) : Int), .int .i64 (Z : Int), .int .i64 C], .int .i64 0], by simp [results, Try.results9, go_sem, v0, v1, v2, v3], below_grownBy (by rw [hz]; exact p4), ys.length, _, Z, C, hch, hNo, hZ, rfl⟩
  case hstop =>
    intro D c pre W _ _ hf _
    exact hf.elim
end Go.Proofs.Ytlfgikhjcimppab

/-
  What is told of any place of any bytes: both sides' words.
-/
namespace Go.Proofs.Ytlfgikhjcimppab
open Go.RowKit Go.Shelf
set_option linter.unusedVariables false
attribute [local go_sem] Oper.semAt_some

/-- What both Walks tell. -/
def WK (L : List UInt8) (n : Nat) (at' a b c d e : Int) : Prop := (plcB n at' = false ∧ a = 0 ∧ b = 0 ∧ c = 0 ∧ d = 0 ∧ e = 4) ∨ (plcB n at' = true ∧ e = 0 ∧ ∃ (k R Z : Nat), a = k ∧ b = R ∧ c = Z ∧ Ch L at'.toNat k R Z ∧ NoAt (L.drop (at'.toNat + Z)) d)
theorem WK.one {L : List UInt8} {n : Nat} {at' a b c d e a' b' c' d' e' : Int} (h : WK L n at' a b c d e) (h' : WK L n at' a' b' c' d' e') : a = a' ∧ b = b' ∧ c = c' ∧ d = d' ∧ e = e' := by
  rcases h with ⟨p, rfl, rfl, rfl, rfl, rfl⟩ | ⟨p, rfl, k, R, Z, rfl, rfl, rfl, h1, h2⟩ <;> rcases h' with ⟨p', rfl, rfl, rfl, rfl, rfl⟩ | ⟨p', rfl, k', R', Z', rfl, rfl, rfl, h1', h2'⟩
  · exact ⟨rfl, rfl, rfl, rfl, rfl⟩
  · rw [p] at p'; cases p'
  · rw [p] at p'; cases p'
  · obtain ⟨rfl, rfl, rfl, rfl⟩ := ch_one h1 h2 h1' h2'
    exact ⟨rfl, rfl, rfl, rfl, rfl⟩
/-- What both Reads, and Look, tell: the base, how many records, of how many bytes, the code, the records. -/
def RK (L : List UInt8) (n : Nat) (at' b : Int) (c s : Nat) (e : Int) (D : List Dr) : Prop := (plcB n at' = false ∧ b = 0 ∧ c = 0 ∧ s = 0 ∧ e = 4 ∧ D = []) ∨ (plcB n at' = true ∧ NoAt (L.drop at'.toNat) e ∧ b = 0 ∧ c = 0 ∧ s = 0 ∧ D = []) ∨
  (plcB n at' = true ∧ extR (L.drop at'.toNat) = (s, 0) ∧ Whole ((L.drop at'.toNat).take s) s ∧ b = bAt ((L.drop at'.toNat).take s) ∧ c = cAt ((L.drop at'.toNat).take s) ∧ e = 0 ∧ D.length = c ∧ ∀ j d, D[j]? = some d → Says ((L.drop at'.toNat).take s) (posAt ((L.drop at'.toNat).take s) j) d)
theorem RK.one {L : List UInt8} {n : Nat} {at' b b' : Int} {c s c' s' : Nat} {e e' : Int} {D D' : List Dr} (h : RK L n at' b c s e D) (h' : RK L n at' b' c' s' e' D') : b = b' ∧ c = c' ∧ s = s' ∧ e = e' ∧ D = D' := by
  rcases h with ⟨p, rfl, rfl, rfl, rfl, rfl⟩ | ⟨p, hN, rfl, rfl, rfl, rfl⟩ | ⟨p, h1, h2, rfl, rfl, rfl, h6, h7⟩ <;> rcases h' with ⟨p', rfl, rfl, rfl, rfl, rfl⟩ | ⟨p', hN', rfl, rfl, rfl, rfl⟩ | ⟨p', h1', h2', rfl, rfl, rfl, h6', h7'⟩
  · exact ⟨rfl, rfl, rfl, rfl, rfl⟩
  · rw [p] at p'; cases p'
  · rw [p] at p'; cases p'
  · rw [p] at p'; cases p'
  · exact ⟨rfl, rfl, rfl, noat_one hN hN', rfl⟩
  · exact (noat_not hN h1' h2').elim
  · rw [p] at p'; cases p'
  · exact (noat_not hN' h1 h2).elim
  · rw [h1] at h1'
    cases h1'
    refine ⟨rfl, rfl, rfl, rfl, ?_⟩
    apply List.ext_getElem?
    intro j
    by_cases hj : j < D.length
    · have e1 : D[j]? = some D[j] := by simp
      have e2 : D'[j]? = some (D'[j]'(by omega)) := by simp
      obtain ⟨a1, a2, a3⟩ := h7 j _ e1
      obtain ⟨b1, b2, b3⟩ := h7' j _ e2
      rw [e1, e2]
      exact congrArg some (Prod.ext (a1.trans b1.symm) (Prod.ext (a2.trans b2.symm) (a3.trans b3.symm)))
    · rw [List.getElem?_eq_none (by omega), List.getElem?_eq_none (by omega)]
end Go.Proofs.Ytlfgikhjcimppab

/-
  Both Reads and Look, in one word.
-/
namespace Go.Proofs.Ytlfgikhjcimppab
open Go.RowKit
set_option linter.unusedVariables false

theorem Cb.rebase {w : World} {B B' : Nat} {ao : Option Addr} {n : Nat} (h : Cb w B ao n) (hb : B' ≤ B) : Cb w B' ao n := ⟨fun hn => by
  obtain ⟨g, o, h1, h2, h3⟩ := h.at_ hn
  exact ⟨g, o, h1, Nat.le_trans hb h2, h3⟩⟩
end Go.Proofs.Ytlfgikhjcimppab

/-
  The batches at the beginning of some bytes, with their places: there is one such list.
-/
namespace Go.Proofs.Ytlfgikhjcimppab
open Go.RowKit
set_option linter.unusedVariables false

/-- Batches one behind the other from the beginning on, and the place behind them. -/
inductive Pl (L : List UInt8) (n : Nat) : List (Nat × Int × List Dr) → Nat → Prop
  | nil : Pl L n [] 0
  | snoc {l : List (Nat × Int × List Dr)} {Z c s : Nat} {b : Int} {D : List Dr} : Pl L n l Z → RK L n Z b c s 0 D → Pl L n (l ++ [(Z, b, D)]) (Z + s)
end Go.Proofs.Ytlfgikhjcimppab

/-
  All: the closure that it gives, over bytes of its own.
-/
namespace Go.Proofs.Ytlfgikhjcimppab
open Go.RowKit
set_option linter.unusedVariables false

theorem all_any (w : World) (ao : Option Addr) (n cap : Nat) (L : List UInt8) (hb : Bs w ao n cap L) (hsz : n ≤ 1048576) :
    Calls Try.prog 10 #[.slice ao n cap] w fun e w' => ∃ g z, e = .returned (.func (.func 24) #[] #[.pointer (some ⟨z, 0, none⟩)]) ∧ w'.heap[z]? = some (.cells #[.slice (some ⟨g, 0, none⟩) n n] 23) ∧ Ow w' w.heap.size 5 (some ⟨g, 0, none⟩) n n L ∧ g < z ∧ z < w'.heap.size ∧ w.grownBy w' none := by
  have hmf : ∀ (fn : Fn) (first cap : Array Value) (w : World), (Instr.makeFunc fn first cap).run Try.prog w = .ok (.func fn first cap) w := fun _ _ _ _ => rfl
  go_enter Try.func10, Try.ntmps10
  go_wp2_with fail
  refine (fresh_any _ ao n cap L hb (by omega)).mono ?_
  rintro e w1 ⟨g, rfl, ho, hg⟩
  have g1 := alloc_grown w1 (.cells #[.slice (some ⟨g, 0, none⟩) n n] 23)
  have k1 := heap_alloc_new w1 (.cells #[.slice (some ⟨g, 0, none⟩) n n] 23)
  have hG := grown_trans hg g1 (by simp)
  have hgz := (ho.from_base g rfl).2
  have hzz := lt_of_heap k1
  have ho1 := ho.grown g1
  clear ho hg g1
  go_wp2
  go_ret
  exact ⟨g, w1.heap.size, rfl, k1, ho1, hgz, hzz, hG⟩
end Go.Proofs.Ytlfgikhjcimppab

/-
  A run of whole batches, each told with its place, is the list of placed batches.
-/
namespace Go.Proofs.Ytlfgikhjcimppab
open Go.RowKit
set_option linter.unusedVariables false

theorem run_pl {L : List UInt8} {n : Nat} {ys : List Wx} {Z : Nat} (h : Run L 0 ys Z) : ∀ ps : List (Nat × Int × List Dr), ps.length = ys.length →
    (∀ (j : Nat) (x : Wx) (q : Nat × Int × List Dr), ys[j]? = some x → ps[j]? = some q → q.1 = x.p ∧ ∃ c, RK L n x.p q.2.1 c x.s 0 q.2.2) → Pl L n ps Z := by
  induction h with
  | nil =>
    intro ps hl _
    obtain rfl : ps = [] := List.eq_nil_of_length_eq_zero hl
    exact Pl.nil
  | @snoc ys Z S x h1 hE hW hp hc hs ih =>
    intro ps hl hq
    rw [List.length_append, List.length_singleton] at hl
    obtain ⟨qs, q, rfl⟩ : ∃ qs q, ps = qs ++ [q] := ⟨ps.dropLast, ps.getLast (fun e => by rw [e] at hl; simp at hl), (List.dropLast_concat_getLast _).symm⟩
    rw [List.length_append, List.length_singleton] at hl
    have hl2 : qs.length = ys.length := by omega
    have h2 := ih qs hl2 (fun j y r hy hr => hq j y r (by rw [List.getElem?_append_left (by have := (List.getElem?_eq_some_iff.1 hy).1; omega)]; exact hy) (by rw [List.getElem?_append_left (by have := (List.getElem?_eq_some_iff.1 hr).1; omega)]; exact hr))
    obtain ⟨e1, c, h3⟩ := hq ys.length x q (by simp) (by rw [← hl2]; simp)
    obtain ⟨p, b, D⟩ := q
    obtain rfl : p = Z := by
      have e2 : p = x.p := e1
      rw [hp] at e2
      omega
    have h4 : RK L n p b c S 0 D := by
      have h5 := h3
      rw [hp, hs, Nat.zero_add] at h5
      exact h5
    exact Pl.snoc h2 h4
end Go.Proofs.Ytlfgikhjcimppab

/-
  Ranges over functions, also over one that itself ranges over another. A range over a function whose rounds are told, beside what they are handed, what lies there: the contract of such an iterator, and the caller's law. Nothing here speaks of the program.
-/
namespace Go.Proofs.Ytlfgikhjcimppab
open Go.RowKit Go.Shelf
set_option linter.unusedVariables false

/-- What a round says to the iterator. -/
def Said {α : Type} (J Jx : List α → World → Prop) (Kp : World → World → Prop) (xs : List α) (W : World) (e : Ending) (W' : World) : Prop :=
  (e = .returned (.bool true) ∧ J xs W' ∧ Kp W W') ∨ (e = .returned (.bool false) ∧ Jx xs W')
/-- An iterator that hands on only what Tx tells of the world in which it does (and of how many blocks there were when it was called). -/
def SeqTold {α : Type} (F : Fence) (n : Nat) (P : Program) (g : Nat) (lb : Array Value) (encs : α → Array Value) (Tx : Nat → List α → α → World → Prop) (Kp : World → World → Prop) (S Sp : List α → Prop) (w : World) : Prop :=
  ∀ (l : Nat) (J Jx : List α → World → Prop) (W : World), Below w.heap.size w W → AbidesFrom W.heap.size J → AbidesFrom W.heap.size Jx →
    (∀ pre x W1, J pre W1 → Tx W.heap.size pre x W1 → YieldAt F (n - 1) P l (encs x) W1 (Said J Jx Kp (pre ++ [x]) W1)) → J [] W →
    CallsIn F n P g (#[.func (.yield l) #[] #[]] ++ lb) W fun e W' => (∃ v, e = .returned v) ∧ ((∃ xs, S xs ∧ J xs W') ∨ (∃ pre, Sp pre ∧ Jx pre W'))
/-- Where no depth is asked the figures are all one. -/
theorem yield_deep {F : Fence} (hd : F.depth = none) {m : Nat} (m' : Nat) {P : Program} {l : Nat} {args : Array Value} {W : World} {R : Ending → World → Prop} (h : YieldAt F m P l args W R) : YieldAt F m' P l args W R := by
  obtain ⟨fn, tmps, assign, body, hy, hR⟩ := h
  exact ⟨fn, tmps, assign, body, hy, hR.1, fun c cs _ => hR.2 c cs (fun d h => by rw [hd] at h; cases h)⟩
section
variable {F : Fence} {n : Nat} {P : Program} {w : World}

/-- The record of a loop that is under way, and the block of what its rounds defer. -/
structure Book (B : Nat) (r : Loop) (W : World) : Prop where
  lp : W.heap[B + 1]? = some (.loop r)
  df : W.heap[B]? = some (.deferred (some []))
theorem Book.lt {B : Nat} {r : Loop} {W : World} (h : Book B r W) : B + 1 < W.heap.size := (Array.getElem?_eq_some_iff.1 h.lp).1
theorem Book.put {B : Nat} {r r' : Loop} {W : World} (h : Book B r W) : Book B r' (W.putObj (B + 1) (.loop r')) :=
  ⟨World.putObj_heap_same h.lt, (World.putObj_heap_other (by omega)).trans h.df⟩
theorem Book.kept {B : Nat} {r : Loop} {W W' : World} (h : Book B r W) (hk : KeepsFrom B W W') : Book B r W' :=
  ⟨hk.same _ _ (by omega) h.lp rfl, hk.same _ _ (Nat.le_refl _) h.df rfl⟩
theorem Book.grown {B B' : Nat} {r : Loop} {W W' : World} {row : Option Nat} (h : Book B r W) (hg : W.grownBy W' row) (hr : ∀ q, row = some q → B' ≤ q ∧ ∃ o : Obj, W.heap[q]? = some o ∧ o.isWalk = true) : Book B r W' :=
  ⟨(grownBy_keeps hg (fun q e => (hr q e).2) h.lp rfl).trans h.lp, (grownBy_keeps hg (fun q e => (hr q e).2) h.df rfl).trans h.df⟩
/-- One round, where the loop's record says 'ready'. -/
theorem round_told {α : Type} {ps : Array Tmp} {assign body : Code} {a : Act} {encs : α → Array Value} {Kp : World → World → Prop}
    (hKt : ∀ {A B C : World}, Kp A B → Kp B C → Kp A C) (hKb : ∀ (W : World) (l : Nat) (o o' : Obj), w.heap.size ≤ l → W.heap[l]? = some o → o.isCells = false → o.isWalk = false → Kp W (W.putObj l o'))
    (hps : ∀ x, (encs x).size = ps.size) (I : List α → World → Prop) (Ix : Code → List α → World → Prop) (hI : OwnFrom w.heap.size I) (hIx : ∀ c, OwnFrom w.heap.size (Ix c))
    (Ax : List α → α → Act → World → Prop) (hAx : ∀ pre x a', OwnFrom w.heap.size (fun (_ : Unit) W => Ax pre x a' W))
    {fn : FuncId} (hfn : F.fn fn) (r : LoopState → Option Code → Loop) (hr : r = fun st pe => { state := st, pending := pe, fn, tmps := a.tmps, params := ps, assign, body, defers := w.heap.size })
    (pre : List α) (x : α) (W : World) (hi : I pre W) (hb : Book w.heap.size (r .ready none) W)
    (hassign : ∀ K : Act → World → Prop, (∀ a' W', KeepsFrom w.heap.size W W' → Kp W W' → I pre W' → Ax pre x a' W' → K a' W') →
      assign.wpIn (F.inRound (w.heap.size + 1)) (n - 1 - 1) P (Exit.then K (fun _ _ _ => False)) { tmps := (ps.zip (encs x)).foldl (fun t (p, v) => t.setIfInBounds p v) a.tmps, defers := [] } W)
    (hbody : ∀ a' W', (∃ q, W'.heap[w.heap.size + 1]? = some (.loop q)) → I pre W' → Ax pre x a' W' → body.wpIn (F.inRound (w.heap.size + 1)) (n - 1 - 1) P (ownPostG w.heap.size Kp I Ix (pre ++ [x]) W') a' W') :
    YieldAt F (n - 1 - 1) P (w.heap.size + 1) (encs x) W (Said (fun s V => I s V ∧ Book w.heap.size (r .ready none) V) (fun s V => ∃ c, Ix c s V ∧ Book w.heap.size (r .done (some c)) V) Kp (pre ++ [x]) W) := by
  have hy := run_yield (P := P) (args := encs x) hb.lp (by rw [hr]; exact hps x)
  rw [hr] at hy
  refine ⟨fn, _, assign, body, hy, roundIn_of_wpIn hfn (hassign _ ?_)⟩
  intro a' V hkf hkp hiV hax
  have hbV := hb.kept hkf
  refine ⟨_, run_beginRound hbV.lp (by rw [hr]), ?_⟩
  have hb2 : Book w.heap.size { r .ready none with state := .busy } (V.putObj (w.heap.size + 1) (.loop { r .ready none with state := .busy })) := hbV.put
  have hk2 := hKb V _ _ (.loop { r .ready none with state := .busy }) (by omega) hbV.lp rfl rfl
  refine wpIn_mono (hbody a' _ ⟨_, hb2.lp⟩ (hI.putObj _ hiV (by omega) hbV.lp rfl) ((hAx pre x a').putObj (s := ()) _ hax (by omega) hbV.lp rfl)) ?_
  have close : ∀ (jump : Option Code) (V3 : World), KeepsFrom w.heap.size (V.putObj (w.heap.size + 1) (.loop { r .ready none with state := .busy })) V3 →
      (Instr.endRound (w.heap.size + 1) jump).run P V3 = .ok (.bool jump.isNone) (V3.putObj (w.heap.size + 1) (.loop (r (if jump.isNone then .ready else .done) jump))) ∧
      Book w.heap.size { r .ready none with state := .busy } V3 := fun jump V3 h3 => by
    have hb3 := hb2.kept h3
    have hrun := run_endRound (P := P) jump hb3.lp
    refine ⟨?_, hb3⟩
    rw [hr] at hrun ⊢
    exact hrun
  have leave : ∀ (c : Code) (V3 : World), KeepsFrom w.heap.size (V.putObj (w.heap.size + 1) (.loop { r .ready none with state := .busy })) V3 → Ix c (pre ++ [x]) V3 →
      ∃ v V4, (Instr.endRound (w.heap.size + 1) (some c)).run P V3 = .ok v V4 ∧ Said (fun s V => I s V ∧ Book w.heap.size (r .ready none) V) (fun s V => ∃ c, Ix c s V ∧ Book w.heap.size (r .done (some c)) V) Kp (pre ++ [x]) W (.returned v) V4 := fun c V3 h3 hx => by
    obtain ⟨h4, h5⟩ := close (some c) V3 h3
    exact ⟨_, _, h4, Or.inr ⟨rfl, c, (hIx c).putObj _ hx (by omega) h5.lp rfl, h5.put⟩⟩
  rintro e a3 V3 hp
  cases e with
  | normal =>
    obtain ⟨h3, h4, h5⟩ := hp
    obtain ⟨h6, h7⟩ := close none V3 h3
    exact ⟨_, _, h6, Or.inl ⟨rfl, ⟨hI.putObj _ h5 (by omega) h7.lp rfl, h7.put⟩, hKt hkp (hKt (hKt hk2 h4) (hKb _ _ _ _ (by omega) h7.lp rfl rfl))⟩⟩
  | ret => exact leave .ret V3 hp.1 hp.2
  | exit id => exact leave (.exit id) V3 hp.1 hp.2
  | goto t => exact leave (.goto t) V3 hp.1 hp.2
  | panic ch => exact hp.elim
  | outgrown => exact hp.elim
/-- The caller's law. -/
theorem wpIn_rangeFunc_told {α : Type} {g : Operand} {ps : Array Tmp} {assign body : Code} {Q : Exit → Act → World → Prop} {a : Act}
    (hro : F.round = none) (h1 : 1 ≤ n) {gf : Nat} {lb : Array Value} (hg : a.eval g = .func (.func gf) #[] lb) (hFg : F.fn gf) (eg : ∀ args w, (callFunc gf args).run P w = .ok (.enter gf args) w)
    {encs : α → Array Value} {Tx : Nat → List α → α → World → Prop} {Kp : World → World → Prop} {S Sp : List α → Prop} {w0 : World} (hseq : SeqTold F (n - 1) P gf lb encs Tx Kp S Sp w0)
    (hKt : ∀ {A B C : World}, Kp A B → Kp B C → Kp A C) (hKb : ∀ (W : World) (l : Nat) (o o' : Obj), w.heap.size ≤ l → W.heap[l]? = some o → o.isCells = false → o.isWalk = false → Kp W (W.putObj l o')) (hb0 : Below w0.heap.size w0 w) (hps : ∀ x, (encs x).size = ps.size)
    (I : List α → World → Prop) (Ix : Code → List α → World → Prop) (hI : OwnFrom w.heap.size I) (hIx : ∀ c, OwnFrom w.heap.size (Ix c)) (h0 : I [] w) (Ax : List α → α → Act → World → Prop) (hAx : ∀ pre x a', OwnFrom w.heap.size (fun (_ : Unit) W => Ax pre x a' W))
    (hassign : ∀ (pre : List α) (x : α) (W : World) (K : Act → World → Prop), I pre W → Tx (w.heap.size + 2) pre x W → (∀ a' W', KeepsFrom w.heap.size W W' → Kp W W' → I pre W' → Ax pre x a' W' → K a' W') →
      assign.wpIn (F.inRound (w.heap.size + 1)) (n - 1 - 1) P (Exit.then K (fun _ _ _ => False)) { tmps := (ps.zip (encs x)).foldl (fun t (p, v) => t.setIfInBounds p v) a.tmps, defers := [] } W)
    (hbody : ∀ (pre : List α) (x : α) (a' : Act) (W : World), (∃ q, W.heap[w.heap.size + 1]? = some (.loop q)) → I pre W → Ax pre x a' W → body.wpIn (F.inRound (w.heap.size + 1)) (n - 1 - 1) P (ownPostG w.heap.size Kp I Ix (pre ++ [x]) W) a' W)
    (hdone : ∀ (D : Nat) (xs : List α) (W : World), w.heap.size ≤ D → S xs → I xs W → W.heap[D]? = some (.deferred (some [])) → Q .normal { a with defers := { target := .collected D, args := #[] } :: a.defers } W)
    (hstop : ∀ (D : Nat) (c : Code) (pre : List α) (W : World), w.heap.size ≤ D → Sp pre → Ix c pre W → W.heap[D]? = some (.deferred (some [])) → c.wpIn F n P Q { a with defers := { target := .collected D, args := #[] } :: a.defers } W) :
    (Code.rangeFunc g ps assign body).wpIn F n P Q a w := by
  refine wpIn_rangeFunc fun fn hfn => ?_
  rw [hro]
  obtain ⟨r, hr⟩ : ∃ r : LoopState → Option Code → Loop, r = fun st pe => { state := st, pending := pe, fn, tmps := a.tmps, params := ps, assign, body, defers := w.heap.size } := ⟨_, rfl⟩
  obtain ⟨V, hV⟩ : ∃ V, (w.alloc (.deferred (some []))).alloc (.loop (r .ready none)) = V := ⟨_, rfl⟩
  have hb : Book w.heap.size (r .ready none) V := by
    rw [← hV]
    have h9 := World.alloc_heap_new (w.alloc (.deferred (some []))) (.loop (r .ready none))
    rw [World.size_alloc] at h9
    exact ⟨h9, (Below.heap_alloc _ _ _ (by simp)).trans (World.alloc_heap_new w _)⟩
  have hIV : I [] V := by rw [← hV]; exact hI.alloc _ (hI.alloc _ h0)
  have hBV : Below w0.heap.size w0 V := by
    rw [← hV]
    exact hb0.trans ((((Below.refl _ w).alloc (Nat.le_refl _) _).alloc (by simp) _).mono hb0.size)
  have hVs : V.heap.size = w.heap.size + 2 := by rw [← hV]; simp
  have turn : ∀ {A : World} {row : Option Nat}, (∀ q, row = some q → V.heap.size ≤ q ∧ ∃ o : Obj, A.heap[q]? = some o ∧ o.isWalk = true) → ∀ q, row = some q → w.heap.size ≤ q ∧ ∃ o : Obj, A.heap[q]? = some o ∧ o.isCells = false := fun h q e => by
    obtain ⟨h2, o, h3, h4⟩ := h q e
    exact ⟨by omega, o, h3, Obj.not_cells_of_walk h4⟩
  refine ⟨w.heap.size + 1, [{ target := .collected w.heap.size, args := #[] }], V, { target := .fn (.func gf) lb, args := #[.func (.yield (w.heap.size + 1)) #[] #[]] }, V, gf, #[.func (.yield (w.heap.size + 1)) #[] #[]] ++ lb, V, ?_, ?_, ?_, ?_, fun _ => h1, ?_⟩
  · rw [← hV, hr]; exact run_enterLoop_outer _ _ _ _ _
  · simp only [resolve, hg]
    simp [go_sem]
  · intro f' hf'
    simp [Target.leads] at hf'
    subst hf'
    exact hFg
  · simp [invoke, go_sem, eg]
  · refine (hseq (w.heap.size + 1) (fun s W => I s W ∧ Book w.heap.size (r .ready none) W) (fun s W => ∃ c, Ix c s W ∧ Book w.heap.size (r .done (some c)) W) V hBV
      (fun s A B row hs hg' hq => ⟨hI s A B row hs.1 hg' (turn hq), hs.2.grown hg' hq⟩)
      (fun s A B row ⟨c, h2, h3⟩ hg' hq => ⟨c, hIx c s A B row h2 hg' (turn hq), h3.grown hg' hq⟩)
      (fun pre x W hJ hT => round_told (Kp := Kp) (fun h k => hKt h k) hKb hps I Ix hI hIx Ax hAx hfn r hr pre x W hJ.1 hJ.2 (fun K hK => hassign pre x W K hJ.1 (hVs ▸ hT) hK) (fun a' W' hq hi hx => hbody pre x a' W' hq hi hx)) ⟨hIV, hb⟩).mono ?_
    rintro e W2 ⟨⟨v, rfl⟩, ⟨xs, hS, hi, h2⟩ | ⟨pre, hSp, c, hi, h2⟩⟩
    · have h3 := run_endLoop (P := P) h2.lp (by rw [hr]; simp)
      rw [show (r .ready none).pending = none by rw [hr]] at h3
      exact ⟨none, _, h3, hdone _ xs _ (Nat.le_refl _) hS (hI.putObj _ hi (by omega) h2.lp rfl) ((World.putObj_heap_other (by omega)).trans h2.df)⟩
    · have h3 := run_endLoop (P := P) h2.lp (by rw [hr]; simp)
      rw [show (r .done (some c)).pending = some c by rw [hr]] at h3
      exact ⟨some c, _, h3, hstop _ c pre _ (Nat.le_refl _) hSp ((hIx c).putObj _ hi (by omega) h2.lp rfl) ((World.putObj_heap_other (by omega)).trans h2.df)⟩
theorem keeps_up {B B' : Nat} {W W' : World} (h : KeepsFrom B W W') (hB : B ≤ B') : KeepsFrom B' W W' := ⟨h.size, fun k o hk => h.same k o (Nat.le_trans hB hk)⟩
theorem keeps_put {B l : Nat} {W : World} (o : Obj) (hl : l < B) : KeepsFrom B W (W.putObj l o) := KeepsFrom.of_grownBy (grownBy_putObj' W l o) (fun j e => by cases e; exact hl)
/-- What a round says, and that it keeps what is no cells from B on. -/
def SaidK {α : Type} (B : Nat) (J Jx : List α → World → Prop) (Kp : World → World → Prop) (xs : List α) (W : World) (e : Ending) (W' : World) : Prop :=
  (e = .returned (.bool true) ∧ J xs W' ∧ Kp W W' ∧ KeepsFrom B W W') ∨ (e = .returned (.bool false) ∧ Jx xs W' ∧ KeepsFrom B W W')
/-- An iterator whose own loops turn their records between two rounds: what stands between two rounds speaks of cells, and of what lay there when it was called; and a round keeps those records. -/
def SeqOwn {α : Type} (F : Fence) (n : Nat) (P : Program) (g : Nat) (lb : Array Value) (encs : α → Array Value) (Tx : Nat → List α → α → World → Prop) (Kp : World → World → Prop) (S Sp : List α → Prop) (w : World) : Prop :=
  ∀ (l : Nat) (J Jx : List α → World → Prop) (W : World), Below w.heap.size w W → OwnFrom W.heap.size J → OwnFrom W.heap.size Jx →
    (∀ pre x W1, J pre W1 → Tx W.heap.size pre x W1 → YieldAt F (n - 1) P l (encs x) W1 (SaidK W.heap.size J Jx Kp (pre ++ [x]) W1)) → J [] W →
    CallsIn F n P g (#[.func (.yield l) #[] #[]] ++ lb) W fun e W' => (∃ v, e = .returned v) ∧ ((∃ xs, S xs ∧ J xs W') ∨ (∃ pre, Sp pre ∧ Jx pre W'))
theorem Book.far {B : Nat} {r : Loop} {W W' : World} {row : Option Nat} (h : Book B r W) (hg : W.grownBy W' row) (hr : ∀ q, row = some q → B + 2 ≤ q) : Book B r W' := by
  have hl := h.lt
  exact ⟨(hg.block _ hl (fun e => by have := hr _ e.symm; omega)).trans h.lp, (hg.block _ (by omega) (fun e => by have := hr _ e.symm; omega)).trans h.df⟩
/-- The same, and what lies behind the loop's record is kept. -/
theorem round_keeps {α : Type} {ps : Array Tmp} {assign body : Code} {a : Act} {encs : α → Array Value} {Kp : World → World → Prop}
    (hKt : ∀ {A B C : World}, Kp A B → Kp B C → Kp A C) (hKb : ∀ (W : World) (l : Nat) (o o' : Obj), w.heap.size ≤ l → W.heap[l]? = some o → o.isCells = false → o.isWalk = false → Kp W (W.putObj l o'))
    (hps : ∀ x, (encs x).size = ps.size) (I : List α → World → Prop) (Ix : Code → List α → World → Prop) (hI : OwnFrom w.heap.size I) (hIx : ∀ c, OwnFrom w.heap.size (Ix c))
    (Ax : List α → α → Act → World → Prop) (hAx : ∀ pre x a', OwnFrom w.heap.size (fun (_ : Unit) W => Ax pre x a' W))
    {fn : FuncId} (hfn : F.fn fn) (r : LoopState → Option Code → Loop) (hr : r = fun st pe => { state := st, pending := pe, fn, tmps := a.tmps, params := ps, assign, body, defers := w.heap.size })
    (pre : List α) (x : α) (W : World) (hi : I pre W) (hb : Book w.heap.size (r .ready none) W)
    (hassign : ∀ K : Act → World → Prop, (∀ a' W', KeepsFrom w.heap.size W W' → Kp W W' → I pre W' → Ax pre x a' W' → K a' W') →
      assign.wpIn (F.inRound (w.heap.size + 1)) (n - 1 - 1) P (Exit.then K (fun _ _ _ => False)) { tmps := (ps.zip (encs x)).foldl (fun t (p, v) => t.setIfInBounds p v) a.tmps, defers := [] } W)
    (hbody : ∀ a' W', (∃ q, W'.heap[w.heap.size + 1]? = some (.loop q)) → I pre W' → Ax pre x a' W' → body.wpIn (F.inRound (w.heap.size + 1)) (n - 1 - 1) P (ownPostG w.heap.size Kp I Ix (pre ++ [x]) W') a' W') :
    YieldAt F (n - 1 - 1) P (w.heap.size + 1) (encs x) W (SaidK (w.heap.size + 2) (fun s V => I s V ∧ Book w.heap.size (r .ready none) V) (fun s V => ∃ c, Ix c s V ∧ Book w.heap.size (r .done (some c)) V) Kp (pre ++ [x]) W) := by
  have hy := run_yield (P := P) (args := encs x) hb.lp (by rw [hr]; exact hps x)
  rw [hr] at hy
  refine ⟨fn, _, assign, body, hy, roundIn_of_wpIn hfn (hassign _ ?_)⟩
  intro a' V hkf hkp hiV hax
  have hbV := hb.kept hkf
  refine ⟨_, run_beginRound hbV.lp (by rw [hr]), ?_⟩
  have hb2 : Book w.heap.size { r .ready none with state := .busy } (V.putObj (w.heap.size + 1) (.loop { r .ready none with state := .busy })) := hbV.put
  have kf2 : KeepsFrom (w.heap.size + 2) W (V.putObj (w.heap.size + 1) (.loop { r .ready none with state := .busy })) := (keeps_up hkf (by omega)).trans (keeps_put _ (by omega))
  have hk2 := hKb V _ _ (.loop { r .ready none with state := .busy }) (by omega) hbV.lp rfl rfl
  refine wpIn_mono (hbody a' _ ⟨_, hb2.lp⟩ (hI.putObj _ hiV (by omega) hbV.lp rfl) ((hAx pre x a').putObj (s := ()) _ hax (by omega) hbV.lp rfl)) ?_
  have close : ∀ (jump : Option Code) (V3 : World), KeepsFrom w.heap.size (V.putObj (w.heap.size + 1) (.loop { r .ready none with state := .busy })) V3 →
      (Instr.endRound (w.heap.size + 1) jump).run P V3 = .ok (.bool jump.isNone) (V3.putObj (w.heap.size + 1) (.loop (r (if jump.isNone then .ready else .done) jump))) ∧
      Book w.heap.size { r .ready none with state := .busy } V3 := fun jump V3 h3 => by
    have hb3 := hb2.kept h3
    have hrun := run_endRound (P := P) jump hb3.lp
    refine ⟨?_, hb3⟩
    rw [hr] at hrun ⊢
    exact hrun
  have leave : ∀ (c : Code) (V3 : World), KeepsFrom w.heap.size (V.putObj (w.heap.size + 1) (.loop { r .ready none with state := .busy })) V3 → Ix c (pre ++ [x]) V3 →
      ∃ v V4, (Instr.endRound (w.heap.size + 1) (some c)).run P V3 = .ok v V4 ∧ SaidK (w.heap.size + 2) (fun s V => I s V ∧ Book w.heap.size (r .ready none) V) (fun s V => ∃ c, Ix c s V ∧ Book w.heap.size (r .done (some c)) V) Kp (pre ++ [x]) W (.returned v) V4 := fun c V3 h3 hx => by
    obtain ⟨h4, h5⟩ := close (some c) V3 h3
    exact ⟨_, _, h4, Or.inr ⟨rfl, ⟨c, (hIx c).putObj _ hx (by omega) h5.lp rfl, h5.put⟩, (kf2.trans (keeps_up h3 (by omega))).trans (keeps_put _ (by omega))⟩⟩
  rintro e a3 V3 hp
  cases e with
  | normal =>
    obtain ⟨h3, h4, h5⟩ := hp
    obtain ⟨h6, h7⟩ := close none V3 h3
    exact ⟨_, _, h6, Or.inl ⟨rfl, ⟨hI.putObj _ h5 (by omega) h7.lp rfl, h7.put⟩, hKt hkp (hKt (hKt hk2 h4) (hKb _ _ _ _ (by omega) h7.lp rfl rfl)), (kf2.trans (keeps_up h3 (by omega))).trans (keeps_put _ (by omega))⟩⟩
  | ret => exact leave .ret V3 hp.1 hp.2
  | exit id => exact leave (.exit id) V3 hp.1 hp.2
  | goto t => exact leave (.goto t) V3 hp.1 hp.2
  | panic ch => exact hp.elim
  | outgrown => exact hp.elim
/-- The caller's law for such an iterator. -/
theorem wpIn_rangeFunc_keeps {α : Type} {g : Operand} {ps : Array Tmp} {assign body : Code} {Q : Exit → Act → World → Prop} {a : Act}
    (hro : F.round = none) (h1 : 1 ≤ n) {gf : Nat} {lb : Array Value} (hg : a.eval g = .func (.func gf) #[] lb) (hFg : F.fn gf) (eg : ∀ args w, (callFunc gf args).run P w = .ok (.enter gf args) w)
    {encs : α → Array Value} {Tx : Nat → List α → α → World → Prop} {Kp : World → World → Prop} {S Sp : List α → Prop} {w0 : World} (hseq : SeqOwn F (n - 1) P gf lb encs Tx Kp S Sp w0)
    (hKt : ∀ {A B C : World}, Kp A B → Kp B C → Kp A C) (hKb : ∀ (W : World) (l : Nat) (o o' : Obj), w.heap.size ≤ l → W.heap[l]? = some o → o.isCells = false → o.isWalk = false → Kp W (W.putObj l o')) (hb0 : Below w0.heap.size w0 w) (hps : ∀ x, (encs x).size = ps.size)
    (I : List α → World → Prop) (Ix : Code → List α → World → Prop) (hI : OwnFrom w.heap.size I) (hIx : ∀ c, OwnFrom w.heap.size (Ix c)) (h0 : I [] w) (Ax : List α → α → Act → World → Prop) (hAx : ∀ pre x a', OwnFrom w.heap.size (fun (_ : Unit) W => Ax pre x a' W))
    (hassign : ∀ (pre : List α) (x : α) (W : World) (K : Act → World → Prop), I pre W → Tx (w.heap.size + 2) pre x W → (∀ a' W', KeepsFrom w.heap.size W W' → Kp W W' → I pre W' → Ax pre x a' W' → K a' W') →
      assign.wpIn (F.inRound (w.heap.size + 1)) (n - 1 - 1) P (Exit.then K (fun _ _ _ => False)) { tmps := (ps.zip (encs x)).foldl (fun t (p, v) => t.setIfInBounds p v) a.tmps, defers := [] } W)
    (hbody : ∀ (pre : List α) (x : α) (a' : Act) (W : World), (∃ q, W.heap[w.heap.size + 1]? = some (.loop q)) → I pre W → Ax pre x a' W → body.wpIn (F.inRound (w.heap.size + 1)) (n - 1 - 1) P (ownPostG w.heap.size Kp I Ix (pre ++ [x]) W) a' W)
    (hdone : ∀ (D : Nat) (xs : List α) (W : World), w.heap.size ≤ D → S xs → I xs W → W.heap[D]? = some (.deferred (some [])) → Q .normal { a with defers := { target := .collected D, args := #[] } :: a.defers } W)
    (hstop : ∀ (D : Nat) (c : Code) (pre : List α) (W : World), w.heap.size ≤ D → Sp pre → Ix c pre W → W.heap[D]? = some (.deferred (some [])) → c.wpIn F n P Q { a with defers := { target := .collected D, args := #[] } :: a.defers } W) :
    (Code.rangeFunc g ps assign body).wpIn F n P Q a w := by
  refine wpIn_rangeFunc fun fn hfn => ?_
  rw [hro]
  obtain ⟨r, hr⟩ : ∃ r : LoopState → Option Code → Loop, r = fun st pe => { state := st, pending := pe, fn, tmps := a.tmps, params := ps, assign, body, defers := w.heap.size } := ⟨_, rfl⟩
  obtain ⟨V, hV⟩ : ∃ V, (w.alloc (.deferred (some []))).alloc (.loop (r .ready none)) = V := ⟨_, rfl⟩
  have hb : Book w.heap.size (r .ready none) V := by
    rw [← hV]
    have h9 := World.alloc_heap_new (w.alloc (.deferred (some []))) (.loop (r .ready none))
    rw [World.size_alloc] at h9
    exact ⟨h9, (Below.heap_alloc _ _ _ (by simp)).trans (World.alloc_heap_new w _)⟩
  have hIV : I [] V := by rw [← hV]; exact hI.alloc _ (hI.alloc _ h0)
  have hBV : Below w0.heap.size w0 V := by
    rw [← hV]
    exact hb0.trans ((((Below.refl _ w).alloc (Nat.le_refl _) _).alloc (by simp) _).mono hb0.size)
  have hVs : V.heap.size = w.heap.size + 2 := by rw [← hV]; simp
  refine ⟨w.heap.size + 1, [{ target := .collected w.heap.size, args := #[] }], V, { target := .fn (.func gf) lb, args := #[.func (.yield (w.heap.size + 1)) #[] #[]] }, V, gf, #[.func (.yield (w.heap.size + 1)) #[] #[]] ++ lb, V, ?_, ?_, ?_, ?_, fun _ => h1, ?_⟩
  · rw [← hV, hr]; exact run_enterLoop_outer _ _ _ _ _
  · simp only [resolve, hg]
    simp [go_sem]
  · intro f' hf'
    simp [Target.leads] at hf'
    subst hf'
    exact hFg
  · simp [invoke, go_sem, eg]
  · refine (hseq (w.heap.size + 1) (fun s W => I s W ∧ Book w.heap.size (r .ready none) W) (fun s W => ∃ c, Ix c s W ∧ Book w.heap.size (r .done (some c)) W) V hBV
      (fun s A B row hs hg' hq => ⟨hI s A B row hs.1 hg' (fun q e => ⟨by have := (hq q e).1; omega, (hq q e).2⟩), hs.2.far hg' (fun q e => by have := (hq q e).1; omega)⟩)
      (fun s A B row ⟨c, h2, h3⟩ hg' hq => ⟨c, hIx c s A B row h2 hg' (fun q e => ⟨by have := (hq q e).1; omega, (hq q e).2⟩), h3.far hg' (fun q e => by have := (hq q e).1; omega)⟩)
      (fun pre x W hJ hT => by rw [hVs]; exact round_keeps (Kp := Kp) (fun h k => hKt h k) hKb hps I Ix hI hIx Ax hAx hfn r hr pre x W hJ.1 hJ.2 (fun K hK => hassign pre x W K hJ.1 (hVs ▸ hT) hK) (fun a' W' hq hi hx => hbody pre x a' W' hq hi hx)) ⟨hIV, hb⟩).mono ?_
    rintro e W2 ⟨⟨v, rfl⟩, ⟨xs, hS, hi, h2⟩ | ⟨pre, hSp, c, hi, h2⟩⟩
    · have h3 := run_endLoop (P := P) h2.lp (by rw [hr]; simp)
      rw [show (r .ready none).pending = none by rw [hr]] at h3
      exact ⟨none, _, h3, hdone _ xs _ (Nat.le_refl _) hS (hI.putObj _ hi (by omega) h2.lp rfl) ((World.putObj_heap_other (by omega)).trans h2.df)⟩
    · have h3 := run_endLoop (P := P) h2.lp (by rw [hr]; simp)
      rw [show (r .done (some c)).pending = some c by rw [hr]] at h3
      exact ⟨some c, _, h3, hstop _ c pre _ (Nat.le_refl _) hSp ((hIx c).putObj _ hi (by omega) h2.lp rfl) ((World.putObj_heap_other (by omega)).trans h2.df)⟩
end
end Go.Proofs.Ytlfgikhjcimppab

/-
  wholes' closure as an iterator that tells what lies at what it hands on.
-/
namespace Go.Proofs.Ytlfgikhjcimppab
open Go.RowKit Go.Shelf
set_option linter.unusedVariables false
attribute [local go_sem] Oper.semAt_some

theorem find_told (w : World) (ao : Option Addr) (n cap i : Nat) (L : List UInt8) (h : Bp w ao n cap L) (hi : i ≤ n) :
    Calls Try.prog 22 #[.slice ao n cap, .int .i64 i] w fun e w' => w.grownBy w' none ∧ ((∃ C, C ≠ 0 ∧ RK L n i 0 0 0 C [] ∧ e = .returned (.tuple #[.agg #[.int .i64 0, .slice none 0 0, .int .i64 0], .int .i64 C])) ∨
      (∃ (S : Nat) (b : Int) (c : Nat) (ro : Option Addr) (rc : Nat) (rs : List Rc), 32 ≤ S ∧ i + S ≤ n ∧ c ≤ 65536 ∧ RK L n i b c S 0 (ds rs) ∧ Rs w' ro c rc rs ∧ (∀ r ∈ rs, r.kn ≤ 1048576 ∧ r.vn ≤ 1048576) ∧ e = .returned (.tuple #[.agg #[.int .i64 b, .slice ro c rc, .int .i64 S], .int .i64 0]))) := by
  have hp : plcB n (i : Int) = true := by unfold plcB; simp; omega
  have hno : ∀ C, NoAt (L.drop i) C → C ≠ 0 ∧ RK L n i 0 0 0 C [] := fun C hN => ⟨hN.1, Or.inr (Or.inl ⟨hp, by simpa using hN, rfl, rfl, rfl, rfl⟩)⟩
  by_cases h0 : (extR (L.drop i)).2 = 0
  · have hE : extR (L.drop i) = ((extR (L.drop i)).1, 0) := by rw [← h0]
    obtain ⟨s1, s2, s3, _⟩ := extR_ok hE
    have hl := h.bs.len
    rw [List.length_drop, hl] at s3
    by_cases hW : Whole ((L.drop i).take (extR (L.drop i)).1) (extR (L.drop i)).1
    · obtain ⟨b, o, rfl, _⟩ := h.bs.addr (by omega)
      have hins : ∀ j, j < cAt ((L.drop i).take (extR (L.drop i)).1) → posAt ((L.drop i).take (extR (L.drop i)).1) (j + 1) ≤ (extR (L.drop i)).1 := hW.ins
      have htop := hW.top
      have hlow := hW.low
      have hpos0 : 20 + 12 * cAt ((L.drop i).take (extR (L.drop i)).1) ≤ (extR (L.drop i)).1 := by have := pos_ge ((L.drop i).take (extR (L.drop i)).1) (cAt ((L.drop i).take (extR (L.drop i)).1)); rw [hW.fin] at this; exact this
      refine (find_yes w b o n cap i _ L h.bs hi h.top h.cap hE (by omega) hW).mono ?_
      rintro e w' ⟨base, ro, rc, cs, hba, rfl, hR, hCut, hg⟩
      have hRK : ∀ D : List Dr, D.length = cAt ((L.drop i).take (extR (L.drop i)).1) → (∀ j d, D[j]? = some d → Says ((L.drop i).take (extR (L.drop i)).1) (posAt ((L.drop i).take (extR (L.drop i)).1) j) d) → RK L n i (bAt ((L.drop i).take (extR (L.drop i)).1)) (cAt ((L.drop i).take (extR (L.drop i)).1)) (extR (L.drop i)).1 0 D := fun D h1 h2 =>
        Or.inr (Or.inr ⟨hp, by simpa using hE, by simpa using hW, by simp, by simp, rfl, by simpa using h1, by simpa using h2⟩)
      clear hE hW
      generalize (extR (L.drop i)).1 = S at *
      generalize ((L.drop i).take S) = B at *
      have hcl := hR.len
      have hkn : ∀ r ∈ cs, Rk w' r ∧ r.kn ≤ 1048576 ∧ r.vn ≤ 1048576 := fun r hr => by
        obtain ⟨j, hj, hjr⟩ := List.getElem_of_mem hr
        have h9 := hCut j r (by rw [List.getElem?_eq_getElem hj, hjr])
        have hlj : posAt B (j + 1) ≤ S := hins j (by omega)
        have hpj : posAt B (j + 1) = posAt B j + 12 + kAt B (posAt B j) + vAt B (posAt B j) := rfl
        have e1 := h9.kn
        have e2 := h9.vn
        have k1 := h9.kb
        have k2 := h9.vb
        refine ⟨⟨?_, ?_, h9.key, h9.value, by omega, by omega⟩, by omega, by omega⟩
        · rw [h9.t]; unfold tAt wrap64; omega
        · rw [h9.t]; unfold tAt wrap64; omega
      refine ⟨hg, Or.inr ⟨S, _, _, ro, rc, cs, hlow, by omega, by omega, hRK (ds cs) (by rw [ds_len]; exact hcl) (fun j d hd => ?_), hR.shows (fun r hr => (hkn r hr).1), fun r hr => (hkn r hr).2, rfl⟩⟩
      unfold ds at hd
      rw [List.getElem?_map] at hd
      cases hc : cs[j]? with
      | none => rw [hc] at hd; cases hd
      | some r =>
        rw [hc] at hd
        simp at hd
        subst hd
        have h9 := hCut j r hc
        exact ⟨h9.t, by rw [← h9.kn]; exact h9.k, by rw [← h9.kn, ← h9.vn]; exact h9.v⟩
    · have hN : NoAt (L.drop i) 152 := ⟨by omega, Or.inr ⟨h0, rfl, hW⟩⟩
      refine (find_no w ao n cap i L 152 h hi hN).mono ?_
      rintro e w' ⟨rfl, hg⟩
      exact ⟨hg, Or.inl ⟨_, (hno _ hN).1, (hno _ hN).2, rfl⟩⟩
  · have hN : NoAt (L.drop i) (extR (L.drop i)).2 := ⟨h0, Or.inl rfl⟩
    refine (find_no w ao n cap i L _ h hi hN).mono ?_
    rintro e w' ⟨rfl, hg⟩
    exact ⟨hg, Or.inl ⟨_, (hno _ hN).1, (hno _ hN).2, rfl⟩⟩
/-- All blocks of cells but two are kept. -/
structure Kw (q : Nat) (W W' : World) : Prop where
  size : W.heap.size ≤ W'.heap.size
  same : ∀ (k : Nat) (o : Obj), W.heap[k]? = some o → o.isCells = true → k ≠ q → k ≠ q + 1 → W'.heap[k]? = some o
theorem Kw.trans {q : Nat} {A B C : World} (h : Kw q A B) (h' : Kw q B C) : Kw q A C := ⟨Nat.le_trans h.size h'.size, fun k o h1 h2 h3 h4 => h'.same k o (h.same k o h1 h2 h3 h4) h2 h3 h4⟩
theorem Kw.heap {q : Nat} {W W' : World} (h : Kw q W W') {k : Nat} {cs : Array Value} {t : TypeId} (hk : W.heap[k]? = some (.cells cs t)) (hq : k ≠ q ∧ k ≠ q + 1) : W'.heap[k]? = some (.cells cs t) := h.same k _ hk rfl hq.1 hq.2
theorem Kw.cell {q : Nat} {W W' : World} (h : Kw q W W') {a : Addr} {v : Value} (hc : W.cell? a = some v) (hq : a.block ≠ q ∧ a.block ≠ q + 1) : W'.cell? a = some v := by
  cases ho : W.heap[a.block]? with
  | none => simp [World.cell?, ho] at hc
  | some o =>
    by_cases hi : o.isCells = true
    · rw [World.cell?_of_block ((h.same _ o ho hi hq.1 hq.2).trans ho.symm)]
      exact hc
    · exfalso
      cases o <;> simp_all [World.cell?, Obj.isCells]
theorem Kw.of {q : Nat} {W W' : World} (h : W.grownBy W' none) : Kw q W W' := ⟨h.size, fun k o hk _ _ _ => heap_kept h hk (by simp)⟩
theorem Bs.kw {q : Nat} {W W' : World} {ao : Option Addr} {n cap : Nat} {L : List UInt8} (h : Bs W ao n cap L) (hk : Kw q W W') (hne : ∀ a, ao = some a → a.block ≠ q ∧ a.block ≠ q + 1) : Bs W' ao n cap L :=
  ⟨h.len, h.room, h.top, h.nil, fun a ha j u hu => hk.cell (h.cells a ha j u hu) (by rw [show (a.add j).block = a.block by unfold Addr.add; split <;> rfl]; exact hne a ha)⟩

/-- What a round is handed: a place, the batch that stands there, and its records. -/
structure Wy where
  p : Nat
  b : Int
  ro : Option Addr
  c : Nat
  rc : Nat
  s : Nat
  rs : List Rc
def yenc (x : Wy) : Array Value := #[.int .i64 x.p, .agg #[.int .i64 x.b, .slice x.ro x.c x.rc, .int .i64 x.s]]
def Wy.q (x : Wy) : Nat × Int × List Dr := (x.p, x.b, ds x.rs)
/-- What is told of it. -/
def Ytold (L : List UInt8) (n : Nat) (pre : List Wy) (x : Wy) (W : World) : Prop :=
  Pl L n (pre.map Wy.q) x.p ∧ RK L n x.p x.b x.c x.s 0 (ds x.rs) ∧ Rs W x.ro x.c x.rc x.rs ∧ (∀ r ∈ x.rs, r.kn ≤ 1048576 ∧ r.vn ≤ 1048576) ∧ x.c ≤ 65536
/-- All have come. -/
def Yend (L : List UInt8) (n : Nat) (ys : List (Nat × Int × List Dr)) : Prop := ∃ Z C, Pl L n ys Z ∧ RK L n Z 0 0 0 C [] ∧ C ≠ 0
set_option maxRecDepth 100000 in
set_option maxHeartbeats 2000000 in
theorem wholes1_told (l ca cb q : Nat) (ao : Option Addr) (n cap : Nat) (L : List UInt8) (hn : n ≤ 1048576) (J Jx : List Wy → World → Prop) (m : Nat) (hm : 1 ≤ m)
    (hJ : ∀ s W W', J s W → W.grownBy W' none → J s W') (hJx : ∀ s W W', Jx s W → W.grownBy W' none → Jx s W')
    (hY : ∀ pre x W1, J pre W1 → Ytold L n pre x W1 → YieldAt Fence.wide (m - 1) Try.prog l (yenc x) W1 (Said J Jx (Kw q) (pre ++ [x]) W1))
    (W : World) (hca : W.cell? ⟨ca, 0, none⟩ = some (.int .i64 (0 : Nat))) (hcb : W.heap[cb]? = some (.cells #[.slice ao n cap] 23)) (hcq : cb ≠ q ∧ cb ≠ q + 1) (hql : q + 1 < W.heap.size) (hB : ∀ W', Kw q W W' → Bp W' ao n cap L) (h0 : J [] W) :
    CallsIn Fence.wide m Try.prog 31 #[.func (.yield l) #[] #[], .pointer (some ⟨ca, 0, none⟩), .pointer (some ⟨cb, 0, none⟩)] W fun e W' => (∃ v, e = .returned v) ∧
      ((∃ ys, Yend L n (ys.map Wy.q) ∧ J ys W') ∨ (∃ pre, Jx pre W')) := by
  refine callsIn_of_wp Try.func31 rfl trivial ?_
  simp only [Try.ntmps31, List.size_toArray, List.length_cons, List.length_nil, Nat.reduceAdd, Nat.reduceSub, Array.replicate_succ, Array.replicate_zero, List.push_toArray, List.append_toArray, List.nil_append, List.cons_append]
  gi_wp2
  gi_loopw [4, 5, 6] (fun pl _ _ wr => ∃ (ys : List Wy) (Z : Nat), Pl L n (ys.map Wy.q) Z ∧ Z ≤ n ∧ pl = .int .i64 Z ∧ Kw q W wr ∧ J ys wr) (fun pl _ _ _ => n - (intOf pl).toNat)
  case atStart => exact ⟨[], 0, Pl.nil, by omega, rfl, ⟨Nat.le_refl _, fun _ _ h _ _ _ => h⟩, h0⟩
  case round =>
    obtain ⟨ys, Z, hrun, hZ, rfl, hK, hJy⟩ := hrel
    have hcw := hK.heap hcb hcq
    have c0 := cell_of (i := 0) (v := .slice ao n cap) hcw rfl
    have hfa := find_told wr ao n cap Z L (hB _ hK) hZ
    gi_wp2_with fail
    refine ⟨trivial, callsIn_wide.2 (hfa.mono ?_)⟩
    clear hfa c0 hcw
    rintro e w1 ⟨hg1, ⟨C, hC0, hNo, rfl⟩ | ⟨S, BA, CA, ro, rc, rs, hs32, hS, hCA, hRK, hRs, hkn, rfl⟩⟩
    · have hC : (C != 0) = true := by simpa using hC0
      have ga := alloc_grown w1 (.cells #[.int .i64 0, .slice none 0 0, .int .i64 0] 61)
      have hJe := hJ _ _ _ (hJ _ _ _ hJy hg1) ga
      gi_wp2
      refine ⟨(fun f hf => nomatch hf), ?_⟩
      gi_wp2
      refine bodyPost_ret (results_none rfl _ _ _) rfl ?_
      exact ⟨⟨_, rfl⟩, .inl ⟨ys, ⟨Z, C, hrun, hNo, hC0⟩, hJe⟩⟩
    · have hrunx : Pl L n ((ys ++ [(⟨Z, BA, ro, CA, rc, S, rs⟩ : Wy)]).map Wy.q) (Z + S) := by
        rw [List.map_append]
        exact Pl.snoc hrun hRK
      have ga := alloc_grown w1 (.cells #[.int .i64 BA, .slice ro CA rc, .int .i64 (S : Int)] 61)
      have k3 := heap_alloc_new w1 (.cells #[.int .i64 BA, .slice ro CA rc, .int .i64 (S : Int)] 61)
      have hJe := hJ _ _ _ (hJ _ _ _ hJy hg1) ga
      have hK2 := (hK.trans (Kw.of hg1)).trans (Kw.of ga)
      have hzq : w1.heap.size ≠ q ∧ w1.heap.size ≠ q + 1 := by have h1 := hK.size; have h2 := hg1.size; omega
      obtain ⟨fn, tmps, assign, body, hy, hR⟩ := hY ys ⟨Z, BA, ro, CA, rc, S, rs⟩ _ hJe ⟨hrun, hRK, hRs.grown ga, hkn, hCA⟩
      simp only [yenc] at hy
      gi_wp2_with fail
      refine hR.mono ?_
      clear hR hy
      generalize w1.alloc (.cells #[.int .i64 BA, .slice ro CA rc, .int .i64 (S : Int)] 61) = w2 at *
      generalize w1.heap.size = z5 at *
      rintro e W3 (⟨rfl, hJ3, hk3⟩ | ⟨rfl, hJx3⟩)
      · have k5 := hk3.heap k3 hzq
        have c2 := cell_of (i := 2) (v := .int .i64 (S : Int)) k5 rfl
        obtain ⟨T2, hT2⟩ : ∃ T2 : Nat, Z + S = T2 := ⟨_, rfl⟩
        have hTs : ((Z : Int) + (S : Int)) = (T2 : Int) := by omega
        have hK3 := hK2.trans hk3
        rw [hT2] at hrunx hS
        have HT : Hid (Z + S = T2) := hT2
        clear hT2
        gi_wp2
        go_roundw
        case rel => exact ⟨ys ++ [⟨Z, BA, ro, CA, rc, S, rs⟩], T2, hrunx, hS, rfl, hK3, hJ3⟩
        case measure => have := HT.out; simp [intOf]; omega
      · gi_wp2
        refine bodyPost_ret (results_none rfl _ _ _) rfl ?_
        exact ⟨⟨_, rfl⟩, .inr ⟨_, hJx3⟩⟩
theorem wholes_told (m : Nat) (hm : 1 ≤ m) (ca cb q : Nat) (ao : Option Addr) (n cap : Nat) (L : List UInt8) (w : World) (hB : Bp w ao n cap L) (hca : w.cell? ⟨ca, 0, none⟩ = some (.int .i64 (0 : Nat))) (hcb : w.heap[cb]? = some (.cells #[.slice ao n cap] 23)) (hcq : cb ≠ q ∧ cb ≠ q + 1) (hql : q + 1 < w.heap.size) (hne : ∀ a, ao = some a → a.block ≠ q ∧ a.block ≠ q + 1) (hlt : ∀ a, ao = some a → a.block < w.heap.size) :
    SeqTold Fence.wide m Try.prog 31 #[.pointer (some ⟨ca, 0, none⟩), .pointer (some ⟨cb, 0, none⟩)] yenc (fun _ => Ytold L n) (Kw q) (fun ys => Yend L n (ys.map Wy.q)) (fun _ => True) w := by
  intro l J Jx W hW hJ hJx hY h0
  have hcl : ca < w.heap.size := World.block_lt_of_cell? w _ hca
  refine (wholes1_told l ca cb q ao n cap L hB.top J Jx m hm (fun s A B hs hg => hJ s A B none hs hg (fun r e => by cases e)) (fun s A B hs hg => hJx s A B none hs hg (fun r e => by cases e)) hY W ((hW.cell (p := ⟨ca, 0, none⟩) hcl).trans hca) ((hW.block cb (lt_of_heap hcb)).trans hcb) hcq (Nat.lt_of_lt_of_le hql hW.size) (fun W' hk => ⟨(hB.bs.below hW hlt).kw hk hne, hB.at_, hB.top, hB.cap⟩) h0).mono ?_
  rintro e W' ⟨h1, h2 | ⟨pre, h2⟩⟩
  · exact ⟨h1, .inl h2⟩
  · exact ⟨h1, .inr ⟨pre, trivial, h2⟩⟩
end Go.Proofs.Ytlfgikhjcimppab

/-
  A region that draws its order, inside a fence, whatever the order: one invariant over what has come up. Nothing here speaks of the program.
-/
namespace Go.Proofs.Ytlfgikhjcimppab
open Go.RowKit
set_option linter.unusedVariables false

/-- How many have not come up. -/
def leftB (l : Array Bool) : Nat := l.toList.countP (fun b => !b)
theorem leftB_set {l : Array Bool} {i : Nat} (hi : i < l.size) (h : l.getD i true = false) : leftB (l.setIfInBounds i true) + 1 = leftB l := by
  unfold leftB
  have hi' : i < l.toList.length := by simpa using hi
  have hv : l.toList[i] = false := by simpa [hi] using h
  rw [Array.toList_setIfInBounds, List.countP_set hi']
  have hpos : 0 < l.toList.countP (fun b => !b) := List.countP_pos_iff.2 ⟨false, by rw [← hv]; exact List.getElem_mem hi', rfl⟩
  rw [hv]
  show l.toList.countP (fun b => !b) - 1 + 0 + 1 = _
  omega
theorem leftB_all (n : Nat) : leftB (Array.replicate n false) ≤ n := by
  unfold leftB
  have h := List.countP_le_length (p := fun b : Bool => !b) (l := (Array.replicate n false).toList)
  simpa using h
section
variable {F : Fence} {n : Nat} {P : Program} {ops : Array Oper} {Q : Exit → Act → World → Prop} {md : Region.Mode}
/-- What may come up. -/
theorem ready_mem (l : Array Bool) (i : Nat) : i ∈ Region.ready md ops l ↔ (i < ops.size ∧ l.getD i true = false ∧ ∃ o, ops[i]? = some o ∧ ∀ e ∈ o.after.toList, Region.binds md e = true → l.getD e.on false = true) := by
  unfold Region.ready
  rw [List.mem_filter, List.mem_range]
  constructor
  · rintro ⟨h1, h2⟩
    rw [Bool.and_eq_true] at h2
    obtain ⟨h3, h4⟩ := h2
    have ho : ops[i]? = some ops[i] := by simp [h1]
    rw [ho] at h4
    simp only [Option.map_some, Option.getD_some] at h4
    refine ⟨h1, by simpa using h3, ops[i], ho, fun e he hb => ?_⟩
    rw [Array.all_eq_true_iff_forall_mem] at h4
    have h5 := h4 e (by simpa using he)
    rw [hb] at h5
    simpa using h5
  · rintro ⟨h1, h2, o, ho, h3⟩
    refine ⟨h1, ?_⟩
    rw [h2, ho]
    simp only [Bool.not_false, Bool.true_and, Option.map_some, Option.getD_some]
    rw [Array.all_eq_true_iff_forall_mem]
    intro e he
    cases hb : Region.binds md e with
    | false => rfl
    | true => rw [h3 e (by simpa using he) hb]; rfl
/-- Whatever the order: an invariant that each operation keeps, once those that it waits for have come up. -/
theorem any_order_in (J : Array Bool → Act → World → Prop)
    (size : ∀ l a w, J l a w → l.size = ops.size)
    (step : ∀ l a w i o, J l a w → ops[i]? = some o → l.getD i true = false → (∀ e ∈ o.after.toList, Region.binds md e = true → l.getD e.on false = true) → wpOpIn F n P ops Q i (fun a' w' => J (l.setIfInBounds i true) a' w') a w)
    (stop : ∀ l a w, J l a w → (∀ i, i < ops.size → l.getD i false = true) → Q .normal a w)
    (low : ∀ (i : Nat) (o : Oper), ops[i]? = some o → ∀ e ∈ o.after.toList, Region.binds md e = true → e.on < i) :
    ∀ fuel l a w, J l a w → leftB l ≤ fuel → wpAnyIn F n P md ops Q fuel l a w := by
  have all : ∀ l, l.size = ops.size → Region.ready md ops l = [] → ∀ i, i < ops.size → l.getD i false = true := by
    intro l hs hr i
    induction i using Nat.strongRecOn with
    | _ i ih =>
      intro hi
      cases hv : l.getD i false with
      | true => rfl
      | false =>
        have ht : l.getD i true = false := by
          have hl : i < l.size := by omega
          simp only [Array.getD_eq_getD_getElem?, Array.getElem?_eq_getElem hl, Option.getD_some] at hv ⊢
          exact hv
        have : i ∈ Region.ready md ops l := (ready_mem l i).2 ⟨hi, ht, ops[i], by simp [hi], fun e he hb => ih e.on (low i _ (by simp [hi]) e he hb) (Nat.lt_trans (low i _ (by simp [hi]) e he hb) hi)⟩
        rw [hr] at this
        cases this
  intro fuel
  induction fuel with
  | zero =>
    intro l a w hJ hc
    have hs := size l a w hJ
    have hz : ∀ i, i < ops.size → l.getD i true = true := by
      intro i hi
      cases hv : l.getD i true with
      | true => rfl
      | false => have := leftB_set (by omega) hv; omega
    have hr : Region.ready md ops l = [] := by
      apply List.eq_nil_iff_forall_not_mem.2
      intro i hi
      obtain ⟨h1, h2, _⟩ := (ready_mem l i).1 hi
      rw [hz i h1] at h2
      cases h2
    exact ⟨hr, stop l a w hJ (all l hs hr)⟩
  | succ fuel ih =>
    intro l a w hJ hc
    have hs := size l a w hJ
    refine ⟨fun hr => stop l a w hJ (all l hs hr), fun i hi => ?_⟩
    obtain ⟨h1, h2, o, ho, h3⟩ := (ready_mem l i).1 hi
    have hl : i < l.size := by omega
    have h4 := leftB_set hl h2
    exact wpOpIn_mono (fun a' w' hJ' => ih _ a' w' hJ' (by omega)) (step l a w i o hJ ho h2 h3)
end
end Go.Proofs.Ytlfgikhjcimppab

/-
  A region that draws its order, inside a round of a range over a function, by the plain law for regions whose cells are held. Nothing here speaks of the program.
-/
namespace Go.Proofs.Ytlfgikhjcimppab
open Go.RowKit
set_option linter.unusedVariables false

section
variable {P : Program} {ops : Array Oper} {Q : Exit → Act → World → Prop} {md : Region.Mode}
theorem callsIn_round {r n : Nat} {f : FuncId} {args : Array Value} {w : World} {R : Ending → World → Prop} (h : Calls P f args w R) : CallsIn (Fence.wide.inRound r) n P f args w R :=
  callsIn_wide.2 h
/-- One that puts nothing off, and enters no row. -/
def still (o : Oper) : Bool := match o.op with
  | .defer _ => false
  | _ => true
theorem wpOpIn_of_op {r n i : Nat} {K : Act → World → Prop} {a : Act} {w : World} (hd : ∀ o, ops[i]? = some o → still o = true) (hno : ¬ LetsOut Q) (h : wpOp P ops Q i K a w) : wpOpIn (Fence.wide.inRound r) n P ops Q i K a w := by
  unfold wpOpIn
  unfold wpOp at h
  cases ho : ops[i]? with
  | none => simpa [ho] using h
  | some o =>
    have hs : ∀ c, o.op ≠ .defer c := fun c e => by
      have := hd o ho
      unfold still at this
      rw [e] at this
      cases this
    simp only [ho] at h ⊢
    split
    · rename_i hw
      simp only [hw, if_true] at h
      rcases h with h | ⟨_, h⟩
      · refine ⟨fun _ _ => trivial, ?_⟩
        rw [Oper.semAt_eq _ _ _ hs]
        unfold Oper.wp at h
        generalize (execOp a.eval o).run P w = rr at *
        cases rr with
        | ok x w' =>
          cases x <;> simp only [Oper.upon, Oper.uponIn] at h ⊢ <;> first
            | exact h
            | exact ⟨fun e => (Bool.false_ne_true e).elim, callsIn_round (Calls.mono h (fun e w'' he => by cases e <;> exact he))⟩
            | exact ⟨fun e => (Bool.false_ne_true e).elim, fun c cs _ => let ⟨v, w9, hr, hst⟩ := h c cs; ⟨v, w9, hr, stepsIn_wide.2 hst⟩⟩
            | exact h.elim
        | halt x w' =>
          cases x <;> simp only [Oper.upon, Oper.uponIn] at h ⊢ <;> first
            | exact h
            | exact h.elim
      · exact absurd h hno
    · rename_i hw
      simp only [hw] at h
      exact ⟨fun _ _ => trivial, h⟩
end
end Go.Proofs.Ytlfgikhjcimppab

/-
  All's closure: the region in which it yields.
-/
namespace Go.Proofs.Ytlfgikhjcimppab
open Go.RowKit Go.Shelf
set_option linter.unusedVariables false
attribute [local go_sem] Oper.semAt_some

/-- The operations of a region, also within a range over a function. -/
def findRng (id : Nat) : Code → Option (Array Oper)
  | .region i ops _ => if i = id then some ops else none
  | .seq a b => (findRng id a).or (findRng id b)
  | .cond _ a b => (findRng id a).or (findRng id b)
  | .block _ a => findRng id a
  | .loop a => findRng id a
  | .scope a => findRng id a
  | .rangeFunc _ _ a b => (findRng id a).or (findRng id b)
  | _ => none
/-- What has come up of it. -/
structure J53 (A : Act) (w0 : World) (vy pl vx : Value) (Bt : Value → World → Prop) (Out : Bool → World → Prop) (l : Array Bool) (a : Act) (W : World) : Prop where
  fr : Fr A A.tmps [9, 10, 11, 12, 13, 14] 6 l a
  t0 : l.getD 0 false = true → a.tmps[9]? = some vy
  t1 : l.getD 1 false = true → a.tmps[10]? = some pl
  t2 : l.getD 2 false = true → a.tmps[11]? = some vx
  d2 : l.getD 3 false = true → l.getD 2 false = true
  d3 : l.getD 4 false = true → l.getD 3 false = true ∧ l.getD 0 false = true ∧ l.getD 1 false = true
  d4 : l.getD 5 false = true → l.getD 4 false = true
  sA : l.getD 3 false = false → W = w0
  sB : l.getD 3 false = true → l.getD 4 false = false → ∃ v, a.tmps[12]? = some v ∧ Bt v W
  sC : l.getD 4 false = true → ∃ bb, a.tmps[13]? = some (.bool bb) ∧ Out bb W ∧ (l.getD 5 false = true → a.tmps[14]? = some (.bool (!bb)))
theorem J53.quiet {A : Act} {w0 : World} {vy pl vx : Value} {Bt : Value → World → Prop} {Out : Bool → World → Prop} {l : Array Bool} {a : Act} {W : World} (h : J53 A w0 vy pl vx Bt Out l a W) (hroom : A.tmps.size = 15) (i : Nat) (hi : i < 3) (v : Value) (h4 : l.getD 4 false = false)
    (hv0 : i = 0 → v = vy) (hv1 : i = 1 → v = pl) (hv2 : i = 2 → v = vx) : J53 A w0 vy pl vx Bt Out (l.setIfInBounds i true) (a.put (some (9 + i)) v) W := by
  have hk := h.fr.size
  have hs := h.fr.room
  have hoth : ∀ j, j ≠ i → (l.setIfInBounds i true).getD j false = l.getD j false := fun j hj => getD_other hk (by omega) hj
  have hself : (a.put (some (9 + i)) v).tmps[9 + i]? = some v := put_self (by omega)
  have hput : ∀ t, t ≠ 9 + i → (a.put (some (9 + i)) v).tmps[t]? = a.tmps[t]? := fun t ht => put_other (Ne.symm ht)
  refine ⟨h.fr.put i _ v (by have : i = 0 ∨ i = 1 ∨ i = 2 := by omega
                             rcases this with rfl | rfl | rfl <;> simp), fun hl => ?_, fun hl => ?_, fun hl => ?_, fun hl => ?_, fun hl => ?_, fun hl => ?_, fun hl => ?_, fun hl hl' => ?_, fun hl => ?_⟩
  · by_cases e : 0 = i
    · subst e; rw [hself, hv0 rfl]
    · rw [hoth _ e] at hl; rw [hput _ (by omega)]; exact h.t0 hl
  · by_cases e : 1 = i
    · subst e; rw [hself, hv1 rfl]
    · rw [hoth _ e] at hl; rw [hput _ (by omega)]; exact h.t1 hl
  · by_cases e : 2 = i
    · subst e; rw [hself, hv2 rfl]
    · rw [hoth _ e] at hl; rw [hput _ (by omega)]; exact h.t2 hl
  · rw [hoth _ (by omega)] at hl
    by_cases e : 2 = i
    · subst e; rw [getD_set (by omega)]; simp
    · rw [hoth _ e]; exact h.d2 hl
  · rw [hoth _ (by omega), h4] at hl
    cases hl
  · rw [hoth _ (by omega)] at hl
    have := h.d4 hl
    rw [h4] at this
    cases this
  · rw [hoth _ (by omega)] at hl
    exact h.sA hl
  · rw [hoth _ (by omega)] at hl hl'
    obtain ⟨v9, h1, h2⟩ := h.sB hl hl'
    exact ⟨v9, by rw [hput _ (by omega)]; exact h1, h2⟩
  · rw [hoth _ (by omega), h4] at hl
    cases hl
set_option maxRecDepth 100000 in
set_option maxHeartbeats 4000000 in
theorem reg53 {ops : Array Oper} (hops : Try.f24.body.bind (findRng 4) = some ops) {A : Act} {w0 : World} {r m ly y0 gx : Nat} {pl : Value} {b : Int} {ro : Option Addr} {c rc : Nat} {s : Int} {Bt : Value → World → Prop} {Out : Bool → World → Prop}
    (hroom : A.tmps.size = 15) (b2 : A.tmps[2]? = some (.pointer (some ⟨y0, 0, none⟩))) (b3 : A.tmps[3]? = some pl) (b4 : A.tmps[4]? = some (.pointer (some ⟨gx, 0, none⟩)))
    (hy0 : w0.cell? ⟨y0, 0, none⟩ = some (.func (.yield ly) #[] #[])) (hB : ∀ v W, Bt v W → w0.grownBy W none)
    (x0 : w0.cell? ⟨gx, 0, none⟩ = some (.int .i64 b)) (x1 : w0.cell? ⟨gx, 1, none⟩ = some (.slice ro c rc)) (x2 : w0.cell? ⟨gx, 2, none⟩ = some (.int .i64 s))
    (h48 : Calls Try.prog 25 #[.agg #[.int .i64 b, .slice ro c rc, .int .i64 s]] w0 fun e W' => ∃ v, e = .returned v ∧ Bt v W')
    (hY : ∀ v W, Bt v W → YieldAt Fence.wide (m - 1) Try.prog ly #[pl, v] W fun e W' => ∃ bb, e = .returned (.bool bb) ∧ Out bb W')
    {Q : Exit → Act → World → Prop} (hno : ¬ LetsOut Q)
    (hQ : ∀ a' W' bb, a'.tmps.size = A.tmps.size → a'.defers = A.defers → (∀ s, s ∉ [9, 10, 11, 12, 13, 14] → a'.tmps[s]? = A.tmps[s]?) → a'.tmps[14]? = some (.bool (!bb)) → Out bb W' → Q .normal a' W') :
    wpAnyIn (Fence.wide.inRound r) m Try.prog .any ops Q 6 (Array.replicate 6 false) A w0 := by
  have hops2 : ∃ ops', Try.f24.body.bind (findRng 4) = some ops' ∧ wpAnyIn (Fence.wide.inRound r) m Try.prog .any ops' Q 6 (Array.replicate 6 false) A w0 := by
    refine ⟨_, rfl, ?_⟩
    refine any_order_in (J := J53 A w0 (.func (.yield ly) #[] #[]) pl (.agg #[.int .i64 b, .slice ro c rc, .int .i64 s]) Bt Out) ?size ?step ?stop ?low _ _ _ _ ?init ?count
    case size => exact fun l a w h => h.fr.size
    case low => exact low_of (by kernel_rfl)
    case count => exact leftB_all 6
    case init =>
      have hno : ∀ j, (Array.replicate 6 false).getD j false = true → False := by
        intro j hj
        by_cases h9 : j < 6 <;> simp [h9] at hj
      exact ⟨⟨rfl, rfl, rfl, fun _ _ => rfl⟩, fun h => (hno _ h).elim, fun h => (hno _ h).elim, fun h => (hno _ h).elim, fun h => (hno _ h).elim, fun h => (hno _ h).elim, fun h => (hno _ h).elim, fun _ => rfl, fun h => (hno _ h).elim, fun h => (hno _ h).elim⟩
    case stop =>
      intro l a' w' hJ hall
      obtain ⟨bb, h1, h2, h3⟩ := hJ.sC (hall 4 (by simp))
      exact hQ a' w' bb hJ.fr.room hJ.fr.defers hJ.fr.same (h3 (hall 5 (by simp))) h2
    case step =>
      intro l a' w' q op hJ ho hl hdep
      have hq : q < 6 := by
        have h9 := (Array.getElem?_eq_some_iff.1 ho).1
        simpa using h9
      have e2 := hJ.fr.at b2 (by decide)
      have e3 := hJ.fr.at b3 (by decide)
      have e4 := hJ.fr.at b4 (by decide)
      have hsz := hJ.fr.size
      have hlf : l.getD q false = false := by
        have hl9 : q < l.size := by omega
        simp only [Array.getD_eq_getD_getElem?, Array.getElem?_eq_getElem hl9, Option.getD_some] at hl ⊢
        exact hl
      have bf : ∀ j, l.getD j false ≠ true → l.getD j false = false := fun j h => by cases h9 : l.getD j false with
        | true => exact absurd h9 h
        | false => rfl
      match q, hq with
      | 0, _ =>
        cases ho
        have h4 : l.getD 4 false = false := bf 4 (fun h => by rw [(hJ.d3 h).2.1] at hlf; cases hlf)
        have hc : w'.cell? ⟨y0, 0, none⟩ = some (.func (.yield ly) #[] #[]) := by
          cases h3 : l.getD 3 false with
          | false => rw [hJ.sA h3]; exact hy0
          | true => obtain ⟨v, _, h9⟩ := hJ.sB h3 h4; exact (hB v w' h9).cell hy0 (by simp)
        refine wpOpIn_of_op (fun o ho => by cases ho; rfl) hno (wpOp_step rfl (fun K hK => ?_))
        go_simp
        exact hK _ _ (hJ.quiet hroom 0 (by omega) _ h4 (fun _ => rfl) (fun e => by cases e) (fun e => by cases e))
      | 1, _ =>
        cases ho
        have h4 : l.getD 4 false = false := bf 4 (fun h => by rw [(hJ.d3 h).2.2] at hlf; cases hlf)
        refine wpOpIn_of_op (fun o ho => by cases ho; rfl) hno (wpOp_step rfl (fun K hK => ?_))
        go_simp
        exact hK _ _ (hJ.quiet hroom 1 (by omega) _ h4 (fun e => by cases e) (fun _ => rfl) (fun e => by cases e))
      | 2, _ =>
        cases ho
        have h3 : l.getD 3 false = false := bf 3 (fun h => by rw [hJ.d2 h] at hlf; cases hlf)
        have h4 : l.getD 4 false = false := bf 4 (fun h => by rw [(hJ.d3 h).1] at h3; cases h3)
        obtain rfl := hJ.sA h3
        refine wpOpIn_of_op (fun o ho => by cases ho; rfl) hno (wpOp_step rfl (fun K hK => ?_))
        go_simp
        exact hK _ _ (hJ.quiet hroom 2 (by omega) _ h4 (fun e => by cases e) (fun e => by cases e) (fun _ => rfl))
      | 3, _ =>
        cases ho
        have e11 := hJ.t2 (hdep { on := 2, ground := .data } (by simp) rfl)
        have h4 : l.getD 4 false = false := bf 4 (fun h => by rw [(hJ.d3 h).1] at hlf; cases hlf)
        obtain rfl := hJ.sA hlf
        have hr2 := hdep { on := 2, ground := .data } (by simp) rfl
        refine wpOpIn_of_op (fun o ho => by cases ho; rfl) hno (wpOp_step rfl (fun K hK => ?_))
        go_simp
        go_at_call 25
        refine h48.mono ?_
        rintro e W' ⟨v, rfl, hb⟩
        go_simp
        have hk := hJ.fr.size
        have hoth : ∀ j, j ≠ 3 → (l.setIfInBounds 3 true).getD j false = l.getD j false := fun j hj => getD_other hk (by omega) hj
        have hthr : (l.setIfInBounds 3 true).getD 3 false = true := by rw [getD_set (by omega)]; simp
        have hput : ∀ t, t ≠ 12 → (a'.put (some 12) v).tmps[t]? = a'.tmps[t]? := fun t ht => put_other (Ne.symm ht)
        have hrm := hJ.fr.room
        suffices hN : J53 A w' (.func (.yield ly) #[] #[]) pl (.agg #[.int .i64 b, .slice ro c rc, .int .i64 s]) Bt Out (l.setIfInBounds 3 true) (a'.put (some 12) v) W' from hK _ _ hN
        refine ⟨hJ.fr.put 3 12 v (by simp), fun hl => ?_, fun hl => ?_, fun hl => ?_, fun _ => ?_, fun hl => ?_, fun hl => ?_, fun hl => ?_, fun _ _ => ⟨v, put_self (by omega), hb⟩, fun hl => ?_⟩
        · rw [hoth _ (by omega)] at hl; rw [hput _ (by omega)]; exact hJ.t0 hl
        · rw [hoth _ (by omega)] at hl; rw [hput _ (by omega)]; exact hJ.t1 hl
        · rw [hput _ (by omega)]; exact e11
        · rw [hoth _ (by omega)]; exact hr2
        · rw [hoth _ (by omega), h4] at hl; cases hl
        · rw [hoth _ (by omega)] at hl; have := hJ.d4 hl; rw [h4] at this; cases this
        · rw [hthr] at hl; cases hl
        · rw [hoth _ (by omega), h4] at hl; cases hl
      | 4, _ =>
        cases ho
        have r0 := hdep { on := 0, ground := .data } (by simp) rfl
        have r1 := hdep { on := 1, ground := .data } (by simp) rfl
        have r3 := hdep { on := 3, ground := .data } (by simp) rfl
        have e9 := hJ.t0 r0
        have e10 := hJ.t1 r1
        obtain ⟨v, e12, hbt⟩ := hJ.sB r3 hlf
        obtain ⟨fn, tmps, assign, body, hy, hR⟩ := hY v w' hbt
        have h5 : l.getD 5 false = false := bf 5 (fun h => by rw [hJ.d4 h] at hlf; cases hlf)
        refine wpOpIn_step rfl (fun K hK => ?_)
        go_simp
        refine ⟨fun e => (Bool.false_ne_true e).elim, ?_⟩
        refine RoundIn.mono (show RoundIn (Fence.wide.inRound r) (m - 1) Try.prog ly fn tmps assign body w' _ from hR) ?_
        rintro e W' ⟨bb, rfl, hout⟩
        have hk := hJ.fr.size
        have hoth : ∀ j, j ≠ 4 → (l.setIfInBounds 4 true).getD j false = l.getD j false := fun j hj => getD_other hk (by omega) hj
        have hrm := hJ.fr.room
        have hput : ∀ t, t ≠ 13 → (a'.put (some 13) (.bool bb)).tmps[t]? = a'.tmps[t]? := fun t ht => put_other (Ne.symm ht)
        have hfou : (l.setIfInBounds 4 true).getD 4 false = true := by rw [getD_set (by omega)]; simp
        suffices hN : J53 A w0 (.func (.yield ly) #[] #[]) pl (.agg #[.int .i64 b, .slice ro c rc, .int .i64 s]) Bt Out (l.setIfInBounds 4 true) (a'.put (some 13) (.bool bb)) W' from hK _ _ hN
        refine ⟨hJ.fr.put 4 13 _ (by simp), fun hl => ?_, fun hl => ?_, fun hl => ?_, fun hl => ?_, fun hl => ?_, fun hl => ?_, fun hl => ?_, fun hl hl' => ?_, fun hl => ⟨bb, put_self (by omega), hout, fun h9 => ?_⟩⟩
        · rw [hput _ (by omega)]; exact e9
        · rw [hput _ (by omega)]; exact e10
        · rw [hoth _ (by omega)] at hl; rw [hput _ (by omega)]; exact hJ.t2 hl
        · rw [hoth _ (by omega)] at hl ⊢; exact hJ.d2 hl
        · rw [hoth _ (by omega), hoth _ (by omega), hoth _ (by omega)]; exact ⟨r3, r0, r1⟩
        · rw [hoth _ (by omega), h5] at hl; cases hl
        · rw [hoth _ (by omega), r3] at hl; cases hl
        · rw [hfou] at hl'; cases hl'
        · rw [hoth _ (by omega), h5] at h9; cases h9
      | 5, _ =>
        cases ho
        have r4 := hdep { on := 4, ground := .data } (by simp) rfl
        obtain ⟨bb, e13, hout, _⟩ := hJ.sC r4
        refine wpOpIn_of_op (fun o ho => by cases ho; rfl) hno (wpOp_step rfl (fun K hK => ?_))
        go_simp
        have hk := hJ.fr.size
        have hoth : ∀ j, j ≠ 5 → (l.setIfInBounds 5 true).getD j false = l.getD j false := fun j hj => getD_other hk (by omega) hj
        have hrm := hJ.fr.room
        have hput : ∀ t, t ≠ 14 → (a'.put (some 14) (.bool (!bb))).tmps[t]? = a'.tmps[t]? := fun t ht => put_other (Ne.symm ht)
        suffices hN : J53 A w0 (.func (.yield ly) #[] #[]) pl (.agg #[.int .i64 b, .slice ro c rc, .int .i64 s]) Bt Out (l.setIfInBounds 5 true) (a'.put (some 14) (.bool (!bb))) w' from hK _ _ hN
        refine ⟨hJ.fr.put 5 14 _ (by simp), fun hl => ?_, fun hl => ?_, fun hl => ?_, fun hl => ?_, fun hl => ?_, fun hl => ?_, fun hl => ?_, fun hl hl' => ?_, fun hl => ⟨bb, by rw [hput _ (by omega)]; exact e13, hout, fun _ => put_self (by omega)⟩⟩
        · rw [hoth _ (by omega)] at hl; rw [hput _ (by omega)]; exact hJ.t0 hl
        · rw [hoth _ (by omega)] at hl; rw [hput _ (by omega)]; exact hJ.t1 hl
        · rw [hoth _ (by omega)] at hl; rw [hput _ (by omega)]; exact hJ.t2 hl
        · rw [hoth _ (by omega)] at hl ⊢; exact hJ.d2 hl
        · rw [hoth _ (by omega), hoth _ (by omega), hoth _ (by omega)]; rw [hoth _ (by omega)] at hl; exact hJ.d3 hl
        · rw [hoth _ (by omega)]; exact r4
        · rw [hoth _ (by omega)] at hl; exact hJ.sA hl
        · rw [hoth _ (by omega), r4] at hl'; cases hl'
  obtain ⟨ops', h1, h2⟩ := hops2
  rw [hops] at h1
  cases h1
  exact h2
end Go.Proofs.Ytlfgikhjcimppab

/-
  All's closure as an iterator over copies of the whole batches.
-/
namespace Go.Proofs.Ytlfgikhjcimppab
open Go.RowKit Go.Shelf
set_option linter.unusedVariables false
attribute [local go_sem] Oper.semAt_some

/-- All cells stay. -/
structure Cs (W W' : World) : Prop where
  size : W.heap.size ≤ W'.heap.size
  cell : ∀ a v, W.cell? a = some v → W'.cell? a = some v
theorem Cs.of_row {W W' : World} {row : Option Nat} (hg : W.grownBy W' row) (hr : ∀ r, row = some r → ∃ o : Obj, W.heap[r]? = some o ∧ o.isCells = false) : Cs W W' := ⟨hg.size, fun a v h => by
  refine hg.cell h (fun e => ?_)
  obtain ⟨o, ho, hc⟩ := hr a.block e.symm
  cases o <;> simp_all [World.cell?, Obj.isCells]⟩
theorem Cs.of {W W' : World} (hg : W.grownBy W' none) : Cs W W' := Cs.of_row hg (fun r e => by cases e)
theorem Bs.cs {W W' : World} {ao : Option Addr} {n cap : Nat} {l : List UInt8} (h : Bs W ao n cap l) (hc : Cs W W') : Bs W' ao n cap l := ⟨h.len, h.room, h.top, h.nil, fun a ha j u hu => hc.cell _ _ (h.cells a ha j u hu)⟩
theorem Rk.cs {W W' : World} {r : Rc} (h : Rk W r) (hc : Cs W W') : Rk W' r := ⟨h.low, h.high, h.key.cs hc, h.value.cs hc, h.kb, h.vb⟩
theorem Rs.cs {W W' : World} {ao : Option Addr} {n cap : Nat} {l : List Rc} (h : Rs W ao n cap l) (hc : Cs W W') : Rs W' ao n cap l :=
  ⟨h.len, h.room, h.top, h.nil, fun a ha hn => by obtain ⟨b, o, e, hb⟩ := h.place a ha hn; exact ⟨b, o, e, Nat.lt_of_lt_of_le hb hc.size⟩, fun b o ha j r hj => by
    obtain ⟨h1, h2, h3⟩ := h.cells b o ha j r hj
    exact ⟨hc.cell _ _ h1, hc.cell _ _ h2, hc.cell _ _ h3⟩, fun r hr => (h.shows r hr).cs hc⟩
theorem Ytold.cs {L : List UInt8} {n : Nat} {pre : List Wy} {x : Wy} {W W' : World} (h : Ytold L n pre x W) (hc : Cs W W') : Ytold L n pre x W' := ⟨h.1, h.2.1, h.2.2.1.cs hc, h.2.2.2⟩
/-- What All hands on: a place, and a copy of the batch that stands there. -/
structure Px where
  p : Nat
  b : Int
  g : Nat
  c : Nat
  rs : List Rc
def penc (x : Px) : Array Value := #[.int .i64 x.p, .agg #[.int .i64 x.b, .slice (some ⟨x.g, 0, none⟩) x.c x.c]]
def Px.q (x : Px) : Nat × Int × List Dr := (x.p, x.b, ds x.rs)
/-- What is told of it. -/
def Ptold (L : List UInt8) (n : Nat) (pre : List Px) (x : Px) (W : World) : Prop :=
  Pl L n (pre.map Px.q) x.p ∧ (∃ s, RK L n x.p x.b x.c s 0 (ds x.rs)) ∧ Rs W (some ⟨x.g, 0, none⟩) x.c x.c x.rs
set_option maxRecDepth 100000 in
set_option maxHeartbeats 4000000 in
theorem all_own (m : Nat) (hm : 3 ≤ m) (z g q n : Nat) (L : List UInt8) (w : World) (hz : w.heap[z]? = some (.cells #[.slice (some ⟨g, 0, none⟩) n n] 23)) (hB : Bp w (some ⟨g, 0, none⟩) n n L) (hzq : z ≠ q ∧ z ≠ q + 1) (hgq : g ≠ q ∧ g ≠ q + 1) (hgl : g < w.heap.size) (hql : q + 1 < w.heap.size) :
    SeqOwn Fence.wide m Try.prog 24 #[.pointer (some ⟨z, 0, none⟩)] penc (fun _ => Ptold L n) (Kw q) (fun ys => Yend L n (ys.map Px.q)) (fun _ => True) w := by
  intro l J Jx W hW hJ hJx hY h0
  have hzl := lt_of_heap hz
  have hzW := (hW.block z hzl).trans hz
  have hsW := hW.size
  have hBW : Bp W (some ⟨g, 0, none⟩) n n L := ⟨hB.bs.below hW (fun a ha => by cases ha; exact hgl), hB.at_, hB.top, hB.cap⟩
  have g1 := alloc_grown W (.cells #[.func (.yield l) #[] #[]] 65)
  have k1 := heap_alloc_new W (.cells #[.func (.yield l) #[] #[]] 65)
  have hs1 : (W.alloc (.cells #[.func (.yield l) #[] #[]] 65)).heap.size = W.heap.size + 1 := by simp
  have cz := cell_of (i := 0) (v := .slice (some ⟨g, 0, none⟩) n n) (heap_kept g1 hzW (by simp)) rfl
  have hwh := wholes_any (W.alloc (.cells #[.func (.yield l) #[] #[]] 65)) (some ⟨g, 0, none⟩) n n 0
  rw [hs1] at hwh
  refine callsIn_of_wp_marks Try.func24 rfl trivial ?_
  simp only [Try.ntmps24, List.size_toArray, List.length_cons, List.length_nil, Nat.reduceAdd, Nat.reduceSub, Array.replicate_succ, Array.replicate_zero, List.push_toArray, List.append_toArray, List.nil_append, List.cons_append]
  gi_wp2_with fail
  refine ⟨trivial, fun e => (Bool.false_ne_true e).elim, callsIn_wide.2 (hwh.mono ?_)⟩
  clear hwh
  rintro e w3 ⟨rfl, kb, ka, hg3⟩
  have ky := heap_kept hg3 k1 (by simp)
  have hG3 := grown_trans g1 hg3 (by simp)
  have hsz3 : W.heap.size + 3 ≤ w3.heap.size := lt_of_heap ka
  have hca := cell_of (i := 0) (v := .int .i64 ((0 : Nat) : Int)) ka rfl
  have hB3 := hBW.grown hG3
  clear cz k1
  gi_wp2_with fail
  apply wpIn_rangeFunc_told (encs := yenc) (Tx := fun _ => Ytold L n) (Kp := Kw q) (S := fun ys => Yend L n (ys.map Wy.q)) (Sp := fun _ => True) (w0 := w3) rfl (by omega) (gf := 31) (lb := #[.pointer (some ⟨W.heap.size + 1 + 1, 0, none⟩), .pointer (some ⟨W.heap.size + 1, 0, none⟩)]) rfl trivial (enters_of Try.func31 (by kernel_rfl) rfl)
    (wholes_told (m - 1) (by omega) (W.heap.size + 1 + 1) (W.heap.size + 1) q (some ⟨g, 0, none⟩) n n L w3 hB3 hca kb (by omega) (by omega) (fun a ha => by cases ha; exact hgq) (fun a ha => by cases ha; show g < _; omega)) (fun h h' => h.trans h')
    (fun W l o o' hl ho hc _ => ⟨by simp, fun k x hk hx hq _ => heap_kept (grownBy_putObj' W l o') hk (fun e => by
      obtain rfl : k = l := by simpa using e
      rw [ho] at hk
      cases hk
      rw [hc] at hx
      cases hx)⟩) (Below.refl _ _) (fun _ => rfl)
    (fun pre W' => (∃ pxs : List Px, pxs.map Px.q = pre.map Wy.q ∧ J pxs W') ∧ W'.heap[W.heap.size]? = some (.cells #[.func (.yield l) #[] #[]] 65) ∧ w3.heap.size ≤ W'.heap.size)
    (fun cd pre W' => cd = .ret ∧ ∃ pxs : List Px, Jx pxs W')
    (fun s A B row hs hg hr => ⟨by
        obtain ⟨pxs, e, h⟩ := hs.1
        exact ⟨pxs, e, hJ pxs A B row h hg (fun r e => ⟨by have := (hr r e).1; omega, (hr r e).2⟩)⟩, heap_kept hg hs.2.1 (fun e => by have := (hr _ e.symm).1; omega), Nat.le_trans hs.2.2 hg.size⟩)
    (fun cd s A B row hs hg hr => ⟨hs.1, by
        obtain ⟨pxs, h⟩ := hs.2
        exact ⟨pxs, hJx pxs A B row h hg (fun r e => ⟨by have := (hr r e).1; omega, (hr r e).2⟩)⟩⟩)
    ⟨⟨[], rfl, hJ [] W w3 none h0 hG3 (fun r e => by cases e)⟩, ky, Nat.le_refl _⟩
    (fun pre x a' W' => ∃ gx, W'.heap[gx]? = some (.cells #[.int .i64 x.b, .slice x.ro x.c x.rc, .int .i64 (x.s : Int)] 61) ∧ Ytold L n pre x W' ∧ a' = { tmps := #[.func (.yield l) #[] #[], .pointer (some ⟨z, 0, none⟩), .pointer (some ⟨W.heap.size, 0, none⟩), .int .i64 x.p, .pointer (some ⟨gx, 0, none⟩), .slice (some ⟨g, 0, none⟩) n n, .func (.func 31) #[] #[.pointer (some ⟨W.heap.size + 1 + 1, 0, none⟩), .pointer (some ⟨W.heap.size + 1, 0, none⟩)], .int .i64 x.p, .agg #[.int .i64 x.b, .slice x.ro x.c x.rc, .int .i64 x.s], undef, undef, undef, undef, undef, undef], defers := [] })
  case hAx =>
    rintro pre x a' ⟨⟩ A B row ⟨gx, h1, h2, h3⟩ hg hr
    exact ⟨gx, heap_kept hg h1 (fun e => by
      obtain ⟨_, o, ho, hoc⟩ := hr _ e.symm
      rw [h1] at ho
      cases ho
      cases hoc), h2.cs (Cs.of_row hg (fun r e => (hr r e).2)), h3⟩
  case hassign =>
    intro pre x W' K hI hT hK
    simp only [yenc]
    have ga := alloc_grown W' (.cells #[.int .i64 x.b, .slice x.ro x.c x.rc, .int .i64 (x.s : Int)] 61)
    have k9 := heap_alloc_new W' (.cells #[.int .i64 x.b, .slice x.ro x.c x.rc, .int .i64 (x.s : Int)] 61)
    obtain ⟨⟨pxs, epx, hJp⟩, hy0, hsz⟩ := hI
    have hJ9 := hJ pxs W' _ none hJp ga (fun r e => by cases e)
    have hT9 := hT.cs (Cs.of ga)
    gi_wp2
    exact hK _ _ ((KeepsOthers.alloc W' _).from _) (Kw.of ga) ⟨⟨pxs, epx, hJ9⟩, heap_kept ga hy0 (by simp), Nat.le_trans hsz ga.size⟩ ⟨W'.heap.size, k9, hT9, rfl⟩
  case hbody =>
    rintro pre x a' W' ⟨qq, hqq⟩ ⟨⟨pxs, epx, hJp⟩, hy0, hsz⟩ ⟨gx, hgx, hT, rfl⟩
    obtain ⟨t1, t2, t3, t4, t5⟩ := hT
    have hgd := grown_drew W' none
    have hkd := heap_kept hgd hgx (by simp)
    have hcp := copied_any W'.drew x.b (x.s : Int) x.ro x.c x.rc x.rs (t3.grown hgd) (by omega) t4
    gi_wp2_with fail
    refine wpIn_region_any (by kernel_rfl) ?_
    refine reg53 (hops := by rfl) (w0 := W'.drew) (ly := l) (y0 := W.heap.size) (gx := gx) (pl := .int .i64 x.p) (b := x.b) (ro := x.ro) (c := x.c) (rc := x.rc) (s := (x.s : Int))
      (Bt := fun v Wb => ∃ (gg : Nat) (rs' : List Rc), v = .agg #[.int .i64 x.b, .slice (some ⟨gg, 0, none⟩) x.c x.c] ∧ W'.drew.grownBy Wb none ∧ Rs Wb (some ⟨gg, 0, none⟩) x.c x.c rs' ∧ ds rs' = ds x.rs)
      (Out := fun bb Wo => (bb = true ∧ (∃ pxs' : List Px, pxs'.map Px.q = (pre ++ [x]).map Wy.q ∧ J pxs' Wo) ∧ Kw q W' Wo ∧ KeepsFrom w3.heap.size W' Wo) ∨ (bb = false ∧ (∃ pxs' : List Px, Jx pxs' Wo) ∧ KeepsFrom w3.heap.size W' Wo))
      rfl rfl rfl rfl (cell_of (i := 0) (heap_kept hgd hy0 (by simp)) rfl) (fun v Wb h => by obtain ⟨gg, rs', _, h9, _⟩ := h; exact h9)
      (cell_of (i := 0) hkd rfl) (cell_of (i := 1) hkd rfl) (cell_of (i := 2) hkd rfl) (hcp.mono ?_) ?_ ?_ ?_
    · rintro e Wb ⟨gg, base, rs', rfl, h1, h2, h3, h4, h5, h6, h7⟩
      exact ⟨_, rfl, gg, rs', rfl, h7, h3.shows (fun r hr => (h5 r hr).rk), h4⟩
    · rintro v Wb ⟨gg, rs', rfl, h7, h3, h4⟩
      have hgb : W'.grownBy Wb none := grown_trans hgd h7 (by simp)
      have hJb := hJ pxs W' Wb none hJp hgb (fun r e => by cases e)
      refine YieldAt.mono (yield_deep rfl _ (hY pxs ⟨x.p, x.b, gg, x.c, rs'⟩ Wb hJb ⟨by rw [epx]; exact t1, ⟨x.s, by rw [h4]; exact t2⟩, h3⟩)) ?_
      have kf1 : KeepsFrom w3.heap.size W' Wb := KeepsFrom.of_grownBy hgb (fun j e => by cases e)
      rintro e Wo (⟨rfl, hj, hk, hf⟩ | ⟨rfl, hj, hf⟩)
      · refine ⟨true, rfl, Or.inl ⟨rfl, ⟨_, ?_, hj⟩, (Kw.of hgb).trans hk, kf1.trans (keeps_up hf (by omega))⟩⟩
        rw [List.map_append, List.map_append, epx]
        simp [Px.q, Wy.q, h4]
      · exact ⟨false, rfl, Or.inr ⟨rfl, ⟨_, hj⟩, kf1.trans (keeps_up hf (by omega))⟩⟩
    · rintro ⟨_, _, h⟩
      exact h
    · intro a9 W9 bb r1 r2 r3 r4 hout
      obtain ⟨T, Dd⟩ := a9
      obtain rfl : Dd = [] := r2
      have e14 : T.getD 14 undef = .bool (!bb) := by
        have h9 : T[14]? = some (.bool (!bb)) := r4
        simp only [Array.getD_eq_getD_getElem?, h9, Option.getD_some]
      have hfb := frame_but [9, 10, 11, 12, 13, 14] (B := T) r1 r3
      simp only [List.foldl_cons, List.foldl_nil, e14] at hfb
      generalize T.getD 9 undef = v9 at hfb
      generalize T.getD 10 undef = v10 at hfb
      generalize T.getD 11 undef = v11 at hfb
      generalize T.getD 12 undef = v12 at hfb
      generalize T.getD 13 undef = v13 at hfb
      clear r1 r3 r4 e14 hcp
      subst hfb
      simp only [List.setIfInBounds_toArray, List.set_cons_zero, List.set_cons_succ]
      rcases hout with ⟨rfl, ⟨pxs', e1, hj⟩, hk, hf⟩ | ⟨rfl, ⟨pxs', hj⟩, hf⟩
      · have hy9 := hk.heap hy0 (by omega)
        have hs9 := Nat.le_trans hsz hk.size
        gi_wp2
        exact ⟨hf, hk, ⟨pxs', e1, hj⟩, hy9, hs9⟩
      · gi_wp2
        exact ⟨hf, rfl, pxs', hj⟩
  case hdone =>
    rintro D ys W' hD hS ⟨⟨pxs, epx, hJp⟩, hy0, hsz⟩ hK
    gi_wp2_with fail
    refine ⟨by simp, .inl ⟨_, _, rfl, run_takeDeferred hK, ?_⟩⟩
    exact ⟨_, results_none rfl _ _ _, ⟨_, rfl⟩, .inl ⟨pxs, by rw [epx]; exact hS, hJ pxs W' _ (some D) hJp (grownBy_putObj' W' D (.deferred none)) (fun r e => by cases e; exact ⟨by omega, _, hK, rfl⟩)⟩⟩
  case hstop =>
    rintro D cd pre W' hD _ ⟨rfl, pxs, hJp⟩ hK
    gi_wp2_with fail
    refine ⟨by simp, .inl ⟨_, _, rfl, run_takeDeferred hK, ?_⟩⟩
    exact ⟨_, results_none rfl _ _ _, ⟨_, rfl⟩, .inr ⟨pxs, trivial, hJx pxs W' _ (some D) hJp (grownBy_putObj' W' D (.deferred none)) (fun r e => by cases e; exact ⟨by omega, _, hK, rfl⟩)⟩⟩
end Go.Proofs.Ytlfgikhjcimppab

/-
  What RecordSizes wants of bytes: two batches, one behind the other.
-/
namespace Go.Proofs.Ytlfgikhjcimppab
open Go.RowKit
set_option linter.unusedVariables false

theorem ch_more {L : List UInt8} {i k R Z k' R' Z' : Nat} (h : Ch L i k R Z) (h' : Ch L (i + Z) k' R' Z') : Ch L i (k + k') (R + R') (Z + Z') := by
  induction h' with
  | nil => exact h
  | @snoc k' R' Z' S c e w ih =>
    have e2 : i + Z + Z' = i + (Z + Z') := by omega
    rw [e2] at e w ⊢
    have := Ch.snoc ih e w
    rw [show k + (k' + 1) = k + k' + 1 by omega, show R + (R' + cAt ((L.drop (i + (Z + Z'))).take S)) = R + R' + cAt ((L.drop (i + (Z + Z'))).take S) by omega, show Z + (Z' + S) = Z + Z' + S by omega]
    exact this

/-- Two batches, and whatever stands behind them. -/
theorem two_ch {b : Int} {l : List Rc} (hg : ∀ r ∈ l, r.k.length = r.kn ∧ r.v.length = r.vn) (hm : (measR b l).2 = 0) (M : List UInt8) {n : Nat} (hn : (batB b l).length = n) :
    extR ((batB b l ++ batB b l ++ M).drop 0) = (n, 0) ∧ extR ((batB b l ++ batB b l ++ M).drop n) = (n, 0) ∧ Ch (batB b l ++ batB b l ++ M) 0 2 (2 * l.length) (2 * n) := by
  obtain ⟨hgood, hW, hb, hc⟩ := bat_whole hg hm
  have hl := bat_len (base := b) hgood
  have hnn : 20 + szs l = n := by omega
  rw [hnn] at hW
  have e1 := ext_bat hg hm (batB b l ++ M)
  have e2 := ext_bat hg hm M
  rw [hnn] at e1 e2
  have d1 : (batB b l ++ batB b l ++ M).drop n = batB b l ++ M := by rw [List.append_assoc, List.drop_left' hn]
  have t1 : (batB b l ++ batB b l ++ M).take n = batB b l := by rw [List.append_assoc, List.take_left' hn]
  have t2 : (batB b l ++ M).take n = batB b l := List.take_left' hn
  have x1 : extR ((batB b l ++ batB b l ++ M).drop 0) = (n, 0) := by rw [List.drop_zero, List.append_assoc]; exact e1
  have x2 : extR ((batB b l ++ batB b l ++ M).drop n) = (n, 0) := by rw [d1]; exact e2
  refine ⟨x1, x2, ?_⟩
  have c1 := Ch.snoc (Ch.nil (L := batB b l ++ batB b l ++ M) (i := 0)) (S := n) x1 (by rw [Nat.add_zero, List.drop_zero, t1]; exact hW)
  rw [Nat.add_zero, List.drop_zero, t1, hc] at c1
  have c2 := Ch.snoc c1 (S := n) (by rw [Nat.zero_add, Nat.zero_add]; exact x2) (by rw [Nat.zero_add, Nat.zero_add, d1, t2]; exact hW)
  simp only [Nat.zero_add, d1, t2, hc] at c2
  rw [show 2 * l.length = l.length + l.length by omega, show 2 * n = n + n by omega]
  exact c2

/-- What All tells, as Walk counts it. -/
theorem pl_ch {L : List UInt8} {n : Nat} {l : List (Nat × Int × List Dr)} {Z : Nat} (h : Pl L n l Z) : (∃ R, Ch L 0 l.length R Z) ∧ ∀ q ∈ l, q.1 < Z := by
  induction h with
  | nil => exact ⟨⟨0, Ch.nil⟩, fun q hq => by cases hq⟩
  | @snoc l Z c s b D h1 hr ih =>
    obtain ⟨⟨R, ih1⟩, ih2⟩ := ih
    rcases hr with ⟨_, _, _, _, e, _⟩ | ⟨_, hN, _⟩ | ⟨hp, hE, hW, _⟩
    · cases e
    · exact absurd rfl hN.1
    · have hs := hW.low
      rw [Int.toNat_natCast] at hE hW
      refine ⟨⟨R + cAt ((L.drop Z).take s), ?_⟩, fun q hq => ?_⟩
      · rw [List.length_append, List.length_singleton]
        have := Ch.snoc ih1 (S := s) (by rw [Nat.zero_add]; exact hE) (by rw [Nat.zero_add]; exact hW)
        rwa [Nat.zero_add] at this
      · rcases List.mem_append.1 hq with hq | hq
        · have := ih2 q hq; omega
        · obtain rfl : q = _ := by simpa using hq
          show Z < Z + s
          omega
theorem yend_ch {L : List UInt8} {n : Nat} (hn : L.length = n) {l : List (Nat × Int × List Dr)} (h : Yend L n l) {k R Z : Nat} {C : Int} (hc : Ch L 0 k R Z) (hN : NoAt (L.drop (0 + Z)) C) (hZ : Z ≤ n) : l.length = k ∧ ∀ q ∈ l, q.1 < Z := by
  obtain ⟨Z', C', h1, h2, h3⟩ := h
  obtain ⟨⟨R', hc'⟩, hq⟩ := pl_ch h1
  have hN' : NoAt (L.drop (0 + Z')) C' := by
    rcases h2 with ⟨hp, _⟩ | ⟨hp, hN', _⟩ | ⟨_, _, _, _, _, e, _⟩
    · exfalso
      have hgt : n < Z' := by unfold plcB at hp; simp at hp; omega
      rcases Nat.lt_or_ge l.length (k + 1) with hk | hk
      · rcases Nat.lt_or_ge l.length k with hk2 | hk2
        · obtain ⟨S, e, w⟩ := (ch_less hc hc' (by omega)).2 hk2
          have hl := extR_ok e
          have := w.low
          obtain ⟨s1, s2, s3, _⟩ := extR_ok e
          rw [List.length_drop, hn] at s3
          omega
        · have := ((ch_less hc hc' (by omega)).1 (by omega)).2
          omega
      · obtain ⟨S, e, w⟩ := (ch_less hc' hc (by omega)).2 (by omega)
        exact noat_not hN e w
    · rw [Nat.zero_add]; simpa using hN'
    · exact absurd e h3
  obtain ⟨e1, _, e3, _⟩ := ch_one hc' hN' hc hN
  exact ⟨e1, fun q h => by have := hq q h; omega⟩

theorem pl_bound {L : List UInt8} {n : Nat} {l : List (Nat × Int × List Dr)} {Z : Nat} (h : Pl L n l Z) : l.length ≤ Z ∧ l.length ≤ n + 1 := by
  induction h with
  | nil => exact ⟨Nat.le_refl _, Nat.zero_le _⟩
  | @snoc l Z c s b D h1 hr ih =>
    rw [List.length_append, List.length_singleton]
    rcases hr with ⟨_, _, _, _, e, _⟩ | ⟨_, hN, _⟩ | ⟨hp, _, hW, _⟩
    · cases e
    · exact absurd rfl hN.1
    · have h2 := hW.low
      have h3 : (Z : Int) ≤ n := by unfold plcB at hp; simp at hp; omega
      omega
theorem pl_nil {L : List UInt8} {n : Nat} {l : List (Nat × Int × List Dr)} {Z : Nat} (h : Pl L n l Z) (e : l = []) : Z = 0 := by
  cases h with
  | nil => rfl
  | snoc h1 h2 => simp at e
/-- The first two places. -/
theorem first_two {L : List UInt8} {N n : Nat} (h0 : extR (L.drop 0) = (n, 0)) {l : List (Nat × Int × List Dr)} {p : Nat} (h : Pl L N l p) : (l.length = 0 → p = 0) ∧ (l.length = 1 → p = n) := by
  cases h with
  | nil => exact ⟨fun _ => rfl, fun e => by cases e⟩
  | @snoc l Z c s b D h1 hr =>
    refine ⟨fun e => by simp at e, fun e => ?_⟩
    have hl : l = [] := by
      rw [List.length_append, List.length_singleton] at e
      exact List.eq_nil_of_length_eq_zero (by omega)
    subst hl
    have hZ : Z = 0 := pl_nil h1 rfl
    subst hZ
    rcases hr with ⟨_, _, _, _, e, _⟩ | ⟨_, hN, _⟩ | ⟨hp, hE, hW, _⟩
    · cases e
    · exact absurd rfl hN.1
    · simp only [Int.toNat_natCast] at hE
      rw [h0] at hE
      have := congrArg Prod.fst hE
      simp at this
      omega
end Go.Proofs.Ytlfgikhjcimppab

/-
  RecordSizes: its range over All.
-/
namespace Go.Proofs.Ytlfgikhjcimppab
open Go.RowKit Go.Shelf
set_option linter.unusedVariables false
attribute [local go_sem] Oper.semAt_some

/-- The first range over a function. -/
def findRange : Code → Option Code
  | .rangeFunc g p a b => some (.rangeFunc g p a b)
  | .seq a b => (findRange a).or (findRange b)
  | .cond _ a b => (findRange a).or (findRange b)
  | .block _ a => findRange a
  | .loop a => findRange a
  | .scope a => findRange a
  | _ => none
/-- Two blocks alone are written. -/
structure G2 (q : Nat) (W W' : World) : Prop where
  os : W'.os = W.os
  tape : W'.tape = W.tape
  output : W'.output = W.output
  size : W.heap.size ≤ W'.heap.size
  block : ∀ k, k < W.heap.size → k ≠ q → k ≠ q + 1 → W'.heap[k]? = W.heap[k]?
theorem G2.refl (q : Nat) (W : World) : G2 q W W := ⟨rfl, rfl, rfl, Nat.le_refl _, fun _ _ _ _ => rfl⟩
theorem G2.row {q : Nat} {W W' W'' : World} {row : Option Nat} (h : G2 q W W') (hg : W'.grownBy W'' row) (hr : ∀ k, row = some k → k = q ∨ k = q + 1 ∨ W.heap.size ≤ k) : G2 q W W'' :=
  ⟨hg.os.trans h.os, hg.tape.trans h.tape, hg.output.trans h.output, Nat.le_trans h.size hg.size, fun k hk h1 h2 => (hg.block k (Nat.lt_of_lt_of_le hk h.size) (fun e => by have := hr k e.symm; omega)).trans (h.block k hk h1 h2)⟩
theorem G2.grown {q : Nat} {w W W' : World} (hw : w.grownBy W none) (h : G2 q W W') (hq : w.heap.size ≤ q) : w.grownBy W' none :=
  ⟨h.os.trans hw.os, h.tape.trans hw.tape, h.output.trans hw.output, Nat.le_trans hw.size h.size, fun k hk _ => (h.block k (Nat.lt_of_lt_of_le hk hw.size) (by omega) (by omega)).trans (hw.block k hk (by simp))⟩
def lastp (ys : List Px) : Nat := (ys.map Px.p).getLastD 0
theorem lastp_snoc (ys : List Px) (x : Px) : lastp (ys ++ [x]) = x.p := by unfold lastp; rw [List.map_append]; simp
theorem lastp_mem {ys : List Px} (h : 0 < ys.length) : ∃ x ∈ ys, lastp ys = x.p := by
  rcases List.eq_nil_or_concat ys with rfl | ⟨l, x, rfl⟩
  · simp at h
  · rw [List.concat_eq_append]
    exact ⟨x, by simp, lastp_snoc l x⟩

set_option maxRecDepth 100000 in
set_option maxHeartbeats 8000000 in
theorem range3 {code : Code} (hcode : Try.f3.body.bind findRange = some code) (W0 : World) (zr zn zk z g N T : Nat) (L : List UInt8)
    (v0 v1 v3 v4 v6 v7 v8 v9 v10 v11 v12 v13 v14 v15 v18 v19 v20 v21 v22 v23 v24 v25 v26 v27 v28 v29 v30 v31 v32 v33 v34 v35 v36 v37 v38 v39 v40 v41 v42 v43 v44 v45 v46 v47 v48 v49 v50 v51 v52 v53 v54 v55 v56 v57 v58 v59 v60 v61 v62 v63 v64 v65 v66 v67 v68 v69 v70 v71 v72 v73 v74 v75 v76 v77 v78 v79 v80 v81 v82 v83 v84 v85 v86 v87 v88 v89 v90 v91 v92 v93 v94 v95 v96 v97 v98 v99 v100 v101 v102 v103 v104 v105 v106 v107 v109 v110 v111 v112 v113 v114 v115 v116 v117 v118 v119 v120 v121 v122 v123 v124 v125 v126 v127 v128 v129 v130 v131 v132 v133 v134 v135 v136 v137 v138 v139 v140 v141 v142 v143 v144 v145 v146 v147 v148 v149 v150 v151 v152 v153 v154 v155 v156 v157 v158 v159 v160 v161 v162 v163 v164 v165 v166 v167 v168 v169 v170 v171 v172 v173 v174 v175 v176 v177 v178 v179 : Value) (Dl : List Deferred)
    (hn : W0.heap[zn]? = some (.cells #[.int .i64 N] 3)) (hk : W0.heap[zk]? = some (.cells #[.int .i64 0] 3)) (hi : W0.heap[zk + 1]? = some (.cells #[.int .i64 0] 3)) (hz : W0.heap[z]? = some (.cells #[.slice (some ⟨g, 0, none⟩) T T] 23)) (hB : Bp W0 (some ⟨g, 0, none⟩) T T L) (hgl : g < W0.heap.size)
    (hzk : z ≠ zk ∧ z ≠ zk + 1) (hgk : g ≠ zk ∧ g ≠ zk + 1) (hnk : zn ≠ zk ∧ zn ≠ zk + 1) (hx : extR (L.drop 0) = (N, 0)) (hT : T ≤ 1048576) (hL : L.length = T)
    {Q : Exit → Act → World → Prop}
    (hQ : ∀ D W' ys, W0.heap.size ≤ D → W'.heap[D]? = some (.deferred (some [])) → W'.heap[zk]? = some (.cells #[.int .i64 ((ys.length : Nat) : Int)] 3) → W'.heap[zk + 1]? = some (.cells #[.int .i64 (lastp ys : Int)] 3) → G2 zk W0 W' → Yend L T (ys.map Px.q) →
      Q .normal { tmps := #[v0, v1, .pointer (some ⟨zr, 0, none⟩), v3, v4, .pointer (some ⟨zn, 0, none⟩), v6, v7, v8, v9, v10, v11, v12, v13, v14, v15, .pointer (some ⟨zk, 0, none⟩), .pointer (some ⟨zk + 1, 0, none⟩), v18, v19, v20, v21, v22, v23, v24, v25, v26, v27, v28, v29, v30, v31, v32, v33, v34, v35, v36, v37, v38, v39, v40, v41, v42, v43, v44, v45, v46, v47, v48, v49, v50, v51, v52, v53, v54, v55, v56, v57, v58, v59, v60, v61, v62, v63, v64, v65, v66, v67, v68, v69, v70, v71, v72, v73, v74, v75, v76, v77, v78, v79, v80, v81, v82, v83, v84, v85, v86, v87, v88, v89, v90, v91, v92, v93, v94, v95, v96, v97, v98, v99, v100, v101, v102, v103, v104, v105, v106, v107, .func (.func 24) #[] #[.pointer (some ⟨z, 0, none⟩)], v109, v110, v111, v112, v113, v114, v115, v116, v117, v118, v119, v120, v121, v122, v123, v124, v125, v126, v127, v128, v129, v130, v131, v132, v133, v134, v135, v136, v137, v138, v139, v140, v141, v142, v143, v144, v145, v146, v147, v148, v149, v150, v151, v152, v153, v154, v155, v156, v157, v158, v159, v160, v161, v162, v163, v164, v165, v166, v167, v168, v169, v170, v171, v172, v173, v174, v175, v176, v177, v178, v179], defers := { target := .collected D, args := #[] } :: Dl } W') :
    code.wp Try.prog Q { tmps := #[v0, v1, .pointer (some ⟨zr, 0, none⟩), v3, v4, .pointer (some ⟨zn, 0, none⟩), v6, v7, v8, v9, v10, v11, v12, v13, v14, v15, .pointer (some ⟨zk, 0, none⟩), .pointer (some ⟨zk + 1, 0, none⟩), v18, v19, v20, v21, v22, v23, v24, v25, v26, v27, v28, v29, v30, v31, v32, v33, v34, v35, v36, v37, v38, v39, v40, v41, v42, v43, v44, v45, v46, v47, v48, v49, v50, v51, v52, v53, v54, v55, v56, v57, v58, v59, v60, v61, v62, v63, v64, v65, v66, v67, v68, v69, v70, v71, v72, v73, v74, v75, v76, v77, v78, v79, v80, v81, v82, v83, v84, v85, v86, v87, v88, v89, v90, v91, v92, v93, v94, v95, v96, v97, v98, v99, v100, v101, v102, v103, v104, v105, v106, v107, .func (.func 24) #[] #[.pointer (some ⟨z, 0, none⟩)], v109, v110, v111, v112, v113, v114, v115, v116, v117, v118, v119, v120, v121, v122, v123, v124, v125, v126, v127, v128, v129, v130, v131, v132, v133, v134, v135, v136, v137, v138, v139, v140, v141, v142, v143, v144, v145, v146, v147, v148, v149, v150, v151, v152, v153, v154, v155, v156, v157, v158, v159, v160, v161, v162, v163, v164, v165, v166, v167, v168, v169, v170, v171, v172, v173, v174, v175, v176, v177, v178, v179], defers := Dl } W0 := by
  have hcode2 : ∃ code', Try.f3.body.bind findRange = some code' ∧ code'.wp Try.prog Q { tmps := #[v0, v1, .pointer (some ⟨zr, 0, none⟩), v3, v4, .pointer (some ⟨zn, 0, none⟩), v6, v7, v8, v9, v10, v11, v12, v13, v14, v15, .pointer (some ⟨zk, 0, none⟩), .pointer (some ⟨zk + 1, 0, none⟩), v18, v19, v20, v21, v22, v23, v24, v25, v26, v27, v28, v29, v30, v31, v32, v33, v34, v35, v36, v37, v38, v39, v40, v41, v42, v43, v44, v45, v46, v47, v48, v49, v50, v51, v52, v53, v54, v55, v56, v57, v58, v59, v60, v61, v62, v63, v64, v65, v66, v67, v68, v69, v70, v71, v72, v73, v74, v75, v76, v77, v78, v79, v80, v81, v82, v83, v84, v85, v86, v87, v88, v89, v90, v91, v92, v93, v94, v95, v96, v97, v98, v99, v100, v101, v102, v103, v104, v105, v106, v107, .func (.func 24) #[] #[.pointer (some ⟨z, 0, none⟩)], v109, v110, v111, v112, v113, v114, v115, v116, v117, v118, v119, v120, v121, v122, v123, v124, v125, v126, v127, v128, v129, v130, v131, v132, v133, v134, v135, v136, v137, v138, v139, v140, v141, v142, v143, v144, v145, v146, v147, v148, v149, v150, v151, v152, v153, v154, v155, v156, v157, v158, v159, v160, v161, v162, v163, v164, v165, v166, v167, v168, v169, v170, v171, v172, v173, v174, v175, v176, v177, v178, v179], defers := Dl } W0 := by
    refine ⟨_, rfl, ?_⟩
    refine (wpIn_wide (n := 6)).1 ?_
    have hkl := lt_of_heap hk
    have hil := lt_of_heap hi
    have hnl := lt_of_heap hn
    apply wpIn_rangeFunc_keeps (encs := penc) (Tx := fun _ => Ptold L T) (Kp := Kw zk) (S := fun ys => Yend L T (ys.map Px.q)) (Sp := fun _ => True) (w0 := W0) rfl (by decide) (gf := 24) (lb := #[.pointer (some ⟨z, 0, none⟩)]) rfl trivial (enters_of Try.func24 (by kernel_rfl) rfl)
      (all_own 5 (by decide) z g zk T L W0 hz hB hzk hgk hgl hil) (fun h h' => h.trans h')
      (fun W l o o' hl ho hc _ => ⟨by simp, fun k x hk hx hq _ => heap_kept (grownBy_putObj' W l o') hk (fun e => by
        obtain rfl : k = l := by simpa using e
        rw [ho] at hk
        cases hk
        rw [hc] at hx
        cases hx)⟩) (Below.refl _ _) (fun _ => rfl)
      (fun pre W' => W'.heap[zk]? = some (.cells #[.int .i64 ((pre.length : Nat) : Int)] 3) ∧ W'.heap[zk + 1]? = some (.cells #[.int .i64 (lastp pre : Int)] 3) ∧ G2 zk W0 W' ∧ W0.heap.size ≤ W'.heap.size)
      (fun _ _ _ => False)
      (fun s A B row hs hg hr => ⟨heap_kept hg hs.1 (fun e => by have := (hr _ e.symm).1; omega), heap_kept hg hs.2.1 (fun e => by have := (hr _ e.symm).1; omega), hs.2.2.1.row hg (fun k e => Or.inr (Or.inr (by have := (hr k e).1; omega))), Nat.le_trans hs.2.2.2 hg.size⟩)
      (fun _ _ _ _ _ hs _ _ => hs.elim)
      ⟨hk, hi, G2.refl _ _, Nat.le_refl _⟩
      (fun pre x a' W' => Ptold L T pre x W' ∧ a' = { tmps := #[v0, v1, .pointer (some ⟨zr, 0, none⟩), v3, v4, .pointer (some ⟨zn, 0, none⟩), v6, v7, v8, v9, v10, v11, v12, v13, v14, v15, .pointer (some ⟨zk, 0, none⟩), .pointer (some ⟨zk + 1, 0, none⟩), v18, .int .i64 x.p, v20, v21, v22, v23, v24, v25, v26, v27, v28, v29, v30, v31, v32, v33, v34, v35, v36, v37, v38, v39, v40, v41, v42, v43, v44, v45, v46, v47, v48, v49, v50, v51, v52, v53, v54, v55, v56, v57, v58, v59, v60, v61, v62, v63, v64, v65, v66, v67, v68, v69, v70, v71, v72, v73, v74, v75, v76, v77, v78, v79, v80, v81, v82, v83, v84, v85, v86, v87, v88, v89, v90, v91, v92, v93, v94, v95, v96, v97, v98, v99, v100, v101, v102, v103, v104, v105, v106, v107, .func (.func 24) #[] #[.pointer (some ⟨z, 0, none⟩)], .int .i64 x.p, .agg #[.int .i64 x.b, .slice (some ⟨x.g, 0, none⟩) x.c x.c], v111, v112, v113, v114, v115, v116, v117, v118, v119, v120, v121, v122, v123, v124, v125, v126, v127, v128, v129, v130, v131, v132, v133, v134, v135, v136, v137, v138, v139, v140, v141, v142, v143, v144, v145, v146, v147, v148, v149, v150, v151, v152, v153, v154, v155, v156, v157, v158, v159, v160, v161, v162, v163, v164, v165, v166, v167, v168, v169, v170, v171, v172, v173, v174, v175, v176, v177, v178, v179], defers := [] })
    case hAx =>
      rintro pre x a' ⟨⟩ A B row ⟨h3, h4⟩ hg hr
      exact ⟨⟨h3.1, h3.2.1, h3.2.2.cs (Cs.of_row hg (fun r e => (hr r e).2))⟩, h4⟩
    case hassign =>
      intro pre x W' K hI hT' hK
      simp only [penc]
      gi_wp2
      exact hK _ _ (KeepsFrom.refl _ _) (Kw.of (grown_refl _ _)) hI ⟨hT', rfl⟩
    case hbody =>
      rintro pre x a' W' ⟨qq, hqq⟩ ⟨i1, i2, i3, i4⟩ ⟨hT', rfl⟩
      have hf2 := first_two hx hT'.1
      rw [List.length_map] at hf2
      have hb9 := (pl_bound hT'.1).2
      rw [List.length_map] at hb9
      have hnW := (i3.block zn hnl hnk.1 hnk.2).trans hn
      have c0 := cell_of (i := 0) (v := .int .i64 ((pre.length : Nat) : Int)) i1 rfl
      have f0 := frozen_of i1
      have c1 := cell_of (i := 0) (v := .int .i64 (lastp pre : Int)) i2 rfl
      have f1 := frozen_of i2
      have cn := cell_of (i := 0) (v := .int .i64 (N : Int)) hnW rfl
      have nz1 : ¬ zk = zk + 1 := by omega
      have nz2 : ¬ zk + 1 = zk := by omega
      have p1 := heap_set i2 0 (.int .i64 (x.p : Int))
      have p0 := heap_oth i1 0 (.int .i64 (x.p : Int)) nz1
      have p2 := heap_oth p1 0 (.int .i64 ((pre.length : Int) + 1)) nz2
      have p3 := heap_set p0 0 (.int .i64 ((pre.length : Int) + 1))
      have q3 := (i3.row (setCell_grown W' (zk + 1) 0 (.int .i64 (x.p : Int))) (fun k e => by cases e; exact Or.inr (Or.inl rfl))).row (setCell_grown _ zk 0 (.int .i64 ((pre.length : Int) + 1))) (fun k e => by cases e; exact Or.inl rfl)
      have q1 := ((KeepsOthers.setCell W' ⟨zk + 1, 0, none⟩ (.int .i64 (x.p : Int))).trans (KeepsOthers.setCell _ ⟨zk, 0, none⟩ (.int .i64 ((pre.length : Int) + 1)))).from W0.heap.size
      have q2 : Kw zk W' ((W'.setCell ⟨zk + 1, 0, none⟩ (.int .i64 (x.p : Int))).setCell ⟨zk, 0, none⟩ (.int .i64 ((pre.length : Int) + 1))) := ⟨by simp, fun k o hk _ h1 h2 => heap_oth (heap_oth hk 0 (.int .i64 (x.p : Int)) h2) 0 (.int .i64 ((pre.length : Int) + 1)) h1⟩
      have e1 : ((pre ++ [x]).length : Int) = (pre.length : Int) + 1 := by simp
      have hb8 : pre.length ≤ 1048577 := by omega
      have hxp : x.p ≤ 1048576 := by
        obtain ⟨_, ⟨s9, hr⟩, _⟩ := hT'
        rcases hr with ⟨_, _, _, _, e, _⟩ | ⟨_, hN, _⟩ | ⟨hp, _⟩
        · cases e
        · exact absurd rfl hN.1
        · unfold plcB at hp; simp at hp; omega
      by_cases h2 : pre.length < 2
      · have d1 : decide (((pre.length : Nat) : Int) < 2) = true := by simp; omega
        have hpx : x.p = pre.length * N := by
          have : pre.length = 0 ∨ pre.length = 1 := by omega
          rcases this with e | e
          · rw [e, hf2.1 e]; omega
          · rw [e, hf2.2 e]; omega
        have t1 : (pre.length : Int) * (N : Int) = (x.p : Int) := by rw [hpx]; push_cast; rfl
        have d2 : ((x.p : Int) != (x.p : Int)) = false := by simp
        have t2 : IntKind.i64.wrap (x.p : Int) = (x.p : Int) := by rw [IntWalk.i64_in _ (by omega)]
        clear hpx h2 hf2
        gi_wp2
        exact ⟨q1, q2, by rw [e1]; exact p3, by rw [lastp_snoc]; exact p2, q3, Nat.le_trans i4 q2.size⟩
      · have d1 : decide (((pre.length : Nat) : Int) < 2) = false := by simp; omega
        clear h2 hf2
        gi_wp2
        exact ⟨q1, q2, by rw [e1]; exact p3, by rw [lastp_snoc]; exact p2, q3, Nat.le_trans i4 q2.size⟩
    case hdone =>
      rintro D ys W' hD hS ⟨i1, i2, i3, i4⟩ hK
      exact hQ D W' ys hD hK i1 i2 i3 hS
    case hstop =>
      rintro D cd pre W' hD _ hf hK
      exact hf.elim
  obtain ⟨code', h1, h2⟩ := hcode2
  rw [hcode] at h1
  cases h1
  exact h2
end Go.Proofs.Ytlfgikhjcimppab

/-
  RecordSizes: the walk.
-/
namespace Go.Proofs.Ytlfgikhjcimppab
open Go.RowKit Go.Shelf
set_option linter.unusedVariables false
attribute [local go_sem] Oper.semAt_some

theorem run_equalIn_fn (w : World) (fuel : Nat) (t : TypeId) (ps rs : Array TypeId) (vd : Bool) (ht : Try.prog.underlying t = some (.func ps rs vd)) (fn : Fn) (fi ca : Array Value) : (Op.equalIn (fuel + 1) t (.func fn fi ca) .nilFunc).run Try.prog w = .ok false w := by
  simp [Op.equalIn, run_underlying ht]
theorem run_equal_fn (w : World) (t : TypeId) (ps rs : Array TypeId) (vd : Bool) (ht : Try.prog.underlying t = some (.func ps rs vd)) (fn : Fn) (fi ca : Array Value) : (Op.equal t (.func fn fi ca) .nilFunc).run Try.prog w = .ok false w := run_equalIn_fn w 9999 t ps rs vd ht fn fi ca
/-- 'f == nil' of a function that is there. -/
theorem run_eql_fn (w : World) (t : TypeId) (ps rs : Array TypeId) (vd : Bool) (ht : Try.prog.underlying t = some (.func ps rs vd)) (fn : Fn) (fi ca : Array Value) : (binOp .eql t (.func fn fi ca) .nilFunc).run Try.prog w = .ok (.bool false) w := by
  simp only [binOp]
  simp [run_equal_fn w t ps rs vd ht fn fi ca]
theorem results_bool {fn : Func} {p : Tmp} (h : fn.results = #[.cell p 4]) (tmps : Array Value) (w : World) (g : Nat) (b : Bool) (hp : tmps.getD p undef = .pointer (some ⟨g, 0, none⟩)) (hc : w.cell? ⟨g, 0, none⟩ = some (.bool b)) : (results fn tmps).run Try.prog w = .ok (.bool b) w := by
  simp only [results, h]
  have hp' : tmps[p]?.getD undef = .pointer (some ⟨g, 0, none⟩) := by simpa using hp
  simp [Sem.run_bind, Result.andThen, hp', asAddr, loadVar, go_sem, hc]
theorem large_no {most : Nat} {l : List Rc} (h : largeB most l = false) : l.length ≤ most ∧ ∀ r ∈ l, r.kn ≤ 9000 ∧ r.vn ≤ 9000 := by
  unfold largeB at h
  simp only [Bool.or_eq_false_iff, decide_eq_false_iff_not, List.any_eq_false, Nat.not_lt] at h
  exact ⟨h.1, fun r hr => by have := h.2 r hr; simp at this; exact this⟩
theorem rk_good {w : World} {l : List Rc} (h : ∀ r ∈ l, Rk w r) : ∀ r ∈ l, r.k.length = r.kn ∧ r.v.length = r.vn := fun r hr => ⟨(h r hr).key.len, (h r hr).value.len⟩
theorem meas_five {l : List Rc} (h : l.length ≤ 300) : measR 5 l = fitsR l := by
  have ho : offB 5 l.length = true := by unfold offB; simp; omega
  unfold measR
  by_cases h2 : (fitsR l).2 = 2
  · rw [if_pos (Or.inl h2)]
    unfold fitsR at h2 ⊢
    split
    · rfl
    · rename_i h3
      rw [if_neg h3] at h2
      split at h2 <;> simp at h2
  · rw [if_neg (by rw [ho]; simp [h2])]
theorem fits_zero {l : List Rc} (h : (fitsR l).2 ≠ 0) : (fitsR l).1 = 0 := by
  unfold fitsR at h ⊢
  split
  · rfl
  · rename_i h1
    rw [if_neg h1] at h
    split
    · rfl
    · rename_i h2
      rw [if_neg h2] at h
      exact absurd rfl h

set_option maxRecDepth 100000 in
set_option maxHeartbeats 8000000 in
theorem recordSizes_any (w : World) (ao : Option Addr) (n cap : Nat) (l : List Rc) (base cut : Int) (mo : Option Addr) (mn mc : Nat) (Mo : List UInt8) (ha : Rs w ao n cap l) (hmo : Bs w mo mn mc Mo) :
    Calls Try.prog 3 #[.agg #[.slice ao n cap, .int .i64 base, .slice mo mn mc, .int .i64 cut]] w fun e w' => e = .returned (.bool true) ∧ w.grownBy w' none := by
  have hl1 := ha.len
  have ht1 := Nat.le_trans ha.room ha.top
  have hml := hmo.len
  refine (callsIn_wide (n := 6)).1 ?_
  refine callsIn_of_wp_marks Try.func3 rfl trivial ?_
  simp only [Try.ntmps3, List.size_toArray, List.length_cons, List.length_nil, Nat.reduceAdd, Nat.reduceSub, Array.replicate_succ, Array.replicate_zero, List.push_toArray, List.append_toArray, List.nil_append, List.cons_append]
  refine wpIn_wide.2 ?_
  go_wp2_with fail
  have ga := alloc_grown w (.cells #[.slice ao n cap, .int .i64 base, .slice mo mn mc, .int .i64 cut] 25)
  have gb := alloc_grown (w.alloc (.cells #[.slice ao n cap, .int .i64 base, .slice mo mn mc, .int .i64 cut] 25)) (.cells #[.bool false] 4)
  have k3 := heap_kept gb (heap_alloc_new w (.cells #[.slice ao n cap, .int .i64 base, .slice mo mn mc, .int .i64 cut] 25)) (by simp)
  have kr := heap_alloc_new (w.alloc (.cells #[.slice ao n cap, .int .i64 base, .slice mo mn mc, .int .i64 cut] 25)) (.cells #[.bool false] 4)
  rw [show (w.alloc (.cells #[.slice ao n cap, .int .i64 base, .slice mo mn mc, .int .i64 cut] 25)).heap.size = w.heap.size + 1 by simp] at kr
  have hga := grown_trans ga gb (by simp)
  have c0 := cell_of (i := 0) (v := .slice ao n cap) k3 rfl
  have c2 := cell_of (i := 2) (v := .slice mo mn mc) k3 rfl
  clear k3 ga gb
  generalize (w.alloc (.cells #[.slice ao n cap, .int .i64 base, .slice mo mn mc, .int .i64 cut] 25)).alloc (.cells #[.bool false] 4) = w0 at *
  generalize hz : w.heap.size = zz at *
  go_region_held3 (fun w' => w'.cell? ⟨zz, 0, none⟩ = some (.slice ao n cap) ∧ w'.cell? ⟨zz, 2, none⟩ = some (.slice mo mn mc)) (first | exact ⟨c0, c2⟩ | go_keep) (fail)
  have hG0 := grown_trans hga (grown_drew w0 none) (by simp)
  have kr1 := heap_kept (grown_drew w0 none) kr (by simp)
  clear c0 c2 hga kr
  generalize w0.drew = w1 at *
  have hLa := large_any w1 300 ao n cap l (ha.grown hG0)
  have hno := large_no (most := 300) (l := l)
  generalize largeB 300 l = A at *
  go_wp2_with fail
  refine hLa.mono ?_
  rintro e w1' ⟨rfl, hw⟩
  obtain rfl : w1 = w1' := hw.symm
  clear hw hLa
  have hend : ∀ w2, w1.grownBy w2 none → ∃ c, w2.cell? ⟨zz + 1, 0, none⟩ = some c ∧ (∀ i, w2.frozen? ⟨zz + 1, i, none⟩ = false) ∧ (w2.setCell ⟨zz + 1, 0, none⟩ (.bool true)).cell? ⟨zz + 1, 0, none⟩ = some (.bool true) ∧ w.grownBy (w2.setCell ⟨zz + 1, 0, none⟩ (.bool true)) none := fun w2 hg => by
    have k9 := heap_kept hg kr1 (by simp)
    exact ⟨.bool false, cell_of (i := 0) k9 rfl, frozen_of k9, cell_of (i := 0) (heap_set k9 0 (.bool true)) rfl, grown_trans (grown_trans hG0 hg (by simp)) (setCell_grown w2 (zz + 1) 0 (.bool true)) (fun k e => Or.inr (by cases e; omega))⟩
  cases A
  · obtain ⟨hn, hb⟩ := hno rfl
    rw [hl1] at hn
    have hbM : ∀ r ∈ l, r.kn ≤ 1048576 ∧ r.vn ≤ 1048576 := fun r hr => by have := hb r hr; omega
    have hSm : Small l := ⟨by omega, hbM⟩
    clear hno
    by_cases hbig : 70000 < mn
    · have hz0 : decide ((70000 : Int) < (mn : Int)) = true := by simp; omega
      go_wp2_with fail
      refine (known_any _).mono ?_
      rintro e wk ⟨rfl, hgk⟩
      obtain ⟨c9, e1, e2, e3, e4⟩ := hend wk hgk
      go_wp2
      exact ⟨.bool true, results_bool rfl _ _ (zz + 1) true rfl e3, rfl, e4⟩
    · have hz0 : decide ((70000 : Int) < (mn : Int)) = false := by simp; omega
      have hfi := fits_any w1 ao n cap l (ha.grown hG0) hSm
      go_wp2_with fail
      refine hfi.mono ?_
      rintro e w2 ⟨rfl, hg2⟩
      have hm5 := meas_five (l := l) (by omega)
      have hG2 := grown_trans hG0 hg2 (by simp)
      have gn := alloc_grown w2 (.cells #[.int .i64 ((fitsR l).1 : Int)] 3)
      have kn := heap_alloc_new w2 (.cells #[.int .i64 ((fitsR l).1 : Int)] 3)
      have hG3 := grown_trans hG2 gn (by simp)
      have h13 := grown_trans hg2 gn (by simp)
      clear hfi
      by_cases hf : (fitsR l).2 = 0
      · obtain ⟨hall, hne, hn256, hsz, hsize⟩ := fits_ok hf
        have hmm : (measR 5 l).2 = 0 := by rw [hm5]; exact hf
        have hpo := put_ok _ 5 ao n cap l (ha.grown hG3) hSm hmm
        rw [hsize] at kn gn hG3 h13 hpo
        have hgd := rk_good ha.shows
        obtain ⟨hGood, _⟩ := bat_whole hgd hmm
        have hbl : (batB 5 l).length = 20 + szs l := bat_len hGood
        have h2c := two_ch hgd hmm Mo hbl
        have HM5 : Hid (measR 5 l = fitsR l) := hm5
        obtain ⟨N, hN⟩ : ∃ N, 20 + szs l = N := ⟨_, rfl⟩
        rw [hsize, hf]
        rw [hN] at kn gn hG3 h13 hpo hbl h2c hsz ⊢
        obtain ⟨B, hB⟩ : ∃ B, batB 5 l = B := ⟨_, rfl⟩
        rw [hB] at hpo hbl h2c
        have hN32 : 20 ≤ N := by omega
        clear hm5 hmm hsize hf hB hGood
        go_wp2_with fail
        refine hpo.mono ?_
        rintro e w4 ⟨gB, rfl, ho4, hg4⟩
        have hG4 := grown_trans hG3 hg4 (by simp)
        have h14 := grown_trans h13 hg4 (by simp)
        have kn4 := heap_kept hg4 kn (by simp)
        clear hpo kn gn
        generalize w2.heap.size = zn at *
        go_wp2_with fail
        go_loopw [9, 10] (fun s' i' wr => ∃ (i s : Nat), i ≤ n ∧ i' = .int .i64 i ∧ s' = .int .i64 s ∧ Hid (s = 20 + szs (l.take i)) ∧ w4.grownBy wr none) (fun _ i' _ => n - (intOf i').toNat)
        case atStart => exact ⟨0, 20, Nat.zero_le _, rfl, rfl, (by simp [szs] : _ = _), grown_refl _ _⟩
        case round =>
          obtain ⟨i, s, hi, rfl, rfl, hs, hgr⟩ := hrel
          have hGr := grown_trans hG4 hgr (by simp)
          by_cases hlt : i < n
          · have hd2 : decide ((i : Int) < (n : Int)) = true := by simp; omega
            have h1 : i < l.length := by omega
            obtain ⟨xb, xo, rfl, hxl⟩ := ha.addr (by omega)
            have hat := (ha.grown hGr).at h1
            have hrk := (ha.grown hGr).shows _ (List.getElem_mem h1)
            have hs1 : Hid (s + (12 + (l[i]).kn + (l[i]).vn) = 20 + szs (l.take (i + 1))) := by show _ = _; rw [szs_snoc h1, hs.out]; omega
            have hle := szs_take l (i + 1)
            have hle2 : s + (12 + (l[i]).kn + (l[i]).vn) ≤ N := by rw [hs1.out]; omega
            generalize l[i] = r at *
            obtain ⟨r0, r1, r2⟩ := hat
            have hsa := size_any _ r hrk
            obtain ⟨q, hq⟩ : ∃ q, 12 + r.kn + r.vn = q := ⟨_, rfl⟩
            rw [hq] at hsa hs1 hle2
            have i1 : (0 : Int) ≤ (i : Int) := by omega
            have i2 : (i : Int) < (n : Int) := by omega
            clear hle hq hs
            go_wp2_with fail
            refine hsa.mono ?_
            rintro e w6 ⟨rfl, hg6⟩
            have hG6 := grown_trans hgr hg6 (by simp)
            clear hsa r0 r1 r2
            go_wp2
            go_roundw
            case rel => exact ⟨i + 1, s + q, by omega, by go_num, by go_num, hs1, hG6⟩
            case measure => simp [intOf]; omega
          · obtain rfl : i = n := by omega
            have hd2 : decide ((i : Int) < (i : Int)) = false := by simp
            have hsN : s = N := by rw [hs.out, List.take_of_length_le (by omega)]; exact hN
            subst hsN
            have cn := cell_of (i := 0) (v := .int .i64 (s : Int)) (heap_kept hgr kn4 (by simp)) rfl
            have h1r := grown_trans h14 hgr (by simp)
            have hor := ho4.grown hgr
            have hmor := hmo.grown hGr
            have d5 : ((s : Int) != (s : Int)) = false := by simp
            clear hs ho4 hN
            go_wp2_with (at_builtin; refine wpList_append_bs _ rfl (.const (.slice none 0 0)) (.tmp 86) 23 rfl wr.heap.size 5 Try.underlying23 Try.info5 rfl (Ow.nil _ _ _) rfl hor.shows (by omega) (Nat.le_refl _) ?_)
            intro a1 c1 w7 o7 g7
            have hg7 : wr.grownBy w7 none := g7
            have hb7 := (hor.grown hg7).shows
            have hs7 := hg7.size
            go_wp2_with (at_builtin; refine wpList_append_bs _ rfl (.tmp 87) (.tmp 88) 23 rfl wr.heap.size 5 Try.underlying23 Try.info5 rfl o7 rfl hb7 (by omega) hs7 ?_)
            intro a2 c2 w8 o8 g8
            have hg8 : wr.grownBy w8 none := grown_trans hg7 g8 (fun k e => Or.inr (o7.from_base k e).1)
            have hm8 := hmor.grown hg8
            have hs8 := hg8.size
            go_wp2_with (at_builtin; refine wpList_append_bs _ rfl (.tmp 89) (.tmp 90) 23 rfl wr.heap.size 5 Try.underlying23 Try.info5 rfl o8 rfl hm8 (by omega) hs8 ?_)
            intro a3 c3 w9 o9 g9
            have hg9 : wr.grownBy w9 none := grown_trans hg8 g9 (fun k e => Or.inr (o8.from_base k e).1)
            obtain ⟨g3, rfl, hg3a, hg3b⟩ := o9.addr (by omega)
            obtain ⟨T, hT⟩ : ∃ T, s + s + mn = T := ⟨_, rfl⟩
            obtain ⟨L2, hL2⟩ : ∃ L2, B ++ (B ++ Mo) = L2 := ⟨_, rfl⟩
            rw [hT, hL2] at o9
            rw [List.append_assoc, hL2] at h2c
            rw [hT]
            have hB9 : Bp w9 (some ⟨g3, 0, none⟩) T c3 L2 := ⟨o9.shows, fun a ha => ⟨g3, 0, (Option.some.inj ha).symm⟩, by omega, o9.shows.top⟩
            have hL2n := o9.shows.len
            have hwk := walk_any w9 (some ⟨g3, 0, none⟩) T c3 0 L2 hB9 (by omega) (fun a ha => by cases ha; exact hg3b)
            rw [show ((0 : Nat) : Int) = 0 from rfl] at hwk
            have cn9 := hg9.cell cn (by simp)
            clear o7 o8 g7 g8 g9 hb7 hm8 hs7 hs8 hor hmor cn hL2
            go_wp2_with fail
            refine hwk.mono ?_
            rintro e w10 ⟨hg10, k, R, Z, C, hCh, hNo, hZ, rfl⟩
            have g11 := alloc_grown w10 (.cells #[.int .i64 (k : Int), .int .i64 (R : Int), .int .i64 (Z : Int), .int .i64 C] 39)
            have k11 := heap_alloc_new w10 (.cells #[.int .i64 (k : Int), .int .i64 (R : Int), .int .i64 (Z : Int), .int .i64 C] 39)
            have hg911 := grown_trans hg10 g11 (by simp)
            have hs10 := hg10.size
            have cn11 := hg911.cell cn9 (by simp)
            obtain ⟨E, hE⟩ : ∃ E, 2 * s = E := ⟨_, rfl⟩
            have hwk2 := walk_any (w10.alloc (.cells #[.int .i64 (k : Int), .int .i64 (R : Int), .int .i64 (Z : Int), .int .i64 C] 39)) (some ⟨g3, 0, none⟩) T c3 E L2 (hB9.grown hg911) (by omega) (fun a ha => by cases ha; show g3 < _; have := hg911.size; omega)
            have hE2 : (2 : Int) * (s : Int) = (E : Int) := by omega
            have HE : Hid (2 * s = E) := hE
            clear hwk cn9 hE
            go_wp2_with fail
            generalize w10.alloc (.cells #[.int .i64 (k : Int), .int .i64 (R : Int), .int .i64 (Z : Int), .int .i64 C] 39) = w11 at *
            generalize hzs : w10.heap.size = zs at *
            refine hwk2.mono ?_
            rintro e w12 ⟨hg12, k', R', Z', C', hCh', hNo', hZ', rfl⟩
            have hone : k = k' + 2 ∧ R = R' + 2 * l.length ∧ Z = Z' + 2 * s ∧ C = C' := by
              have e1 := HE.out
              have h9 := ch_more h2c.2.2 (by rw [Nat.zero_add, e1]; exact hCh')
              obtain ⟨f1, f2, f3, f4⟩ := ch_one hCh hNo h9 (C' := C') (by rw [show 0 + (2 * s + Z') = E + Z' by omega]; exact hNo')
              exact ⟨by omega, by omega, by omega, f4⟩
            obtain ⟨hkT, hRT⟩ := ch_le hCh
            obtain ⟨hkT', hRT'⟩ := ch_le hCh'
            have g13 := alloc_grown w12 (.cells #[.int .i64 (k' : Int), .int .i64 (R' : Int), .int .i64 (Z' : Int), .int .i64 C'] 39)
            have k13 := heap_alloc_new w12 (.cells #[.int .i64 (k' : Int), .int .i64 (R' : Int), .int .i64 (Z' : Int), .int .i64 C'] 39)
            have hs13 : (w12.alloc (.cells #[.int .i64 (k' : Int), .int .i64 (R' : Int), .int .i64 (Z' : Int), .int .i64 C'] 39)).heap.size = w12.heap.size + 1 := by simp
            have hs12 := hg12.size
            have hs911 := hg911.size
            clear hwk2
            go_wp2_with fail
            generalize w12.alloc (.cells #[.int .i64 (k' : Int), .int .i64 (R' : Int), .int .i64 (Z' : Int), .int .i64 C'] 39) = w13 at *
            have g14 := alloc_grown w13 (.cells #[.int .i64 0] 3)
            have k14 := heap_alloc_new w13 (.cells #[.int .i64 0] 3)
            have hs14 : (w13.alloc (.cells #[.int .i64 0] 3)).heap.size = w12.heap.size + 1 + 1 := by simp [hs13]
            rw [hs13] at k14
            have g15 := alloc_grown (w13.alloc (.cells #[.int .i64 0] 3)) (.cells #[.int .i64 0] 3)
            have k15 := heap_alloc_new (w13.alloc (.cells #[.int .i64 0] 3)) (.cells #[.int .i64 0] 3)
            rw [hs14] at k15
            have g1315 := grown_trans g14 g15 (by simp)
            have k14' := heap_kept g15 k14 (by simp)
            have h1115 := grown_trans hg12 (grown_trans g13 g1315 (by simp)) (by simp)
            have hB15 := (hB9.grown hg911).grown h1115
            have hal := all_any _ (some ⟨g3, 0, none⟩) T c3 L2 hB15.bs (by omega)
            have hs15 : ((w13.alloc (.cells #[.int .i64 0] 3)).alloc (.cells #[.int .i64 0] 3)).heap.size = w12.heap.size + 3 := by simp [hs13]
            have ks12 := heap_kept hg12 k11 (by simp)
            have kn12 := heap_kept hg12 (heap_kept hg911 (heap_kept hg9 (heap_kept hgr kn4 (by simp)) (by simp)) (by simp)) (by simp)
            have hzsl := lt_of_heap ks12
            have hznl := lt_of_heap kn12
            have h1s13 : w1.heap.size ≤ w12.heap.size := by have := (grown_trans h1r (grown_trans hg9 (grown_trans hg911 hg12 (by simp)) (by simp)) (by simp)).size; exact this
            have ks13 := heap_kept g13 ks12 (by simp)
            have kn13 := heap_kept g13 (heap_kept hg12 (heap_kept hg911 (heap_kept hg9 (heap_kept hgr kn4 (by simp)) (by simp)) (by simp)) (by simp)) (by simp)
            have h1w13 := grown_trans h1r (grown_trans hg9 (grown_trans hg911 (grown_trans hg12 g13 (by simp)) (by simp)) (by simp)) (by simp)
            have hz12 : w12.heap.size = w12.heap.size := rfl
            generalize (w13.alloc (.cells #[.int .i64 0] 3)).alloc (.cells #[.int .i64 0] 3) = w15 at *
            refine hal.mono ?_
            rintro e w16 ⟨g, z, rfl, kz, oz, hgz, hzl, hg16⟩
            have heq := fun W => run_eql_fn W 43 _ _ _ Try.underlying43 (.func 24) #[] #[.pointer (some ⟨z, 0, none⟩)]
            have hgb := (oz.from_base g rfl)
            have h1316 := grown_trans g1315 hg16 (by simp)
            have bk := heap_kept hg16 k14' (by simp)
            have bi := heap_kept hg16 k15 (by simp)
            have bs := heap_kept h1316 ks13 (by simp)
            have bt := heap_kept h1316 k13 (by simp)
            have bn := heap_kept h1316 kn13 (by simp)
            have h1w16 := grown_trans h1w13 h1316 (by simp)
            have hB16 : Bp w16 (some ⟨g, 0, none⟩) T T L2 := ⟨oz.shows, fun a ha => ⟨g, 0, (Option.some.inj ha).symm⟩, by omega, by omega⟩
            have hnl := lt_of_heap kn13
            have hsl := lt_of_heap ks13
            clear ks12 kn12 hal g13 g14 g15 k14 k15 k14' g1315 h1115 hB15 ks13 kn13 hg9 hg911 hg12 hB9 o9 kn4 cn11 k11 k13
            go_wp2_with fail
            clear heq
            apply range3 (hcode := rfl) (W0 := w16) (zr := zz + 1) (zn := zn) (zk := w12.heap.size + 1) (z := z) (g := g) (N := s) (T := T) (L := L2) (hn := bn) (hk := bk) (hi := bi) (hz := kz) (hB := hB16) (hgl := hgb.2) (hzk := by omega) (hgk := by omega) (hnk := by omega) (hx := h2c.1) (hT := by omega) (hL := hL2n)
            intro D W' ys hD hDd hkk hii hG2 hY
            obtain ⟨hyl, hyp⟩ := yend_ch hL2n hY hCh hNo (by omega)
            rw [List.length_map] at hyl
            obtain ⟨f1, f2, f3, f4⟩ := hone
            have hlast : lastp ys < Z := by
              obtain ⟨x, hx, hlp⟩ := lastp_mem (ys := ys) (by omega)
              rw [hlp]
              exact hyp x.q (List.mem_map.2 ⟨x, hx, rfl⟩)
            rw [hyl] at hkk
            generalize lastp ys = lp at *
            have hs16 := h1w16.size
            have hl16 := h1316.size
            have c1 := (hG2.block zs (by omega) (by omega) (by omega)).trans bs
            have c2 := (hG2.block w12.heap.size (by omega) (by omega) (by omega)).trans bt
            have c3 := (hG2.block zn (by omega) (by omega) (by omega)).trans bn
            have s0 := cell_of (i := 0) (v := .int .i64 (k : Int)) c1 rfl
            have s1 := cell_of (i := 1) (v := .int .i64 (R : Int)) c1 rfl
            have s2 := cell_of (i := 2) (v := .int .i64 (Z : Int)) c1 rfl
            have s3 := cell_of (i := 3) (v := .int .i64 C) c1 rfl
            have t0 := cell_of (i := 0) (v := .int .i64 (k' : Int)) c2 rfl
            have t1 := cell_of (i := 1) (v := .int .i64 (R' : Int)) c2 rfl
            have t2 := cell_of (i := 2) (v := .int .i64 (Z' : Int)) c2 rfl
            have t3 := cell_of (i := 3) (v := .int .i64 C') c2 rfl
            have n0 := cell_of (i := 0) (v := .int .i64 (s : Int)) c3 rfl
            have q0 := cell_of (i := 0) (v := .int .i64 (k : Int)) hkk rfl
            have q1 := cell_of (i := 0) (v := .int .i64 (lp : Int)) hii rfl
            have h1W := G2.grown h1w16 hG2 (by omega)
            obtain ⟨M2, hM2⟩ : ∃ M2, 2 * i = M2 := ⟨_, rfl⟩
            have e2 : (2 : Int) * (i : Int) = (M2 : Int) := by omega
            have x1 : ((k : Int) == (k' : Int) + 2) = true := by simp; omega
            have x2 : ((R : Int) == (R' : Int) + (M2 : Int)) = true := by simp; omega
            have x3 : ((Z : Int) == (Z' : Int) + (E : Int)) = true := by have := HE.out; simp; omega
            have x4 : (C == C') = true := by simpa using f4
            have x5 : decide ((lp : Int) < (Z : Int)) = true := by simp; omega
            have x6 : decide (lp < Z) = true := by simp; omega
            have b1 : k' + 2 ≤ 1048576 := by omega
            have b2 : R' + M2 ≤ 1048576 := by omega
            have b3 : Z' + E ≤ 1048576 := by have := HE.out; omega
            have hmi : M2 ≤ 1000 := by omega
            have hDl : w16.heap.size ≤ D := hD
            clear f1 f2 f3 f4 hM2 c1 c2 c3 hyl hyp hY hkk hii bs bt bn bk bi hCh hNo hCh' hNo'
            go_wp2_with fail
            refine (known_any _).mono ?_
            rintro e wk ⟨rfl, hgk⟩
            have h1k := grown_trans h1W hgk (by simp)
            obtain ⟨c9, z1, z2, z3, z4⟩ := hend wk h1k
            have hDk := heap_kept hgk hDd (by simp)
            have e9 := (KeepsOthers.setCell wk ⟨zz + 1, 0, none⟩ (.bool true)).same D _ hDk rfl
            have kr9 := heap_set (heap_kept h1k kr1 (by simp)) 0 (.bool true)
            have hrl := lt_of_heap kr1
            clear s0 s1 s2 s3 t0 t1 t2 t3 n0 q0 q1
            go_wp2
            generalize wk.setCell ⟨zz + 1, 0, none⟩ (.bool true) = w20 at *
            refine ⟨by simp, .inl ⟨_, _, rfl, run_takeDeferred e9, ?_⟩⟩
            have po := grownBy_putObj' w20 D (.deferred none)
            have p1 := cell_of (i := 0) (v := .bool true) (heap_kept po kr9 (by simp; omega)) rfl
            exact ⟨.bool true, results_bool rfl _ _ (zz + 1) true rfl p1, rfl, grown_trans z4 po (fun q e => Or.inr (by cases e; omega))⟩
      · have hmn : (measR 5 l).2 ≠ 0 := by rw [hm5]; exact hf
        have hpn := put_not _ 5 ao n cap l (ha.grown hG3) hSm hmn
        rw [hm5] at hpn
        have h1z := fits_zero hf
        rw [h1z] at kn gn hG3 h13 hpn ⊢
        generalize (fitsR l).2 = C at *
        have hd1 : (C != 0) = true := by simpa using hf
        clear hm5 h1z hf hmn
        go_wp2_with fail
        refine hpn.mono ?_
        rintro e w4 ⟨rfl, hg4⟩
        have c5 := cell_of (i := 0) (v := .int .i64 ((0 : Nat) : Int)) (heap_kept hg4 kn (by simp)) rfl
        clear hpn
        go_wp2_with fail
        refine (known_any _).mono ?_
        rintro e wk ⟨rfl, hgk⟩
        obtain ⟨c9, e1, e2, e3, e4⟩ := hend wk (grown_trans h13 (grown_trans hg4 hgk (by simp)) (by simp))
        go_wp2
        exact ⟨.bool true, results_bool rfl _ _ (zz + 1) true rfl e3, rfl, e4⟩
  · go_wp2_with fail
    refine (known_any _).mono ?_
    rintro e wk ⟨rfl, hgk⟩
    obtain ⟨c9, e1, e2, e3, e4⟩ := hend wk hgk
    go_wp2
    exact ⟨.bool true, results_bool rfl _ _ (zz + 1) true rfl e3, rfl, e4⟩
end Go.Proofs.Ytlfgikhjcimppab
