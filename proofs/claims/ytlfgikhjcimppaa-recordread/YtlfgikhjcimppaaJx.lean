import Derived.Test.YtlfgikhjcimppaaIx
import Derived.RangeFuncNested
import Derived.RangeFuncBound
import Derived.RangeFuncCalls
import Derived.RangeFuncLeaves
import Derived.Shelf.Abstract
import Derived.OwnWalkIn
import Derived.TacticsInMore
import Derived.LoopNIn
import Derived.LoopIn

/-
  wholes: its closure as an iterator.
-/
namespace Go.Proofs.Ytlfgikhjcimppaa
open Go.RowKit Go.Shelf
set_option linter.unusedVariables false
attribute [local go_sem] Oper.semAt_some

/-- What a round is handed: a place, and the batch that stands there. -/
structure Wx where
  p : Nat
  b : Int
  ro : Option Addr
  c : Nat
  rc : Nat
  s : Nat
def wenc (x : Wx) : Array Value := #[.int .i64 x.p, .agg #[.int .i64 x.b, .slice x.ro x.c x.rc, .int .i64 x.s]]

/-- Batches one behind the other, each as it was handed. -/
inductive Run (L : List UInt8) (i : Nat) : List Wx → Nat → Prop
  | nil : Run L i [] 0
  | snoc {ys : List Wx} {Z S : Nat} {x : Wx} : Run L i ys Z → extR (L.drop (i + Z)) = (S, 0) → Whole ((L.drop (i + Z)).take S) S → x.p = i + Z → x.c = cAt ((L.drop (i + Z)).take S) → x.s = S → Run L i (ys ++ [x]) (Z + S)

theorem Run.ch {L : List UInt8} {i Z : Nat} {ys : List Wx} (h : Run L i ys Z) : Ch L i ys.length (ys.map (·.c)).sum Z ∧ (ys.map (·.s)).sum = Z := by
  induction h with
  | nil => exact ⟨Ch.nil, rfl⟩
  | @snoc ys Z S x h1 h2 h3 h4 h5 h6 ih =>
    refine ⟨?_, by simp [ih.2, h6]⟩
    have h9 := Ch.snoc ih.1 h2 h3
    simp only [List.length_append, List.length_cons, List.length_nil, List.map_append, List.map_cons, List.map_nil, List.sum_append, List.sum_cons, List.sum_nil, h5, Nat.add_zero]
    exact h9
theorem Run.le {L : List UInt8} {i Z : Nat} {ys : List Wx} (h : Run L i ys Z) : 32 * ys.length ≤ Z := by
  induction h with
  | nil => simp
  | @snoc ys Z S x h1 h2 h3 h4 h5 h6 ih =>
    have := h3.low
    simp
    omega

/-- All blocks of cells but one are kept. -/
structure Kz (q : Nat) (W W' : World) : Prop where
  size : W.heap.size ≤ W'.heap.size
  same : ∀ (k : Nat) (o : Obj), W.heap[k]? = some o → o.isCells = true → k ≠ q → W'.heap[k]? = some o
theorem Kz.trans {q : Nat} {A B C : World} (h : Kz q A B) (h' : Kz q B C) : Kz q A C := ⟨Nat.le_trans h.size h'.size, fun k o h1 h2 h3 => h'.same k o (h.same k o h1 h2 h3) h2 h3⟩
theorem Kz.heap {q : Nat} {W W' : World} (h : Kz q W W') {k : Nat} {cs : Array Value} {t : TypeId} (hk : W.heap[k]? = some (.cells cs t)) (hq : k ≠ q) : W'.heap[k]? = some (.cells cs t) := h.same k _ hk rfl hq
theorem Kz.cell {q : Nat} {W W' : World} (h : Kz q W W') {a : Addr} {v : Value} (hc : W.cell? a = some v) (hq : a.block ≠ q) : W'.cell? a = some v := by
  cases ho : W.heap[a.block]? with
  | none => simp [World.cell?, ho] at hc
  | some o =>
    by_cases hi : o.isCells = true
    · rw [World.cell?_of_block ((h.same _ o ho hi hq).trans ho.symm)]
      exact hc
    · exfalso
      cases o <;> simp_all [World.cell?, Obj.isCells]
theorem Kz.of {q : Nat} {W W' : World} (h : W.grownBy W' none) : Kz q W W' := ⟨h.size, fun k o hk _ _ => heap_kept h hk (by simp)⟩

theorem find_any (w : World) (ao : Option Addr) (n cap i : Nat) (L : List UInt8) (h : Bp w ao n cap L) (hi : i ≤ n) :
    Calls Try.prog 47 #[.slice ao n cap, .int .i64 i] w fun e w' => w.grownBy w' none ∧ ((∃ C, NoAt (L.drop i) C ∧ e = .returned (.tuple #[.agg #[.int .i64 0, .slice none 0 0, .int .i64 0], .int .i64 C])) ∨
      (∃ S ro rc, extR (L.drop i) = (S, 0) ∧ Whole ((L.drop i).take S) S ∧ i + S ≤ n ∧ e = .returned (.tuple #[.agg #[.int .i64 (bAt ((L.drop i).take S)), .slice ro (cAt ((L.drop i).take S)) rc, .int .i64 S], .int .i64 0]))) := by
  by_cases h0 : (extR (L.drop i)).2 = 0
  · have hE : extR (L.drop i) = ((extR (L.drop i)).1, 0) := by rw [← h0]
    obtain ⟨s1, s2, s3, _⟩ := extR_ok hE
    have hl := h.bs.len
    rw [List.length_drop, hl] at s3
    by_cases hW : Whole ((L.drop i).take (extR (L.drop i)).1) (extR (L.drop i)).1
    · obtain ⟨b, o, rfl, _⟩ := h.bs.addr (by omega)
      refine (find_yes w b o n cap i _ L h.bs hi h.top h.cap hE (by omega) hW).mono ?_
      rintro e w' ⟨base, ro, rc, rs, -, rfl, -, -, hg⟩
      exact ⟨hg, Or.inr ⟨_, ro, rc, hE, hW, by omega, rfl⟩⟩
    · have hN : NoAt (L.drop i) 152 := ⟨by omega, Or.inr ⟨h0, rfl, hW⟩⟩
      refine (find_no w ao n cap i L 152 h hi hN).mono ?_
      rintro e w' ⟨rfl, hg⟩
      exact ⟨hg, Or.inl ⟨_, hN, rfl⟩⟩
  · have hN : NoAt (L.drop i) (extR (L.drop i)).2 := ⟨h0, Or.inl rfl⟩
    refine (find_no w ao n cap i L _ h hi hN).mono ?_
    rintro e w' ⟨rfl, hg⟩
    exact ⟨hg, Or.inl ⟨_, hN, rfl⟩⟩

set_option maxRecDepth 100000 in
set_option maxHeartbeats 2000000 in
theorem wholes1_in (l ca cb q : Nat) (ao : Option Addr) (n cap i : Nat) (L : List UInt8) (hi : i ≤ n) (hn : n ≤ 1048576) (J Jx : List Wx → World → Prop) (m : Nat) (hm : 1 ≤ m)
    (hJ : ∀ s W W', J s W → W.grownBy W' none → J s W') (hJx : ∀ s W W', Jx s W → W.grownBy W' none → Jx s W')
    (hY : ∀ pre x W1, J pre W1 → pre.length < n → YieldAt Fence.wide (m - 1) Try.prog l (wenc x) W1 fun e W' =>
      (e = .returned (.bool true) ∧ J (pre ++ [x]) W' ∧ Kz q W1 W') ∨ (e = .returned (.bool false) ∧ Jx (pre ++ [x]) W'))
    (W : World) (hca : W.cell? ⟨ca, 0, none⟩ = some (.int .i64 i)) (hcb : W.heap[cb]? = some (.cells #[.slice ao n cap] 31)) (hcq : cb ≠ q) (hql : q < W.heap.size) (hB : ∀ W', Kz q W W' → Bp W' ao n cap L) (h0 : J [] W) :
    CallsIn Fence.wide m Try.prog 61 #[.func (.yield l) #[] #[], .pointer (some ⟨ca, 0, none⟩), .pointer (some ⟨cb, 0, none⟩)] W fun e W' => (∃ v, e = .returned v) ∧
      ((∃ ys, (∃ Z C, Run L i ys Z ∧ i + Z ≤ n ∧ NoAt (L.drop (i + Z)) C) ∧ J ys W') ∨ (∃ pre, (∃ Z, Run L i pre Z) ∧ Jx pre W')) := by
  refine callsIn_of_wp Try.func61 rfl trivial ?_
  simp only [Try.ntmps61, List.size_toArray, List.length_cons, List.length_nil, Nat.reduceAdd, Nat.reduceSub, Array.replicate_succ, Array.replicate_zero, List.push_toArray, List.append_toArray, List.nil_append, List.cons_append]
  gi_wp2
  gi_loopw [4, 5, 6] (fun pl _ _ wr => ∃ (ys : List Wx) (Z : Nat), Run L i ys Z ∧ i + Z ≤ n ∧ pl = .int .i64 (i + Z : Nat) ∧ Kz q W wr ∧ J ys wr) (fun pl _ _ _ => n - (intOf pl).toNat)
  case atStart => exact ⟨[], 0, Run.nil, by omega, rfl, ⟨Nat.le_refl _, fun _ _ h _ _ => h⟩, h0⟩
  case round =>
    obtain ⟨ys, Z, hrun, hZ, rfl, hK, hJy⟩ := hrel
    have hcw := hK.heap hcb hcq
    have c0 := cell_of (i := 0) (v := .slice ao n cap) hcw rfl
    obtain ⟨T, hT⟩ : ∃ T, Hid (T = i + Z) := ⟨i + Z, (rfl : _ = _)⟩
    rw [show ((i + Z : Nat) : Int) = (T : Int) by rw [hT.out]]
    have hfa := find_any wr ao n cap T L (hB _ hK) (by have := hT.out; omega)
    gi_wp2_with fail
    refine ⟨trivial, callsIn_wide.2 (hfa.mono ?_)⟩
    clear hfa c0 hcw
    rintro e w1 ⟨hg1, ⟨C, hNo, rfl⟩ | ⟨S, ro, rc, hE, hW, hS, rfl⟩⟩
    · have hC : (C != 0) = true := by simpa using hNo.1
      have ga := alloc_grown w1 (.cells #[.int .i64 0, .slice none 0 0, .int .i64 0] 85)
      have hJe := hJ _ _ _ (hJ _ _ _ hJy hg1) ga
      gi_wp2
      refine ⟨(fun f hf => nomatch hf), ?_⟩
      gi_wp2
      refine bodyPost_ret (results_none rfl _ _ _) rfl ?_
      exact ⟨⟨_, rfl⟩, .inl ⟨ys, ⟨Z, C, hrun, hZ, by rw [← hT.out]; exact hNo⟩, hJe⟩⟩
    · have hs32 := hW.low
      have hrun2 : ∀ x : Wx, x.p = T → x.c = cAt ((L.drop T).take S) → x.s = S → Run L i (ys ++ [x]) (Z + S) := fun x h1 h2 h3 => Run.snoc hrun (by rw [← hT.out]; exact hE) (by rw [← hT.out]; exact hW) (by rw [← hT.out]; exact h1) (by rw [← hT.out]; exact h2) h3
      have hZ2 : i + (Z + S) ≤ n := by have := hT.out; omega
      generalize bAt ((L.drop T).take S) = BA at *
      generalize cAt ((L.drop T).take S) = CA at *
      have hrunx := hrun2 ⟨T, BA, ro, CA, rc, S⟩ rfl rfl rfl
      have ga := alloc_grown w1 (.cells #[.int .i64 BA, .slice ro CA rc, .int .i64 (S : Int)] 85)
      have k3 := heap_alloc_new w1 (.cells #[.int .i64 BA, .slice ro CA rc, .int .i64 (S : Int)] 85)
      have hJe := hJ _ _ _ (hJ _ _ _ hJy hg1) ga
      have hK2 := (hK.trans (Kz.of hg1)).trans (Kz.of ga)
      have hzq : w1.heap.size ≠ q := by have h1 := hK.size; have h2 := hg1.size; omega
      have hlen9 := hrun.le
      obtain ⟨fn, tmps, assign, body, hy, hR⟩ := hY ys ⟨T, BA, ro, CA, rc, S⟩ _ hJe (by omega)
      simp only [wenc] at hy
      gi_wp2_with fail
      refine hR.mono ?_
      clear hR hy
      generalize w1.alloc (.cells #[.int .i64 BA, .slice ro CA rc, .int .i64 (S : Int)] 85) = w2 at *
      generalize w1.heap.size = z5 at *
      rintro e W3 (⟨rfl, hJ3, hk3⟩ | ⟨rfl, hJx3⟩)
      · have k5 := hk3.heap k3 hzq
        have c2 := cell_of (i := 2) (v := .int .i64 (S : Int)) k5 rfl
        have hTs : ((T : Int) + (S : Int)) = ((i + (Z + S) : Nat) : Int) := by have := hT.out; omega
        have hK3 := hK2.trans hk3
        obtain ⟨T2, hT2⟩ : ∃ T2 : Nat, Hid (T2 = i + (Z + S)) := ⟨_, (rfl : i + (Z + S) = _)⟩
        rw [show (i + (Z + S)) = T2 from hT2.out.symm] at hTs
        gi_wp2
        go_roundw
        case rel => exact ⟨ys ++ [⟨T, BA, ro, CA, rc, S⟩], Z + S, hrunx, hZ2, by rw [hT2.out], hK3, hJ3⟩
        case measure => have := hT.out; have := hT2.out; simp [intOf]; omega
      · gi_wp2
        refine bodyPost_ret (results_none rfl _ _ _) rfl ?_
        exact ⟨⟨_, rfl⟩, .inr ⟨_, ⟨_, hrunx⟩, hJx3⟩⟩
end Go.Proofs.Ytlfgikhjcimppaa

/-
  wholes, as the kit's word for an iterator.
-/
namespace Go.Proofs.Ytlfgikhjcimppaa
open Go.RowKit Go.Shelf
set_option linter.unusedVariables false
attribute [local go_sem] Oper.semAt_some

theorem Bs.kz {q : Nat} {W W' : World} {ao : Option Addr} {n cap : Nat} {L : List UInt8} (h : Bs W ao n cap L) (hk : Kz q W W') (hne : ∀ a, ao = some a → a.block ≠ q) : Bs W' ao n cap L :=
  ⟨h.len, h.room, h.top, h.nil, fun a ha j u hu => hk.cell (h.cells a ha j u hu) (by rw [show (a.add j).block = a.block by unfold Addr.add; split <;> rfl]; exact hne a ha)⟩
theorem Bs.below {B : Nat} {W W' : World} {ao : Option Addr} {n cap : Nat} {L : List UInt8} (h : Bs W ao n cap L) (hW : Below B W W') (hne : ∀ a, ao = some a → a.block < B) : Bs W' ao n cap L :=
  ⟨h.len, h.room, h.top, h.nil, fun a ha j u hu => (hW.cell (p := a.add j) (by rw [show (a.add j).block = a.block by unfold Addr.add; split <;> rfl]; exact hne a ha)).trans (h.cells a ha j u hu)⟩

set_option maxHeartbeats 1000000 in
theorem wholes_any (w : World) (ao : Option Addr) (n cap : Nat) (i : Int) :
    Calls Try.prog 52 #[.slice ao n cap, .int .i64 i] w fun e w' => e = .returned (.func (.func 61) #[] #[.pointer (some ⟨w.heap.size + 1, 0, none⟩), .pointer (some ⟨w.heap.size, 0, none⟩)]) ∧ w'.heap[w.heap.size]? = some (.cells #[.slice ao n cap] 31) ∧ w'.heap[w.heap.size + 1]? = some (.cells #[.int .i64 i] 3) ∧ w.grownBy w' none := by
  have hmf : ∀ (fn : Fn) (first cap : Array Value) (w : World), (Instr.makeFunc fn first cap).run Try.prog w = .ok (.func fn first cap) w := fun _ _ _ _ => rfl
  have g1 := alloc_grown w (.cells #[.slice ao n cap] 31)
  have k1 := heap_alloc_new w (.cells #[.slice ao n cap] 31)
  have g2 := alloc_grown (w.alloc (.cells #[.slice ao n cap] 31)) (.cells #[.int .i64 i] 3)
  have k2 := heap_alloc_new (w.alloc (.cells #[.slice ao n cap] 31)) (.cells #[.int .i64 i] 3)
  rw [show (w.alloc (.cells #[.slice ao n cap] 31)).heap.size = w.heap.size + 1 by simp] at k2
  have k1' := heap_kept g2 k1 (by simp)
  have hG := grown_trans g1 g2 (by simp)
  clear g1 g2 k1
  go_enter Try.func52, Try.ntmps52
  go_wp2
  go_ret
  exact ⟨rfl, k1', k2, hG⟩

/-- What a run is. -/
def Rn (L : List UInt8) (i n : Nat) (ys : List Wx) : Prop := ∃ Z C, Run L i ys Z ∧ i + Z ≤ n ∧ NoAt (L.drop (i + Z)) C

theorem wholes_stops (m : Nat) (hm : 1 ≤ m) (ca cb q : Nat) (ao : Option Addr) (n cap i : Nat) (L : List UInt8) (hi : i ≤ n) (w : World) (hB : Bp w ao n cap L) (hca : w.cell? ⟨ca, 0, none⟩ = some (.int .i64 i)) (hcb : w.heap[cb]? = some (.cells #[.slice ao n cap] 31)) (hcq : cb ≠ q) (hql : q < w.heap.size) (hne : ∀ a, ao = some a → a.block ≠ q) (hlt : ∀ a, ao = some a → a.block < w.heap.size) :
    SeqStopsK Fence.wide m Try.prog 61 #[.pointer (some ⟨ca, 0, none⟩), .pointer (some ⟨cb, 0, none⟩)] wenc (Kz q) (Rn L i n) (fun pre => ∃ Z, Run L i pre Z) n w := by
  intro l J Jx W hW hJ hJx hY h0
  have hcl : ca < w.heap.size := World.block_lt_of_cell? w _ hca
  refine wholes1_in l ca cb q ao n cap i L hi hB.top J Jx m hm (fun s A B hs hg => hJ s A B none hs hg (fun r e => by cases e)) (fun s A B hs hg => hJx s A B none hs hg (fun r e => by cases e)) hY W ((hW.cell (p := ⟨ca, 0, none⟩) hcl).trans hca) ((hW.block cb (lt_of_heap hcb)).trans hcb) hcq (Nat.lt_of_lt_of_le hql hW.size) (fun W' hk => ⟨(hB.bs.below hW hlt).kz hk hne, hB.at_, hB.top, hB.cap⟩) h0
end Go.Proofs.Ytlfgikhjcimppaa

/-
  Walk: the walk.
-/
namespace Go.Proofs.Ytlfgikhjcimppaa
open Go.RowKit Go.Shelf
set_option linter.unusedVariables false
attribute [local go_sem] Oper.semAt_some

theorem Kz.set (q : Nat) (W : World) (i : Nat) (v : Value) : Kz q W (W.setCell ⟨q, i, none⟩ v) := ⟨(setCell_grown W q i v).size, fun k o hk _ hq => heap_oth hk i v hq⟩

/-- Sums as the program makes them. -/
def addW (f : Wx → Nat) (ys : List Wx) : Int := ys.foldl (fun a x => wrap64 (a + (f x : Int))) 0
theorem addW_snoc (f : Wx → Nat) (ys : List Wx) (x : Wx) : addW f (ys ++ [x]) = wrap64 (addW f ys + (f x : Int)) := by simp [addW]
theorem wrap64_in {z : Int} (h0 : 0 ≤ z) (h1 : z < 9223372036854775808) : wrap64 z = z := by unfold wrap64; omega
theorem run_add {L : List UInt8} {i Z : Nat} {ys : List Wx} (h : Run L i ys Z) (hZ : Z ≤ 1048576) : addW (·.c) ys = ((ys.map (·.c)).sum : Nat) ∧ addW (·.s) ys = (Z : Int) := by
  induction h with
  | nil => exact ⟨rfl, rfl⟩
  | @snoc ys Z S x h1 h2 h3 h4 h5 h6 ih =>
    obtain ⟨i1, i2⟩ := ih (by omega)
    have hc := whole_c h3
    have hch := (ch_le h1.ch.1).2
    rw [← h5] at hc
    rw [addW_snoc, addW_snoc, i1, i2, h6]
    refine ⟨?_, ?_⟩
    · rw [List.map_append, List.sum_append]
      simp only [List.map_cons, List.map_nil, List.sum_cons, List.sum_nil, Nat.add_zero]
      rw [wrap64_in (by omega) (by omega)]
      omega
    · rw [wrap64_in (by omega) (by omega)]
      omega

set_option maxRecDepth 100000 in
set_option maxHeartbeats 4000000 in
theorem walk_any (w : World) (ao : Option Addr) (n cap i : Nat) (L : List UInt8) (hB : Bp w ao n cap L) (hi : i ≤ n) (hlt : ∀ a, ao = some a → a.block < w.heap.size) :
    Calls Try.prog 30 #[.slice ao n cap, .int .i64 i] w fun e w' => w.grownBy w' none ∧ ∃ (k R Z : Nat) (C : Int), Ch L i k R Z ∧ NoAt (L.drop (i + Z)) C ∧ i + Z ≤ n ∧ e = .returned (.tuple #[.agg #[.int .i64 k, .int .i64 R, .int .i64 Z, .int .i64 C], .int .i64 0]) := by
  have htop := hB.top
  have g1 := alloc_grown w (.cells #[.int .i64 0, .int .i64 0, .int .i64 0, .int .i64 0] 53)
  have k1 := heap_alloc_new w (.cells #[.int .i64 0, .int .i64 0, .int .i64 0, .int .i64 0] 53)
  have hip := isPlace_any (w.alloc (.cells #[.int .i64 0, .int .i64 0, .int .i64 0, .int .i64 0] 53)) ao n cap i
  rw [show plcB n i = true by unfold plcB; simp; omega] at hip
  obtain ⟨z, hz⟩ : ∃ z, w.heap.size = z := ⟨_, rfl⟩
  rw [hz] at k1
  refine (callsIn_wide (n := 5)).1 ?_
  refine callsIn_of_wp_marks Try.func30 rfl trivial ?_
  simp only [Try.ntmps30, List.size_toArray, List.length_cons, List.length_nil, Nat.reduceAdd, Nat.reduceSub, Array.replicate_succ, Array.replicate_zero, List.push_toArray, List.append_toArray, List.nil_append, List.cons_append]
  gi_wp2_with fail
  refine ⟨trivial, callsIn_wide.2 (hip.mono ?_)⟩
  clear hip
  rintro e w0 ⟨rfl, hw⟩
  subst hw
  gi_wp2_with fail
  have g2 := alloc_grown (w.alloc (.cells #[.int .i64 0, .int .i64 0, .int .i64 0, .int .i64 0] 53)) (.cells #[.int .i64 0, .int .i64 0, .int .i64 0, .int .i64 0] 53)
  have k2 := heap_alloc_new (w.alloc (.cells #[.int .i64 0, .int .i64 0, .int .i64 0, .int .i64 0] 53)) (.cells #[.int .i64 0, .int .i64 0, .int .i64 0, .int .i64 0] 53)
  have hs1 : (w.alloc (.cells #[.int .i64 0, .int .i64 0, .int .i64 0, .int .i64 0] 53)).heap.size = z + 1 := by simp [hz]
  rw [hs1] at k2
  have k1' := heap_kept g2 k1 (by simp)
  have hG2 := grown_trans g1 g2 (by simp)
  have hwh := wholes_any ((w.alloc (.cells #[.int .i64 0, .int .i64 0, .int .i64 0, .int .i64 0] 53)).alloc (.cells #[.int .i64 0, .int .i64 0, .int .i64 0, .int .i64 0] 53)) ao n cap i
  rw [show ((w.alloc (.cells #[.int .i64 0, .int .i64 0, .int .i64 0, .int .i64 0] 53)).alloc (.cells #[.int .i64 0, .int .i64 0, .int .i64 0, .int .i64 0] 53)).heap.size = z + 2 by simp [hz]] at hwh
  clear g1 g2 k1 hs1
  generalize (w.alloc (.cells #[.int .i64 0, .int .i64 0, .int .i64 0, .int .i64 0] 53)).alloc (.cells #[.int .i64 0, .int .i64 0, .int .i64 0, .int .i64 0] 53) = w2 at *
  refine ⟨trivial, callsIn_wide.2 (hwh.mono ?_)⟩
  clear hwh
  rintro e w3 ⟨rfl, kb, ka, hg3⟩
  have ks := heap_kept hg3 k2 (by simp)
  have kr := heap_kept hg3 k1' (by simp)
  have hG3 := grown_trans hG2 hg3 (by simp)
  clear k2 k1' hG2 hg3
  gi_wp2_with fail
  have hsz3 : z + 4 ≤ w3.heap.size := lt_of_heap ka
  have hbel : Below z w w3 := by rw [← hz]; exact grownBy_below hG3
  have hB3 := hB.grown hG3
  have hq1 : z + 1 < w3.heap.size := by omega
  have hcA := cell_of (i := 0) (v := .int .i64 (i : Int)) ka rfl
  have hne3 : ∀ a, ao = some a → a.block ≠ z + 1 := fun a ha => by have := hlt a ha; omega
  have hlt3 : ∀ a, ao = some a → a.block < w3.heap.size := fun a ha => by have := hlt a ha; omega
  apply wpIn_rangeFunc_ownH (encs := wenc) (Kp := Kz (z + 1)) (S := Rn L i n) (Sp := fun pre => ∃ Z, Run L i pre Z) (N := n) (w0 := w3) rfl (by decide) (gf := 61) (lb := #[.pointer (some ⟨z + 2 + 1, 0, none⟩), .pointer (some ⟨z + 2, 0, none⟩)]) rfl trivial (enters_of Try.func61 (by kernel_rfl) rfl)
    (wholes_stops 4 (by decide) (z + 2 + 1) (z + 2) (z + 1) ao n cap i L hi w3 hB3 hcA kb (by omega) hq1 hne3 hlt3) (fun h h' => h.trans h')
    (fun W l o o' hl ho hc _ => ⟨by simp, fun k x hk hx hq => heap_kept (grownBy_putObj' W l o') hk (fun e => by
      obtain rfl : k = l := by simpa using e
      rw [ho] at hk
      cases hk
      rw [hc] at hx
      cases hx)⟩) (Below.refl _ _) (fun _ => rfl)
    (fun pre W => W.heap[z + 1]? = some (.cells #[.int .i64 (pre.length : Int), .int .i64 (addW (·.c) pre), .int .i64 (addW (·.s) pre), .int .i64 0] 53) ∧ W.heap[z]? = some (.cells #[.int .i64 0, .int .i64 0, .int .i64 0, .int .i64 0] 53) ∧ Below z w W ∧ z + 4 ≤ W.heap.size)
    (fun _ _ _ => False)
    (fun s A B row hs hg hr => ⟨heap_kept hg hs.1 (fun e => by have := (hr _ e.symm).1; omega), heap_kept hg hs.2.1 (fun e => by have := (hr _ e.symm).1; omega), hs.2.2.1.grown hg (by have := hs.2.2.2; omega) (fun k hk => by have := (hr k hk).1; omega), Nat.le_trans hs.2.2.2 hg.size⟩)
    (fun _ _ _ _ _ hs _ _ => hs.elim)
    ⟨ks, kr, hbel, hsz3⟩
    (fun x a' W => ∃ g, W.heap[g]? = some (.cells #[.int .i64 x.b, .slice x.ro x.c x.rc, .int .i64 (x.s : Int)] 85) ∧ g ≠ z + 1 ∧ g ≠ z ∧ a' = { tmps := #[.slice ao n cap, .int .i64 i, undef, undef, .pointer (some ⟨z, 0, none⟩), .int .i64 0, .pointer (some ⟨z + 1, 0, none⟩), undef, .pointer (some ⟨g, 0, none⟩), .slice ao n cap, .int .i64 i, .bool true, .bool false, undef, .slice ao n cap, .int .i64 i, .func (.func 61) #[] #[.pointer (some ⟨z + 2 + 1, 0, none⟩), .pointer (some ⟨z + 2, 0, none⟩)], .int .i64 x.p, .agg #[.int .i64 x.b, .slice x.ro x.c x.rc, .int .i64 x.s], undef, undef, undef, undef, undef, undef, undef, undef, undef, undef, undef, undef, undef, undef, undef, undef, undef, undef, undef, undef, undef, undef, undef, undef, undef, undef, undef, undef, undef], defers := [] })
  case hAx =>
    rintro x a' ⟨⟩ A B row ⟨g, h1, h2, h3, h4⟩ hg hr
    exact ⟨g, heap_kept hg h1 (fun e => by
      obtain ⟨_, o, ho, hoc⟩ := hr _ e.symm
      rw [h1] at ho
      cases ho
      cases hoc), h2, h3, h4⟩
  case hassign =>
    intro l pre x W K hI hK
    simp only [wenc]
    have ga := alloc_grown W (.cells #[.int .i64 x.b, .slice x.ro x.c x.rc, .int .i64 (x.s : Int)] 85)
    have k9 := heap_alloc_new W (.cells #[.int .i64 x.b, .slice x.ro x.c x.rc, .int .i64 (x.s : Int)] 85)
    gi_wp2
    refine hK _ _ ((KeepsOthers.alloc W _).from _) (Kz.of ga) ⟨heap_kept ga hI.1 (by simp), heap_kept ga hI.2.1 (by simp), hI.2.2.1.grown ga (by have := hI.2.2.2; omega) (fun k hk => by cases hk), Nat.le_trans hI.2.2.2 ga.size⟩ ⟨W.heap.size, k9, by have := hI.2.2.2; omega, by have := hI.2.2.2; omega, rfl⟩
  case hbody =>
    rintro l pre x a' W hl ⟨rr, hrr⟩ ⟨i1, i2, i3, i4⟩ ⟨g, g1, g2, g3, rfl⟩ hpl
    have x0 := cell_of (i := 0) (v := .int .i64 (pre.length : Int)) i1 rfl
    have x1 := cell_of (i := 1) (v := .int .i64 (addW (·.c) pre)) i1 rfl
    have x2 := cell_of (i := 2) (v := .int .i64 (addW (·.s) pre)) i1 rfl
    have xf := frozen_of i1
    have y1 := cell_of (i := 1) (v := .slice x.ro x.c x.rc) g1 rfl
    have y2 := cell_of (i := 2) (v := .int .i64 (x.s : Int)) g1 rfl
    have ne1 : ¬ g = z + 1 := g2
    have ne2 : ¬ z + 1 = g := fun e => g2 e.symm
    have hk1 := ((Kz.set (z + 1) W 0 (.int .i64 ((pre.length : Int) + 1))).trans (Kz.set (z + 1) _ 1 (.int .i64 (wrap64 (addW (·.c) pre + (x.c : Int)))))).trans (Kz.set (z + 1) _ 2 (.int .i64 (wrap64 (addW (·.s) pre + (x.s : Int)))))
    have hk2 := ((KeepsOthers.setCell W ⟨z + 1, 0, none⟩ (.int .i64 ((pre.length : Int) + 1))).trans (KeepsOthers.setCell _ ⟨z + 1, 1, none⟩ (.int .i64 (wrap64 (addW (·.c) pre + (x.c : Int)))))).trans (KeepsOthers.setCell _ ⟨z + 1, 2, none⟩ (.int .i64 (wrap64 (addW (·.s) pre + (x.s : Int)))))
    have p1 := heap_set (heap_set (heap_set i1 0 (.int .i64 ((pre.length : Int) + 1))) 1 (.int .i64 (wrap64 (addW (·.c) pre + (x.c : Int))))) 2 (.int .i64 (wrap64 (addW (·.s) pre + (x.s : Int))))
    have p2 := heap_oth (heap_oth (heap_oth i2 0 (.int .i64 ((pre.length : Int) + 1)) (show z ≠ z + 1 by omega)) 1 (.int .i64 (wrap64 (addW (·.c) pre + (x.c : Int)))) (show z ≠ z + 1 by omega)) 2 (.int .i64 (wrap64 (addW (·.s) pre + (x.s : Int)))) (show z ≠ z + 1 by omega)
    have p3 := ((i3.setCell (p := ⟨z + 1, 0, none⟩) (by show z ≤ z + 1; omega) (.int .i64 ((pre.length : Int) + 1))).setCell (p := ⟨z + 1, 1, none⟩) (by show z ≤ z + 1; omega) (.int .i64 (wrap64 (addW (·.c) pre + (x.c : Int))))).setCell (p := ⟨z + 1, 2, none⟩) (by show z ≤ z + 1; omega) (.int .i64 (wrap64 (addW (·.s) pre + (x.s : Int))))
    have p4 : z + 4 ≤ _ := Nat.le_trans i4 hk1.size
    rw [← addW_snoc, ← addW_snoc] at hk1 hk2 p1 p2 p3 p4
    have e1 : ((pre ++ [x]).length : Int) = (pre.length : Int) + 1 := by simp
    gi_wp2_with fail
    rw [← addW_snoc, ← addW_snoc]
    exact ⟨hk2.from _, hk1, by rw [e1]; exact p1, p2, p3, p4⟩
  case hdone =>
    rintro D ys W hD ⟨Z, C, hrun, hZ, hNo⟩ ⟨i1, i2, i3, i4⟩ hK
    obtain ⟨hch, hsum⟩ := hrun.ch
    obtain ⟨a1, a2⟩ := run_add hrun (by omega)
    rw [a1, a2] at i1
    have x2 := cell_of (i := 2) (v := .int .i64 (Z : Int)) i1 rfl
    obtain ⟨T, hT⟩ : ∃ T, Hid (T = i + Z) := ⟨i + Z, (rfl : _ = _)⟩
    have hTs : (i : Int) + (Z : Int) = (T : Int) := by have := hT.out; omega
    have hBW : Bp W ao n cap L := ⟨hB.bs.below i3 (fun a ha => by have := hlt a ha; omega), hB.at_, hB.top, hB.cap⟩
    have hfn := find_no W ao n cap T L C hBW (by have := hT.out; omega) (by rw [hT.out]; exact hNo)
    gi_wp2_with fail
    refine ⟨trivial, callsIn_wide.2 (hfn.mono ?_)⟩
    clear hfn x2
    rintro e w4 ⟨rfl, hg4⟩
    have i1' := heap_kept hg4 i1 (by simp)
    have i2' := heap_kept hg4 i2 (by simp)
    have hK4 := heap_kept hg4 hK (by simp)
    have hs4 := hg4.size
    have i3' := i3.grown hg4 (by omega) (fun k hk => by cases hk)
    have x0 := cell_of (i := 0) (v := .int .i64 (ys.length : Int)) i1' rfl
    have x1 := cell_of (i := 1) (v := .int .i64 (((ys.map (·.c)).sum : Nat) : Int)) i1' rfl
    have x2 := cell_of (i := 2) (v := .int .i64 (Z : Int)) i1' rfl
    have x3 := cell_of (i := 3) (v := .int .i64 (0 : Int)) i1' rfl
    have xf := frozen_of i1'
    have y0 := cell_of (i := 0) (v := .int .i64 (0 : Int)) i2' rfl
    have y1 := cell_of (i := 1) (v := .int .i64 (0 : Int)) i2' rfl
    have y2 := cell_of (i := 2) (v := .int .i64 (0 : Int)) i2' rfl
    have y3 := cell_of (i := 3) (v := .int .i64 (0 : Int)) i2' rfl
    have yf := frozen_of i2'
    have hko := ((((KeepsOthers.setCell w4 ⟨z + 1, 3, none⟩ (.int .i64 C)).trans (KeepsOthers.setCell _ ⟨z, 0, none⟩ (.int .i64 (ys.length : Int)))).trans (KeepsOthers.setCell _ ⟨z, 1, none⟩ (.int .i64 (((ys.map (·.c)).sum : Nat) : Int)))).trans (KeepsOthers.setCell _ ⟨z, 2, none⟩ (.int .i64 (Z : Int)))).trans (KeepsOthers.setCell _ ⟨z, 3, none⟩ (.int .i64 C))
    have hK5 := hko.same D _ hK4 rfl
    have p1 := heap_set (heap_set (heap_set (heap_set (heap_oth i2' 3 (.int .i64 C) (show z ≠ z + 1 by omega)) 0 (.int .i64 (ys.length : Int))) 1 (.int .i64 (((ys.map (·.c)).sum : Nat) : Int))) 2 (.int .i64 (Z : Int))) 3 (.int .i64 C)
    have p3 := ((((i3'.setCell (p := ⟨z + 1, 3, none⟩) (by show z ≤ z + 1; omega) (.int .i64 C)).setCell (p := ⟨z, 0, none⟩) (Nat.le_refl _) (.int .i64 (ys.length : Int))).setCell (p := ⟨z, 1, none⟩) (Nat.le_refl _) (.int .i64 (((ys.map (·.c)).sum : Nat) : Int))).setCell (p := ⟨z, 2, none⟩) (Nat.le_refl _) (.int .i64 (Z : Int))).setCell (p := ⟨z, 3, none⟩) (Nat.le_refl _) (.int .i64 C)
    gi_wp2_with fail
    refine ⟨by simp, .inl ⟨_, _, rfl, run_takeDeferred hK5, ?_⟩⟩
    have hpo := grownBy_putObj' (((((w4.setCell ⟨z + 1, 3, none⟩ (.int .i64 C)).setCell ⟨z, 0, none⟩ (.int .i64 (ys.length : Int))).setCell ⟨z, 1, none⟩ (.int .i64 (((ys.map (·.c)).sum : Nat) : Int))).setCell ⟨z, 2, none⟩ (.int .i64 (Z : Int))).setCell ⟨z, 3, none⟩ (.int .i64 C)) D (.deferred none)
    have p2 := heap_kept hpo p1 (by simp; omega)
    have v0 := cell_of (i := 0) (v := .int .i64 (ys.length : Int)) p2 rfl
    have v1 := cell_of (i := 1) (v := .int .i64 (((ys.map (·.c)).sum : Nat) : Int)) p2 rfl
    have v2 := cell_of (i := 2) (v := .int .i64 (Z : Int)) p2 rfl
    have v3 := cell_of (i := 3) (v := .int .i64 C) p2 rfl
    have p4 := p3.grown hpo (Nat.le_trans (by omega) hko.size) (fun k hk => by cases hk; omega)
    clear p1 p3 hko x0 x1 x2 x3 xf y0 y1 y2 y3 yf
    generalize ((((((w4.setCell ⟨z + 1, 3, none⟩ (.int .i64 C)).setCell ⟨z, 0, none⟩ (.int .i64 (ys.length : Int))).setCell ⟨z, 1, none⟩ (.int .i64 (((ys.map (·.c)).sum : Nat) : Int))).setCell ⟨z, 2, none⟩ (.int .i64 (Z : Int))).setCell ⟨z, 3, none⟩ (.int .i64 C))).putObj D (.deferred none) = w9 at *
    exact ⟨.tuple #[.agg #[.int .i64 (ys.length : Int), .int .i64 (((ys.map (·.c)).sum : Nat) : Int), .int .i64 (Z : Int), .int .i64 C], .int .i64 0], by simp [results, Try.results30, go_sem, v0, v1, v2, v3], below_grownBy (by rw [hz]; exact p4), ys.length, _, Z, C, hch, hNo, hZ, rfl⟩
  case hstop =>
    intro D c pre W _ _ hf _
    exact hf.elim
end Go.Proofs.Ytlfgikhjcimppaa

/-
  What is told of any place of any bytes: both sides' words.
-/
namespace Go.Proofs.Ytlfgikhjcimppaa
open Go.RowKit Go.Shelf
set_option linter.unusedVariables false
attribute [local go_sem] Oper.semAt_some

set_option maxRecDepth 100000 in
set_option maxHeartbeats 2000000 in
theorem walk_bad (w : World) (ao : Option Addr) (n cap : Nat) (at' : Int) (h : plcB n at' = false) :
    Calls Try.prog 30 #[.slice ao n cap, .int .i64 at'] w fun e w' => e = .returned (.tuple #[.agg #[.int .i64 0, .int .i64 0, .int .i64 0, .int .i64 0], .int .i64 4]) ∧ w.grownBy w' none := by
  have g1 := alloc_grown w (.cells #[.int .i64 0, .int .i64 0, .int .i64 0, .int .i64 0] 53)
  have k1 := heap_alloc_new w (.cells #[.int .i64 0, .int .i64 0, .int .i64 0, .int .i64 0] 53)
  have hip := isPlace_any (w.alloc (.cells #[.int .i64 0, .int .i64 0, .int .i64 0, .int .i64 0] 53)) ao n cap at'
  rw [h] at hip
  have d0 := cell_of (i := 0) (v := .int .i64 (0 : Int)) k1 rfl
  have d1 := cell_of (i := 1) (v := .int .i64 (0 : Int)) k1 rfl
  have d2 := cell_of (i := 2) (v := .int .i64 (0 : Int)) k1 rfl
  have d3 := cell_of (i := 3) (v := .int .i64 (0 : Int)) k1 rfl
  have df := frozen_of k1
  refine (callsIn_wide (n := 5)).1 ?_
  refine callsIn_of_wp_marks Try.func30 rfl trivial ?_
  simp only [Try.ntmps30, List.size_toArray, List.length_cons, List.length_nil, Nat.reduceAdd, Nat.reduceSub, Array.replicate_succ, Array.replicate_zero, List.push_toArray, List.append_toArray, List.nil_append, List.cons_append]
  gi_wp2_with fail
  refine ⟨trivial, callsIn_wide.2 (hip.mono ?_)⟩
  clear hip
  rintro e w0 ⟨rfl, hw⟩
  subst hw
  gi_wp2_with fail
  exact ⟨.tuple #[.agg #[.int .i64 0, .int .i64 0, .int .i64 0, .int .i64 0], .int .i64 4], by simp [results, Try.results30, go_sem, d0, d1, d2, d3], rfl, g1⟩

set_option maxRecDepth 100000 in
set_option maxHeartbeats 2000000 in
theorem rwalk_bad (w : World) (ao : Option Addr) (n cap : Nat) (at' : Int) (h : plcB n at' = false) :
    Calls Try.prog 31 #[.slice ao n cap, .int .i64 at'] w fun e w' => e = .returned (.tuple #[.agg #[.int .i64 0, .int .i64 0, .int .i64 0, .int .i64 0], .int .i64 4]) ∧ w.grownBy w' none := by
  have g1 := alloc_grown w (.cells #[.int .i64 0, .int .i64 0, .int .i64 0, .int .i64 0] 53)
  have k1 := heap_alloc_new w (.cells #[.int .i64 0, .int .i64 0, .int .i64 0, .int .i64 0] 53)
  have d0 := cell_of (i := 0) (v := .int .i64 (0 : Int)) k1 rfl
  have d1 := cell_of (i := 1) (v := .int .i64 (0 : Int)) k1 rfl
  have d2 := cell_of (i := 2) (v := .int .i64 (0 : Int)) k1 rfl
  have d3 := cell_of (i := 3) (v := .int .i64 (0 : Int)) k1 rfl
  have df := frozen_of k1
  by_cases hneg : at' < 0
  · have e1 : decide (at' < 0) = true := by simpa using hneg
    go_enter Try.func31, Try.ntmps31
    go_wp2_with fail
    refine bodyPost_ret (v := .tuple #[.agg #[.int .i64 0, .int .i64 0, .int .i64 0, .int .i64 0], .int .i64 4]) (by simp [results, Try.results31, go_sem, d0, d1, d2, d3]) rfl ?_
    exact ⟨rfl, g1⟩
  · have e1 : decide (at' < 0) = false := by simpa using hneg
    have e2 : decide ((n : Int) < at') = true := by
      unfold plcB at h
      simp only [Bool.and_eq_false_iff, decide_eq_false_iff_not] at h
      simp
      omega
    go_enter Try.func31, Try.ntmps31
    go_wp2_with fail
    refine bodyPost_ret (v := .tuple #[.agg #[.int .i64 0, .int .i64 0, .int .i64 0, .int .i64 0], .int .i64 4]) (by simp [results, Try.results31, go_sem, d0, d1, d2, d3]) rfl ?_
    exact ⟨rfl, g1⟩

/-- What both Walks tell. -/
def WK (L : List UInt8) (n : Nat) (at' a b c d e : Int) : Prop := (plcB n at' = false ∧ a = 0 ∧ b = 0 ∧ c = 0 ∧ d = 0 ∧ e = 4) ∨ (plcB n at' = true ∧ e = 0 ∧ ∃ (k R Z : Nat), a = k ∧ b = R ∧ c = Z ∧ Ch L at'.toNat k R Z ∧ NoAt (L.drop (at'.toNat + Z)) d)
theorem WK.one {L : List UInt8} {n : Nat} {at' a b c d e a' b' c' d' e' : Int} (h : WK L n at' a b c d e) (h' : WK L n at' a' b' c' d' e') : a = a' ∧ b = b' ∧ c = c' ∧ d = d' ∧ e = e' := by
  rcases h with ⟨p, rfl, rfl, rfl, rfl, rfl⟩ | ⟨p, rfl, k, R, Z, rfl, rfl, rfl, h1, h2⟩ <;> rcases h' with ⟨p', rfl, rfl, rfl, rfl, rfl⟩ | ⟨p', rfl, k', R', Z', rfl, rfl, rfl, h1', h2'⟩
  · exact ⟨rfl, rfl, rfl, rfl, rfl⟩
  · rw [p] at p'; cases p'
  · rw [p] at p'; cases p'
  · obtain ⟨rfl, rfl, rfl, rfl⟩ := ch_one h1 h2 h1' h2'
    exact ⟨rfl, rfl, rfl, rfl, rfl⟩

theorem plc_nat {n : Nat} {at' : Int} (h : plcB n at' = true) : ∃ i : Nat, at' = (i : Int) ∧ i ≤ n := by
  unfold plcB at h
  simp only [Bool.and_eq_true, decide_eq_true_eq] at h
  exact ⟨at'.toNat, by omega, by omega⟩

theorem walk_wk (w : World) (ao : Option Addr) (n cap : Nat) (at' : Int) (L : List UInt8) (hB : Bp w ao n cap L) (hlt : ∀ a, ao = some a → a.block < w.heap.size) :
    Calls Try.prog 30 #[.slice ao n cap, .int .i64 at'] w fun x w' => ∃ a b c d e, WK L n at' a b c d e ∧ x = .returned (.tuple #[.agg #[.int .i64 a, .int .i64 b, .int .i64 c, .int .i64 d], .int .i64 e]) ∧ w.grownBy w' none := by
  cases hp : plcB n at' with
  | false =>
    refine (walk_bad w ao n cap at' hp).mono ?_
    rintro x w' ⟨rfl, hg⟩
    exact ⟨0, 0, 0, 0, 4, Or.inl ⟨hp, rfl, rfl, rfl, rfl, rfl⟩, rfl, hg⟩
  | true =>
    obtain ⟨i, rfl, hi⟩ := plc_nat hp
    refine (walk_any w ao n cap i L hB hi hlt).mono ?_
    rintro x w' ⟨hg, k, R, Z, C, h1, h2, h3, rfl⟩
    exact ⟨k, R, Z, C, 0, Or.inr ⟨hp, rfl, k, R, Z, rfl, rfl, rfl, h1, h2⟩, rfl, hg⟩
theorem rwalk_wk (w : World) (ao : Option Addr) (n cap : Nat) (at' : Int) (L : List UInt8) (hB : Bp w ao n cap L) :
    Calls Try.prog 31 #[.slice ao n cap, .int .i64 at'] w fun x w' => ∃ a b c d e, WK L n at' a b c d e ∧ x = .returned (.tuple #[.agg #[.int .i64 a, .int .i64 b, .int .i64 c, .int .i64 d], .int .i64 e]) ∧ w.grownBy w' none := by
  cases hp : plcB n at' with
  | false =>
    refine (rwalk_bad w ao n cap at' hp).mono ?_
    rintro x w' ⟨rfl, hg⟩
    exact ⟨0, 0, 0, 0, 4, Or.inl ⟨hp, rfl, rfl, rfl, rfl, rfl⟩, rfl, hg⟩
  | true =>
    obtain ⟨i, rfl, hi⟩ := plc_nat hp
    refine (rwalk_any w ao n cap i L hB hi).mono ?_
    rintro x w' ⟨hg, k, R, Z, C, h1, h2, h3, rfl⟩
    exact ⟨k, R, Z, C, 0, Or.inr ⟨hp, rfl, k, R, Z, rfl, rfl, rfl, h1, h2⟩, rfl, hg⟩

/-- What both Reads, and Look, tell: the base, how many records, of how many bytes, the code, the records. -/
def RK (L : List UInt8) (n : Nat) (at' b : Int) (c s : Nat) (e : Int) (D : List Dr) : Prop := (plcB n at' = false ∧ b = 0 ∧ c = 0 ∧ s = 0 ∧ e = 4 ∧ D = []) ∨ (plcB n at' = true ∧ NoAt (L.drop at'.toNat) e ∧ b = 0 ∧ c = 0 ∧ s = 0 ∧ D = []) ∨
  (plcB n at' = true ∧ extR (L.drop at'.toNat) = (s, 0) ∧ Whole ((L.drop at'.toNat).take s) s ∧ b = bAt ((L.drop at'.toNat).take s) ∧ c = cAt ((L.drop at'.toNat).take s) ∧ e = 0 ∧ D.length = c ∧ ∀ j d, D[j]? = some d → Says ((L.drop at'.toNat).take s) (posAt ((L.drop at'.toNat).take s) j) d)
theorem RK.one {L : List UInt8} {n : Nat} {at' b b' : Int} {c s c' s' : Nat} {e e' : Int} {D D' : List Dr} (h : RK L n at' b c s e D) (h' : RK L n at' b' c' s' e' D') : b = b' ∧ c = c' ∧ s = s' ∧ e = e' ∧ D = D' := by
  rcases h with ⟨p, rfl, rfl, rfl, rfl, rfl⟩ | ⟨p, hN, rfl, rfl, rfl, rfl⟩ | ⟨p, h1, h2, rfl, rfl, rfl, h6, h7⟩ <;> rcases h' with ⟨p', rfl, rfl, rfl, rfl, rfl⟩ | ⟨p', hN', rfl, rfl, rfl, rfl⟩ | ⟨p', h1', h2', rfl, rfl, rfl, h6', h7'⟩
  · exact ⟨rfl, rfl, rfl, rfl, rfl⟩
  · rw [p] at p'; cases p'
  · rw [p] at p'; cases p'
  · rw [p] at p'; cases p'
  · exact ⟨rfl, rfl, rfl, noat_one hN hN', rfl⟩
  · exact (noat_not hN h1' h2').elim
  · rw [p] at p'; cases p'
  · exact (noat_not hN' h1 h2).elim
  · rw [h1] at h1'
    cases h1'
    refine ⟨rfl, rfl, rfl, rfl, ?_⟩
    apply List.ext_getElem?
    intro j
    by_cases hj : j < D.length
    · have e1 : D[j]? = some D[j] := by simp
      have e2 : D'[j]? = some (D'[j]'(by omega)) := by simp
      obtain ⟨a1, a2, a3⟩ := h7 j _ e1
      obtain ⟨b1, b2, b3⟩ := h7' j _ e2
      rw [e1, e2]
      exact congrArg some (Prod.ext (a1.trans b1.symm) (Prod.ext (a2.trans b2.symm) (a3.trans b3.symm)))
    · rw [List.getElem?_eq_none (by omega), List.getElem?_eq_none (by omega)]
end Go.Proofs.Ytlfgikhjcimppaa

/-
  Both Reads and Look, in one word.
-/
namespace Go.Proofs.Ytlfgikhjcimppaa
open Go.RowKit
set_option linter.unusedVariables false

theorem Cb.rebase {w : World} {B B' : Nat} {ao : Option Addr} {n : Nat} (h : Cb w B ao n) (hb : B' ≤ B) : Cb w B' ao n := ⟨fun hn => by
  obtain ⟨g, o, h1, h2, h3⟩ := h.at_ hn
  exact ⟨g, o, h1, Nat.le_trans hb h2, h3⟩⟩

/-- The records as the bytes tell them. -/
def dAt (B : List UInt8) (p : Nat) : Dr := (tAt B p, (B.drop (p + 12)).take (kAt B p), (B.drop (p + 12 + kAt B p)).take (vAt B p))

theorem read_rk (w : World) (ao : Option Addr) (n cap : Nat) (at' : Int) (L : List UInt8) (hB : Bp w ao n cap L) :
    Calls Try.prog 27 #[.slice ao n cap, .int .i64 at'] w fun x w' => ∃ b c s e xo xc rs, RK L n at' b c s e (ds rs) ∧ x = .returned (.tuple #[.agg #[.int .i64 b, .slice xo c xc], .int .i64 s, .int .i64 e]) ∧ Rs w' xo c xc rs ∧ (c = 0 ∨ ∃ g, xo = some ⟨g, 0, none⟩ ∧ xc = c ∧ w.heap.size ≤ g ∧ Cr w' g c rs) ∧ w.grownBy w' none := by
  cases hp : plcB n at' with
  | false =>
    refine (read_bad w ao n cap at' hp).mono ?_
    rintro x w' ⟨rfl, hg⟩
    exact ⟨0, 0, 0, 4, none, 0, [], Or.inl ⟨hp, rfl, rfl, rfl, rfl, rfl⟩, rfl, Rs.none _, Or.inl rfl, hg⟩
  | true =>
    obtain ⟨i, rfl, hi⟩ := plc_nat hp
    refine (read_any w ao n cap i L hB hi).mono ?_
    rintro x w' ⟨hg, ⟨C, hN, rfl⟩ | ⟨S, g, base, rs, hE, hW, rfl, h1, h2, h3, h4, h5⟩⟩
    · exact ⟨0, 0, 0, C, none, 0, [], Or.inr (Or.inl ⟨hp, hN, rfl, rfl, rfl, rfl⟩), rfl, Rs.none _, Or.inl rfl, hg⟩
    · refine ⟨_, _, S, 0, _, _, rs, Or.inr (Or.inr ⟨hp, hE, hW, rfl, rfl, rfl, ?_, h4⟩), rfl, h3.shows (fun r hr => (h5 r hr).rk), Or.inr ⟨g, rfl, rfl, h1, h3, fun r hr => (h5 r hr).key_cb.rebase (by omega), fun r hr => (h5 r hr).val_cb.rebase (by omega)⟩, hg⟩
      rw [ds_len]
      exact h3.len

theorem rread_rk (w : World) (ao : Option Addr) (n cap : Nat) (at' : Int) (L : List UInt8) (hB : Bp w ao n cap L) :
    Calls Try.prog 28 #[.slice ao n cap, .int .i64 at'] w fun x w' => ∃ b c s e xo xc rs, RK L n at' b c s e (ds rs) ∧ x = .returned (.tuple #[.agg #[.int .i64 b, .slice xo c xc], .int .i64 s, .int .i64 e]) ∧ Rs w' xo c xc rs ∧ w.grownBy w' none := by
  cases hp : plcB n at' with
  | false =>
    refine (rread_bad w ao n cap at' hp).mono ?_
    rintro x w' ⟨rfl, hg⟩
    exact ⟨0, 0, 0, 4, none, 0, [], Or.inl ⟨hp, rfl, rfl, rfl, rfl, rfl⟩, rfl, Rs.none _, hg⟩
  | true =>
    obtain ⟨i, rfl, hi⟩ := plc_nat hp
    refine (rread_bp w ao n cap i L hB hi).mono ?_
    rintro x w' ⟨hg, ⟨C, hN, rfl⟩ | ⟨S, ro, rc, rs, hE, hW, rfl, h3, h5, h4⟩⟩
    · exact ⟨0, 0, 0, C, none, 0, [], Or.inr (Or.inl ⟨hp, hN, rfl, rfl, rfl, rfl⟩), rfl, Rs.none _, hg⟩
    · refine ⟨_, _, S, 0, _, _, rs, Or.inr (Or.inr ⟨hp, hE, hW, rfl, rfl, rfl, ?_, h4⟩), rfl, h3.shows (fun r hr => (h5 r hr).rk), hg⟩
      rw [ds_len]
      exact h3.len

theorem look_rk (w : World) (ao : Option Addr) (n cap : Nat) (at' : Int) (L : List UInt8) (hB : Bp w ao n cap L) :
    Calls Try.prog 29 #[.slice ao n cap, .int .i64 at'] w fun x w' => ∃ b c s e D, RK L n at' b c s e D ∧ x = .returned (.tuple #[.int .i64 b, .int .i64 (c : Nat), .int .i64 (s : Nat), .int .i64 e]) ∧ w.grownBy w' none := by
  cases hp : plcB n at' with
  | false =>
    refine (look_bad w ao n cap at' hp).mono ?_
    rintro x w' ⟨rfl, hg⟩
    exact ⟨0, 0, 0, 4, [], Or.inl ⟨hp, rfl, rfl, rfl, rfl, rfl⟩, rfl, hg⟩
  | true =>
    obtain ⟨i, rfl, hi⟩ := plc_nat hp
    by_cases hY : ∃ S, extR (L.drop i) = (S, 0) ∧ Whole ((L.drop i).take S) S
    · obtain ⟨S, hE, hW⟩ := hY
      obtain ⟨s1, s2, s3, _⟩ := extR_ok hE
      rw [List.length_drop, hB.bs.len] at s3
      obtain ⟨b, o, rfl, _⟩ := hB.bs.addr (by omega)
      refine (look_yes w b o n cap i S L hB.bs hi hB.top hB.cap hE (by omega) hW).mono ?_
      rintro x w' ⟨rfl, hg⟩
      refine ⟨_, _, S, 0, (List.range (cAt ((L.drop i).take S))).map (fun j => dAt ((L.drop i).take S) (posAt ((L.drop i).take S) j)), Or.inr (Or.inr ⟨hp, hE, hW, rfl, rfl, rfl, by simp, fun j d hd => ?_⟩), rfl, hg⟩
      rw [List.getElem?_map] at hd
      by_cases hj : j < cAt ((L.drop i).take S)
      · rw [List.getElem?_range hj] at hd
        cases hd
        exact ⟨rfl, rfl, rfl⟩
      · rw [List.getElem?_eq_none (by simp; omega)] at hd; cases hd
    · have hN : ∃ C, NoAt (L.drop i) C := by
        by_cases h0 : (extR (L.drop i)).2 = 0
        · refine ⟨152, by omega, Or.inr ⟨h0, rfl, fun hW => hY ⟨(extR (L.drop i)).1, by rw [← h0], hW⟩⟩⟩
        · exact ⟨_, h0, Or.inl rfl⟩
      obtain ⟨C, hN⟩ := hN
      refine (look_no w ao n cap i L C hB hi hN).mono ?_
      rintro x w' ⟨rfl, hg⟩
      exact ⟨0, 0, 0, C, [], Or.inr (Or.inl ⟨hp, hN, rfl, rfl, rfl, rfl⟩), rfl, hg⟩
end Go.Proofs.Ytlfgikhjcimppaa

/-
  RecordRead: the walk.
-/
namespace Go.Proofs.Ytlfgikhjcimppaa
open Go.RowKit
set_option linter.unusedVariables false

set_option maxRecDepth 100000 in
set_option maxHeartbeats 16000000 in
theorem recordRead_any (w : World) (ao : Option Addr) (n cap : Nat) (L : List UInt8) (at' : Int) (hb : Bs w ao n cap L) (hpl : ∀ a, ao = some a → ∃ b o, a = ⟨b, o, none⟩) :
    Calls Try.prog 5 #[.slice ao n cap, .int .i64 at'] w fun e w' => e = .returned (.bool true) ∧ w.grownBy w' none := by
  have hlen := hb.len
  have htop := Nat.le_trans hb.room hb.top
  unfold maxLen at htop
  by_cases hbig : 200000 < n
  · have hd : decide ((200000 : Int) < (n : Int)) = true := by simp; omega
    go_enter Try.func5, Try.ntmps5
    go_wp2_with fail
    refine (known_any _).mono ?_
    rintro e wk ⟨rfl, hgk⟩
    have hGk := grown_trans (grown_refl w none) hgk (by simp)
    go_wp2
    go_ret
    exact ⟨rfl, hGk⟩
  · have hd : decide ((200000 : Int) < (n : Int)) = false := by simp; omega
    go_enter Try.func5, Try.ntmps5
    go_wp2_with (at_builtin; refine wpList_append_bs _ rfl _ _ 31 rfl w.heap.size 5 Try.underlying31 Try.info5 rfl (Ow.nil _ _ _) rfl hb (by omega) (Nat.le_refl _) ?_)
    intro am cm w1 o1 g1
    have hG1 : w.grownBy w1 none := g1
    have hone := Bs.one w1 (.int .u8 77) 77 5 rfl
    have ga := alloc_grown w1 (.cells #[.int .u8 77] 5)
    have o1' := o1.grown ga
    have hs1 := hG1.size
    have hsa := ga.size
    go_wp2_with (at_builtin; refine wpList_append_bs _ rfl _ _ 31 rfl w.heap.size 5 Try.underlying31 Try.info5 rfl o1' rfl hone (by omega) (Nat.le_trans hs1 hsa) ?_)
    intro aq cq w2 o2 g2
    have hG2 := grown_trans (grown_trans hG1 ga (by simp)) g2 (fun q hq => Or.inr (o1.from_base q hq).1)
    obtain ⟨gq, rfl, hgq1, hgq2⟩ := o2.addr (by omega)
    have hroom2 := o2.shows.room
    have htop2 := o2.shows.top
    have hm1 := o2.shows.take n (by omega)
    rw [List.take_left' hlen] at hm1
    have hmk := o2.shows.at (o := 0) (j := n) (by simp; omega)
    rw [Nat.zero_add, List.getElem_append_right (by omega)] at hmk
    have hmk2 : w2.cell? ⟨gq, n, none⟩ = some (.int .u8 77) := by rw [hmk]; simp [hlen]
    have hBm : Bp w2 (some ⟨gq, 0, none⟩) n cq L := ⟨hm1, fun a ha => ⟨gq, 0, (Option.some.inj ha).symm⟩, by omega, htop2⟩
    have hBb : Bp w2 ao n cap L := ⟨hb.grown hG2, hpl, by omega, hb.top⟩
    have j1 : (n : Int) ≤ (cq : Int) := by omega
    have j2 : (n : Int) + 1 ≤ (cq : Int) := by omega
    have j3 : n ≤ cq ∧ n + 1 ≤ cq := by omega
    obtain ⟨j3, j4⟩ := j3
    clear hmk hm1 o2 g2 o1' o1 hone ga g1 hG1
    go_wp2_with fail
    refine (read_rk _ _ n cq at' L hBm).mono ?_
    rintro x w3 ⟨b, c, s, e, xo, xc, rs, hRK, rfl, hRx, hXr, hg3⟩
    have gx := alloc_grown w3 (.cells #[.int .i64 b, .slice xo c xc] 35)
    have kx := heap_alloc_new w3 (.cells #[.int .i64 b, .slice xo c xc] 35)
    have hG3 := grown_trans hg3 gx (by simp)
    have hX3 : c = 0 ∨ ∃ g, xo = some ⟨g, 0, none⟩ ∧ xc = c ∧ w2.heap.size ≤ g ∧ Cr (w3.alloc (.cells #[.int .i64 b, .slice xo c xc] 35)) g c rs := hXr.imp id (fun ⟨g, h1, h2, h3, h4⟩ => ⟨g, h1, h2, h3, h4.grown gx⟩)
    have hRx3 := hRx.grown gx
    clear hRx hXr hg3 gx
    go_wp2_with fail
    generalize w3.alloc (.cells #[.int .i64 b, .slice xo c xc] 35) = w4 at *
    generalize w3.heap.size = zx at *
    refine (rread_rk _ ao n cap at' L (hBb.grown hG3)).mono ?_
    rintro x w5 ⟨b', c', s', e', yo, yc, ys, hRK', rfl, hRy, hg5⟩
    obtain ⟨rfl, rfl, rfl, rfl, hDy⟩ := hRK.one hRK'
    have gy := alloc_grown w5 (.cells #[.int .i64 b, .slice yo c yc] 35)
    have ky := heap_alloc_new w5 (.cells #[.int .i64 b, .slice yo c yc] 35)
    have hg6 := grown_trans hg5 gy (by simp)
    have hG6 := grown_trans hG3 hg6 (by simp)
    have kx6 := heap_kept hg6 kx (by simp)
    have hX6 : c = 0 ∨ ∃ g, xo = some ⟨g, 0, none⟩ ∧ xc = c ∧ w2.heap.size ≤ g ∧ Cr (w5.alloc (.cells #[.int .i64 b, .slice yo c yc] 35)) g c rs := hX3.imp id (fun ⟨g, h1, h2, h3, h4⟩ => ⟨g, h1, h2, h3, h4.grown hg6⟩)
    have hRx6 := hRx3.grown hg6
    have hRy6 := hRy.grown gy
    clear hRx3 hX3 hRy hg5 gy hg6 kx hG3 hRK'
    go_wp2_with fail
    generalize w5.alloc (.cells #[.int .i64 b, .slice yo c yc] 35) = w6 at *
    generalize w5.heap.size = zy at *
    refine (look_rk _ _ n cq at' L (hBm.grown hG6)).mono ?_
    rintro x w7 ⟨b', c', s', e', D, hRK', rfl, hg7⟩
    obtain ⟨rfl, rfl, rfl, rfl, _⟩ := hRK.one hRK'
    have hG7 := grown_trans hG6 hg7 (by simp)
    have kx7 := heap_kept hg7 kx6 (by simp)
    have ky7 := heap_kept hg7 ky (by simp)
    have hX7 : c = 0 ∨ ∃ g, xo = some ⟨g, 0, none⟩ ∧ xc = c ∧ w2.heap.size ≤ g ∧ Cr w7 g c rs := hX6.imp id (fun ⟨g, h1, h2, h3, h4⟩ => ⟨g, h1, h2, h3, h4.grown hg7⟩)
    have hRx7 := hRx6.grown hg7
    have hRy7 := hRy6.grown hg7
    clear hRx6 hRy6 hX6 kx6 ky hG6 hg7 hRK'
    go_wp2_with fail
    refine (walk_wk _ _ n cq at' L (hBm.grown hG7) (fun a ha => by cases ha; exact Nat.lt_of_lt_of_le hgq2 hG7.size)).mono ?_
    rintro x w8 ⟨s0, s1, s2, s3, se, hWK, rfl, hg8⟩
    have gs := alloc_grown w8 (.cells #[.int .i64 s0, .int .i64 s1, .int .i64 s2, .int .i64 s3] 53)
    have ks := heap_alloc_new w8 (.cells #[.int .i64 s0, .int .i64 s1, .int .i64 s2, .int .i64 s3] 53)
    have hg9 := grown_trans hg8 gs (by simp)
    have hG9 := grown_trans hG7 hg9 (by simp)
    have kx9 := heap_kept hg9 kx7 (by simp)
    have ky9 := heap_kept hg9 ky7 (by simp)
    have hX9 : c = 0 ∨ ∃ g, xo = some ⟨g, 0, none⟩ ∧ xc = c ∧ w2.heap.size ≤ g ∧ Cr (w8.alloc (.cells #[.int .i64 s0, .int .i64 s1, .int .i64 s2, .int .i64 s3] 53)) g c rs := hX7.imp id (fun ⟨g, h1, h2, h3, h4⟩ => ⟨g, h1, h2, h3, h4.grown hg9⟩)
    have hRx9 := hRx7.grown hg9
    have hRy9 := hRy7.grown hg9
    clear hRx7 hRy7 hX7 kx7 ky7 hG7 hg8 gs hg9
    go_wp2_with fail
    generalize w8.alloc (.cells #[.int .i64 s0, .int .i64 s1, .int .i64 s2, .int .i64 s3] 53) = w9 at *
    generalize w8.heap.size = zs at *
    refine (rwalk_wk _ ao n cap at' L (hBb.grown hG9)).mono ?_
    rintro x wA ⟨t0, t1, t2, t3, te, hWK', rfl, hgA⟩
    obtain ⟨rfl, rfl, rfl, rfl, rfl⟩ := hWK.one hWK'
    have gt := alloc_grown wA (.cells #[.int .i64 s0, .int .i64 s1, .int .i64 s2, .int .i64 s3] 53)
    have kt := heap_alloc_new wA (.cells #[.int .i64 s0, .int .i64 s1, .int .i64 s2, .int .i64 s3] 53)
    have hgB := grown_trans hgA gt (by simp)
    have hGB := grown_trans hG9 hgB (by simp)
    have kxB := heap_kept hgB kx9 (by simp)
    have kyB := heap_kept hgB ky9 (by simp)
    have ksB := heap_kept hgB ks (by simp)
    have hXB : c = 0 ∨ ∃ g, xo = some ⟨g, 0, none⟩ ∧ xc = c ∧ w2.heap.size ≤ g ∧ Cr (wA.alloc (.cells #[.int .i64 s0, .int .i64 s1, .int .i64 s2, .int .i64 s3] 53)) g c rs := hX9.imp id (fun ⟨g, h1, h2, h3, h4⟩ => ⟨g, h1, h2, h3, h4.grown hgB⟩)
    have hRxB := hRx9.grown hgB
    have hRyB := hRy9.grown hgB
    have hSB := sameBatch_any _ b b xo yo c c xc yc rs ys hRxB hRyB
    rw [show (sameAllB rs ys && decide (b = b)) = true by unfold sameAllB; simp [hDy]] at hSB
    have hx0 := cell_of (i := 0) (v := .int .i64 b) kxB rfl
    have hx1 := cell_of (i := 1) (v := .slice xo c xc) kxB rfl
    have hy0 := cell_of (i := 0) (v := .int .i64 b) kyB rfl
    have hy1 := cell_of (i := 1) (v := .slice yo c yc) kyB rfl
    clear hRx9 hRy9 hX9 kx9 ky9 hG9 hgA gt hgB ks hWK' hWK hRK
    go_wp2_with fail
    generalize wA.alloc (.cells #[.int .i64 s0, .int .i64 s1, .int .i64 s2, .int .i64 s3] 53) = wB at *
    generalize wA.heap.size = zt at *
    refine hSB.mono ?_
    rintro x wC ⟨rfl, hgC⟩
    have hGC := grown_trans hGB hgC (by simp)
    have kxC := heap_kept hgC kxB (by simp)
    have kyC := heap_kept hgC kyB (by simp)
    have ksC := heap_kept hgC ksB (by simp)
    have ktC := heap_kept hgC kt (by simp)
    have hXC : c = 0 ∨ ∃ g, xo = some ⟨g, 0, none⟩ ∧ xc = c ∧ w2.heap.size ≤ g ∧ Cr wC g c rs := hXB.imp id (fun ⟨g, h1, h2, h3, h4⟩ => ⟨g, h1, h2, h3, h4.grown hgC⟩)
    have hcl : rs.length = c := hRxB.len
    have hcb : ∀ r ∈ rs, r.vn ≤ 140737488355328 := fun r hr => (hRxB.shows r hr).vb
    have hct := Nat.le_trans hRxB.room hRxB.top
    unfold maxLen at hct
    clear hx0 hx1 hy0 hy1
    have hx1 := cell_of (i := 1) (v := .slice xo c xc) kxC rfl
    have hy0 := cell_of (i := 0) (v := .int .i64 b) kyC rfl
    have hy1 := cell_of (i := 1) (v := .slice yo c yc) kyC rfl
    have hs0 := cell_of (i := 0) (v := .int .i64 s0) ksC rfl
    have hs1' := cell_of (i := 1) (v := .int .i64 s1) ksC rfl
    have hs2 := cell_of (i := 2) (v := .int .i64 s2) ksC rfl
    have hs3 := cell_of (i := 3) (v := .int .i64 s3) ksC rfl
    have ht0 := cell_of (i := 0) (v := .int .i64 s0) ktC rfl
    have ht1 := cell_of (i := 1) (v := .int .i64 s1) ktC rfl
    have ht2 := cell_of (i := 2) (v := .int .i64 s2) ktC rfl
    have ht3 := cell_of (i := 3) (v := .int .i64 s3) ktC rfl
    have z1 : ((s : Int) != (s : Int)) = false := by simp
    have z2 : (e != e) = false := by simp
    have z3 : (b != b) = false := by simp
    have z4 : ((c : Int) != (c : Int)) = false := by simp
    have z5 : (se != se) = false := by simp
    clear hSB hRxB hRyB hXB hGB kxB kyB ksB kt hgC kxC kyC
    go_wp2_with fail
    clear hy0 hy1 hs0 hs1' hs2 hs3 ht0 ht1 ht2 ht3 z1 z2 z3 z4 z5 ksC ktC
    go_loopw [21, 22] (fun i' _ wr => ∃ i : Nat, i ≤ c ∧ i' = .int .i64 i ∧ wr.cell? ⟨zx, 1, none⟩ = some (.slice xo c xc) ∧ (c = 0 ∨ ∃ g, xo = some ⟨g, 0, none⟩ ∧ xc = c ∧ w2.heap.size ≤ g ∧ Cr wr g c rs) ∧ w2.grownBy wr none) (fun i' _ _ => c - (intOf i').toNat)
    case atStart => exact ⟨0, Nat.zero_le _, rfl, hx1, hXC, hGC⟩
    case round =>
      clear hx1 hXC hGC
      obtain ⟨i, hi, rfl, hx1, hX, hG⟩ := hrel
      by_cases hlt : i < c
      · obtain ⟨g, rfl, rfl, hgw, hC⟩ := hX.resolve_left (by omega)
        have hic : i < rs.length := by omega
        have hd : decide ((i : Int) < (xc : Int)) = true := by simp; omega
        have hi1 : (0 : Int) ≤ (i : Int) := by omega
        have hi2 : (i : Int) < (xc : Int) := by omega
        obtain ⟨y, hyE⟩ : ∃ y, Hid (rs[i] = y) := ⟨rs[i], (rfl : rs[i] = rs[i])⟩
        have hyM : Hid (y ∈ rs) := by show _ ∈ _; rw [← hyE.out]; exact List.getElem_mem _
        have hyb2 := hcb y hyM.out
        go_wp2_with fail
        go_loopw [22] (fun k' wq => ∃ k : Nat, k ≤ y.vn ∧ k' = .int .i64 k ∧ wq.cell? ⟨zx, 1, none⟩ = some (.slice (some ⟨g, 0, none⟩) xc xc) ∧ Cr wq g xc rs ∧ w2.grownBy wq none) (fun k' _ => y.vn - (intOf k').toNat)
        case atStart => exact ⟨0, Nat.zero_le _, rfl, hx1, hC, hG⟩
        case round =>
          clear hx1 hC hG
          obtain ⟨k, hk, rfl, hx1, hCq, hGq⟩ := hrel
          obtain ⟨y0, y1, y2⟩ := hCq.row.cells hic
          rw [hyE.out] at y0 y1 y2
          by_cases hkl : k < y.vn
          · obtain ⟨q, p, eq, q1, q2, q3, q4⟩ := (hCq.val y (hyM.out)).at_ (by omega)
            obtain ⟨bt, bt0, bt1, btc⟩ := q4 k hkl
            have hdk : decide ((k : Int) < (y.vn : Int)) = true := by simp; omega
            have k1 : (0 : Int) ≤ (k : Int) := by omega
            have k2 : (k : Int) < (y.vn : Int) := by omega
            have q3k := q3 (p + k)
            have hbt0 : 0 ≤ IntKind.u8.wrap (bt + 1) := by simp [IntKind.wrap, IntKind.bits, IntKind.signed]; omega
            have hbt1 : IntKind.u8.wrap (bt + 1) < 256 := by simp [IntKind.wrap, IntKind.bits, IntKind.signed]; omega
            have hne : (⟨q, p + k, none⟩ : Addr) ≠ ⟨zx, 1, none⟩ := fun he => by rw [he, hx1] at btc; simp at btc
            have hx1' := fun v => (World.cell?_setCell_other _ ⟨q, p + k, none⟩ ⟨zx, 1, none⟩ v hne).trans hx1
            rw [eq] at y2
            clear q3 q4 eq
            go_wp2_with fail
            go_roundw
            case rel => exact ⟨k + 1, by omega, by go_num, hx1' _, hCq.set q (p + k) q1 _ hbt0 hbt1, grown_trans hGq (setCell_grown _ _ _ _) (fun k hk => Or.inr (by cases hk; omega))⟩
            case measure => simp [intOf]; omega
          · have hdk : decide ((k : Int) < (y.vn : Int)) = false := by simp; omega
            go_wp2_with fail
            go_roundw
            case rel => exact ⟨i + 1, by omega, by go_num, hx1, Or.inr ⟨g, by simp, by simp, hgw, hCq⟩, hGq⟩
            case measure => simp [intOf]; omega
      · obtain rfl : i = c := by omega
        have hd : decide ((i : Int) < (i : Int)) = false := by simp
        have hRB := rbytes_any wr _ ao n n cq cap L L (hBm.grown hG).bs (hBb.grown hG).bs
        rw [show (L == L) = true by simp] at hRB
        have hmk3 := hG.cell hmk2 (by simp)
        clear hX hBm hBb hmk2
        go_wp2_with fail
        refine hRB.mono ?_
        rintro e' wD ⟨rfl, rfl⟩
        clear hRB
        go_wp2_with fail
        refine (known_any _).mono ?_
        rintro e wk ⟨rfl, hgk⟩
        have hGk := grown_trans (grown_trans hG2 hG (by simp)) hgk (by simp)
        go_wp2
        go_ret
        exact ⟨rfl, hGk⟩
end Go.Proofs.Ytlfgikhjcimppaa
