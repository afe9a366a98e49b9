import Derived.Test.YtgkeflgfnagnjaaZau
import Derived.Test.YtgkeflgfnagnjaaZaa
import Derived.Test.YtgkeflgfnagnjaaZas
import Derived.Test.YtgkeflgfnagnjaaZag
import Derived.Test.YtgkeflgfnagnjaaZak
import Derived.Test.YtgkeflgfnagnjaaZaj
import Derived.OwnWalkIn
import Derived.Test.YtgkeflgfnagnjaaZab
import Derived.Test.YtgkeflgfnagnjaaZah
/-
  stops: made, of a disk that is there.
-/
namespace Go.Proofs.Ytgkeflgfnagnjaa
open Go.RowKit
set_option linter.unusedVariables false

section
variable {w : World} {T : Nat → Prop} {b i : Nat} {L : List Rf} {fs : List (Int × Int)} {st : Int}
set_option maxRecDepth 100000 in
/-- made, of a disk that is there. -/
theorem smade_p (h : Pv w T b L fs st i) : Calls Try.prog 41 #[.pointer (some ⟨b, 0, none⟩)] w fun e w' => e = .returned (.bool true) ∧ w.grownBy w' none := by
  have hf := file_p h ⟨#[]⟩
  have hF : fileR L ⟨#[]⟩ = (toldV ⟨#[]⟩ 0 0 false false, 2) := by
    unfold fileR
    rw [if_pos (by decide)]
  rw [hF] at hf
  unfold toldV at hf
  clear h
  go_enter Try.func41, Try.ntmps41
  go_wp2_with fail
  refine hf.mono ?_
  rintro e w1 ⟨rfl, hg1⟩
  have ga := alloc_grown w1 (.cells #[.string ⟨#[]⟩, .int .i64 0, .int .i64 0, .bool false, .bool false] 102)
  have hG := grown_trans hg1 ga (by simp)
  go_wp2
  go_ret
  exact ⟨rfl, hG⟩
end
end Go.Proofs.Ytgkeflgfnagnjaa

/-
  stops: what is unsure of a disk that is there, in the document's words.
-/
namespace Go.Proofs.Ytgkeflgfnagnjaa
open Go.RowKit Go.Maps Go.WideMaps Go.Sort Go.Shelf
set_option linter.unusedVariables false
set_option maxRecDepth 100000

/-- What is unsure of these files. -/
def unsF (L : List Rf) : List (Bool × Nat) := unsL (L.map Rf.td)
theorem uns_few {L : List Rf} {i : Nat} {fs : List (Int × Int)} {st : Int} (h : Lw L fs st i) (hi : i ≤ 300) : ∀ u ∈ unsF L, u.2 ≤ 1000000 := by
  intro u hu
  unfold unsF unsL at hu
  obtain ⟨t, ht, rfl⟩ := List.mem_map.1 (List.mem_filter.1 hu).1
  obtain ⟨f, hf, rfl⟩ := List.mem_map.1 ht
  have := h.fl f hf
  have e : (unsT f.td).2 ≤ f.bs.length := by
    cases h : f.th <;> simp [unsT, Rf.td, h]
  omega
theorem uns_len {L : List Rf} {i : Nat} {fs : List (Int × Int)} {st : Int} (h : Lw L fs st i) : (unsF L).length ≤ i := by
  unfold unsF unsL
  have h1 := List.length_filter_le (fun u : Bool × Nat => u.1 || u.2 != 0) ((L.map Rf.td).map unsT)
  rw [List.length_map, List.length_map] at h1
  have := h.len
  omega
theorem ucs_get {U : List (Bool × Nat)} {j : Nat} {u : Bool × Nat} (h : U[j]? = some u) : (ucs U)[j * 2]? = some (.bool u.1) ∧ (ucs U)[j * 2 + 1]? = some (.int .i64 u.2) := by
  induction U generalizing j with
  | nil => simp at h
  | cons q t ih =>
    have e : ucs (q :: t) = .bool q.1 :: .int .i64 q.2 :: ucs t := by simp [ucs, uc]
    cases j with
    | zero => simp at h; subst h; rw [e]; simp
    | succ j =>
      simp at h
      obtain ⟨h1, h2⟩ := ih h
      rw [e, show (j + 1) * 2 = j * 2 + 1 + 1 by omega, show j * 2 + 1 + 1 + 1 = (j * 2 + 1) + 1 + 1 by omega]
      simp only [List.getElem?_cons_succ]
      exact ⟨h1, h2⟩
theorem ucs_len (U : List (Bool × Nat)) : (ucs U).length = U.length * 2 := by
  induction U with
  | nil => rfl
  | cons q t ih =>
    have e : ucs (q :: t) = .bool q.1 :: .int .i64 q.2 :: ucs t := by simp [ucs, uc]
    rw [e]
    simp only [List.length_cons, ih]
    omega
theorem Us.of_row {w : World} {base : Nat} {v : Value} {U : List (Bool × Nat)} (h : w.ownsRow base 90 2 v U.length (ucs U)) (hf : ∀ u ∈ U, u.2 ≤ 1099511627776) (hn : U.length ≤ 1000000) : ∃ so sc, v = .slice so U.length sc ∧ Us w so U.length U ∧ ∀ a, so = some a → base ≤ a.block ∧ a.block < w.heap.size := by
  obtain ⟨so, sc, rfl⟩ := oSlice h
  refine ⟨so, sc, rfl, ⟨rfl, fun h0 => ?_, hf, hn⟩, fun a e => ⟨(oBlk h a.block (by rw [e]; rfl)).1, (oBlk h a.block (by rw [e]; rfl)).2.lt⟩⟩
  rcases h.2 with ⟨h4, h5⟩ | ⟨g, c, cur, h4, h5, h6, h7⟩
  · omega
  · simp only [Value.slice.injEq] at h4
    refine ⟨g, 0, h4.1, fun j u hu => ?_⟩
    obtain ⟨g1, g2⟩ := ucs_get hu
    have hat : ∀ k v, (ucs U)[k]? = some v → w.cell? ⟨g, k, none⟩ = some v := fun k v hk => by
      rw [← h7.2.2.2, List.getElem?_take] at hk
      split at hk
      · exact cellOf h6 (by simpa using hk)
      · cases hk
    exact ⟨by rw [Nat.zero_add]; exact hat _ _ g1, by rw [Nat.zero_add]; exact hat _ _ g2⟩
section
variable {w w' : World} {T : Nat → Prop} {b i : Nat} {L : List Rf} {fs : List (Int × Int)} {st : Int}
theorem unsureOf_p (h : Pv w T b L fs st i) (hi : i ≤ 300) : Calls Try.prog 43 #[.pointer (some ⟨b, 0, none⟩)] w fun e w' => ∃ so sc, e = .returned (.slice so (unsF L).length sc) ∧ Us w' so (unsF L).length (unsF L) ∧ (∀ a, so = some a → w.heap.size ≤ a.block ∧ a.block < w'.heap.size) ∧ w.grownBy w' none := by
  have hlw := h.lw
  letI FO : Inhabited (Nat → Prop) := ⟨T⟩
  obtain ⟨m, n, D, X, B, hI, hM, tm, tg⟩ := h.ex
  have hF := hI.filesB (by omega)
  have hsz := hI.sz
  classical
  refine (unsureOf_any hI.ds (fun s => if s ∈ strKeys D then toldX D X s else ⟨⟨#[]⟩, 0, 0, true, true⟩) (fun s hs => ?_) (by omega) (fun s => ?_)).mono ?_
  · simp only [if_pos hs]
    exact hF.files s hs
  · by_cases hs : s ∈ strKeys D
    · simp only [if_pos hs]
      obtain ⟨_, _, ⟨la, h1, h2⟩, h3, _⟩ := hF s hs
      rw [h1]
      omega
    · simp only [if_neg hs]
      exact ⟨Int.le_refl _, Int.le_refl _, by decide⟩
  rintro e w2 ⟨v, rfl, ss, hp, hr, hg⟩
  have hmap : (ss.mergeSort (fun x y => decide (x ≤ y))).map (fun s => if s ∈ strKeys D then toldX D X s else ⟨⟨#[]⟩, 0, 0, true, true⟩) = L.map Rf.td := by
    rw [← sorted_told hI.ds.mp hI.nz hM h.so hp]
    exact List.map_congr_left fun s hs => if_pos (hp.mem_iff.1 (List.mem_mergeSort.1 hs))
  rw [hmap] at hr
  have hl := uns_len hlw
  obtain ⟨so, sc, rfl, h1, h2⟩ := Us.of_row (U := unsF L) hr (fun u hu => by have := uns_few hlw hi u hu; omega) (by omega)
  exact ⟨so, sc, rfl, h1, h2, hg⟩
end
end Go.Proofs.Ytgkeflgfnagnjaa

/-
  stops: the ways of a number: a range from behind.
-/
namespace Go.Proofs.Ytgkeflgfnagnjaa
open Go.RowKit Go.Shelf
set_option linter.unusedVariables false
attribute [local go_sem] Oper.semAt_some

abbrev Bk := Nat × (Bool × Nat)
def bkV (x : Bk) : Array Value := #[.int .i64 x.1, .agg #[.bool x.2.1, .int .i64 x.2.2]]
theorem Us.stay {w W : World} {K : Nat → Prop} {so : Option Addr} {n : Nat} {U : List (Bool × Nat)} (h : Us w so n U) (hB : Stay K w W) (hb : ∀ k, blk so = some k → K k) : Us W so n U :=
  ⟨h.len, fun hn => by
    obtain ⟨g, o, rfl, h2⟩ := h.pl hn
    have hg := hB.2 g (hb g rfl)
    exact ⟨g, o, rfl, fun j u hu => by
      obtain ⟨q1, q2⟩ := h2 j u hu
      simp only [World.cell?, hg] at q1 q2 ⊢
      exact ⟨q1, q2⟩⟩, h.few, h.top⟩
theorem Stay.below {w W : World} {K : Nat → Prop} (hB : Below w.heap.size w W) (hK : ∀ k, K k → k < w.heap.size) : Stay K w W := ⟨hB.size, fun k hk => hB.block k (hK k hk)⟩

set_option maxRecDepth 100000 in
set_option maxHeartbeats 2000000 in
theorem back1_stay (n' : Nat) (h1 : 1 ≤ n') (w : World) (z : Nat) (K : Nat → Prop) (so : Option Addr) (n sc : Nat) (U : List (Bool × Nat)) (hz : Boxed w z 84 (.slice so n sc)) (hU : Us w so n U) (hzi : K z) (hai : ∀ k, blk so = some k → K k) (hKl : ∀ k, K k → k < w.heap.size) :
    SeqTold Fence.wide n' Try.prog 90 #[.pointer (some ⟨z, 0, none⟩)] bkV (fun _ pre x _ => x.1 + pre.length + 1 = n ∧ U[x.1]? = some x.2) (Stay K) (fun xs => xs.length = n) (fun pre => pre.length ≤ n) w := by
  intro q J Jx W hB hJa hJxa hY h0
  have hlen := hU.len
  have htop := hU.top
  have hb2 := (hB.cell (p := ⟨z, 0, none⟩) hz.lt).trans hz.cell
  have hUW : Us W so n U := hU.stay (Stay.below hB hKl) hai
  have hKW : ∀ k, K k → k < W.heap.size := fun k hk => Nat.lt_of_lt_of_le (hKl k hk) hB.size
  show CallsIn Fence.wide n' Try.prog 90 #[.func (.yield q) #[] #[], .pointer (some ⟨z, 0, none⟩)] W _
  refine callsIn_of_wp Try.func90 rfl trivial ?_
  simp only [Try.ntmps90, List.size_toArray, List.length_cons, List.length_nil, Nat.reduceAdd, Nat.reduceSub, Array.replicate_succ, Array.replicate_zero, List.push_toArray, List.append_toArray, List.nil_append, List.cons_append]
  gi_wp2
  gi_loopw [3] (fun i wr => ∃ (k : Nat) (y : Int) (pre : List Bk), i = .int .i64 y ∧ y + 1 = (k : Int) ∧ k ≤ n ∧ pre.length + k = n ∧ Stay K W wr ∧ J pre wr) (fun i _ => (intOf i + 1).toNat)
  case atStart =>
    exact ⟨n, (n : Int) - 1, [], by go_num, by omega, Nat.le_refl _, by simp, Stay.refl _ _, h0⟩
  case round =>
    obtain ⟨k, y, pre, rfl, hyk, hk, hpl, hBr, hJ⟩ := hrel
    by_cases hlt : 0 < k
    · obtain ⟨m, rfl⟩ : ∃ m, k = m + 1 := ⟨k - 1, by omega⟩
      obtain rfl : y = (m : Int) := by omega
      have hd : decide ((0 : Int) ≤ (m : Int)) = true := by simp
      obtain ⟨u, hu⟩ : ∃ u, U[m]? = some u := ⟨_, List.getElem?_eq_getElem (by omega)⟩
      obtain ⟨nm, kk⟩ := u
      obtain ⟨g, o, rfl, hcs⟩ := (hUW.stay hBr hai).pl (by omega)
      obtain ⟨c0, c1⟩ := hcs m _ hu
      dsimp only at c0 c1
      have hbz : wr.cell? ⟨z, 0, none⟩ = some (.slice (some ⟨g, o, none⟩) n sc) := by
        have := hBr.2 z hzi
        simp only [World.cell?, this] at hb2 ⊢
        exact hb2
      obtain ⟨fn, tmps, assign, body, hy, hR⟩ := hY pre (m, nm, kk) _ hJ ⟨by simp only; omega, hu⟩
      simp only [bkV] at hy
      have b1 : (0 : Int) ≤ (m : Int) := by omega
      have b2 : (m : Int) < (n : Int) := by omega
      clear hcs hu hyk
      gi_wp2
      refine hR.mono ?_
      clear hy hR hJ c0 c1 hbz
      rintro e W3 (⟨rfl, hJ3, hk3⟩ | ⟨rfl, hJx3⟩)
      · gi_wp2
        go_roundw
        case rel => exact ⟨m, (m : Int) - 1, pre ++ [(m, nm, kk)], by first | rfl | go_num, by omega, by omega, by simp; omega, hBr.trans hk3, hJ3⟩
        case measure => simp [intOf]
      · gi_wp2
        refine bodyPost_ret (results_none rfl _ _ _) rfl ?_
        exact ⟨⟨_, rfl⟩, .inr ⟨_, by simp; omega, hJx3⟩⟩
    · obtain rfl : k = 0 := by omega
      obtain rfl : y = -1 := by omega
      gi_wp2
      go_end0
      exact ⟨⟨_, rfl⟩, .inl ⟨_, by omega, hJ⟩⟩
set_option maxRecDepth 100000 in
theorem back_any {w : World} (so : Option Addr) (n sc : Nat) : Calls Try.prog 79 #[.slice so n sc] w fun e w' => e = .returned (.func (.func 90) #[] #[.pointer (some ⟨w.heap.size, 0, none⟩)]) ∧ Boxed w' w.heap.size 84 (.slice so n sc) ∧ w.grownBy w' none := by
  have hmf : ∀ (fn : Fn) (first cap : Array Value) (w : World), (Instr.makeFunc fn first cap).run Try.prog w = .ok (.func fn first cap) w := fun _ _ _ _ => rfl
  have hb := Boxed.new w 84 (.slice so n sc)
  have ga := aGrown w (.cells #[.slice so n sc] 84)
  go_enter Try.func79, Try.ntmps79
  go_wp2
  go_ret
  exact ⟨rfl, hb, ga⟩
/-- The row, k files from the front being left. -/
def rowW (U : List (Bool × Nat)) (N k : Nat) : List Value := List.replicate k (iv 0) ++ (atW (U.drop k) N).map iv
theorem rowW_step {U : List (Bool × Nat)} {N j : Nat} {u : Bool × Nat} (hu : U[j]? = some u) : (rowW U N (j + 1)).set j (iv ((N / prodW (U.drop (j + 1)) % wayN u.1 u.2 : Nat) : Int)) = rowW U N j := by
  unfold rowW
  rw [drop_consO hu, List.replicate_succ', List.append_assoc, List.set_append_right _ _ (by simp)]
  simp [atW]
theorem prodW_drop {U : List (Bool × Nat)} {j : Nat} {u : Bool × Nat} (hu : U[j]? = some u) (N : Nat) : N / prodW (U.drop j) = N / prodW (U.drop (j + 1)) / wayN u.1 u.2 := by
  rw [drop_consO hu]
  simp only [prodW]
  rw [Nat.div_div_eq_div_mul, Nat.mul_comm]
theorem keepsChg {B : Nat} {W W' : World} {S : Nat → Prop} (hc : Chg W W' S) (hS : ∀ k, S k → ∃ t, Ty W k t) : KeepsFrom B W W' :=
  ⟨hc.size, fun k o hB hk ho => (hc.block k (Array.getElem?_eq_some_iff.1 hk).1 (fun e => by obtain ⟨t, ht⟩ := hS k e; exact not_cells_ty ⟨o, hk, ho⟩ ht)).trans hk⟩
theorem Boxed.ty {w : World} {b : Nat} {t : TypeId} {v : Value} (h : Boxed w b t v) : Ty w b t := ⟨_, _, h⟩
theorem Ro.ty {w : World} {g : Nat} {t : TypeId} {l : List Value} (h : Ro w g t l) : Ty w g t := ⟨_, _, h⟩

section
variable {F : Fence} {N : Nat} {P : Program} (w : World)
/-- 'make([]T, n)', in a fence. -/
theorem wpListIn_make_ro {ops : Array Oper} {rest : List Oper} {o : Oper} {a : Act} {Q : Exit → Act → World → Prop} (hgd : o.guard = none) (lo co : Operand) (t : TypeId) (ho : o.op = Op.makeSlice t lo co)
    (e : TypeId) (z : Value) (bs : Nat) (ht : P.underlying t = some (.slice e)) (hinfo : (P.info? e).map (fun i => (i.zero, i.size, i.bytes)) = some (some z, 1, bs)) (hz1 : z.cells = #[z]) (hbs : bs ≤ 16)
    (n : Nat) {L C : Int} (hl : a.eval lo = .int .i64 L) (hc : a.eval co = .int .i64 C) (hL : L = (n : Int)) (hC : C = (n : Int)) (hb : n ≤ 5000)
    (h : ∀ w', Ro w' w.heap.size e (List.replicate n z) → w.grownBy w' none → w.heap.size < w'.heap.size → wpListIn F N P ops Q rest (a.put o.dst (.slice (some ⟨w.heap.size, 0, none⟩) n n)) w') : wpListIn F N P ops Q (o :: rest) a w := by
  obtain ⟨i, hi, hz, hzs, hz2⟩ := info_parts hinfo
  subst hL
  subst hC
  refine wpListIn_plain hgd fun K hK => ?_
  have hbb : n * i.bytes ≤ 80000 := by rw [hz2]; exact Nat.le_trans (Nat.mul_le_mul hb hbs) (by omega)
  have h8 : i.bytes * n ≤ 80000 := by rw [Nat.mul_comm]; omega
  have h9 : (i.bytes : Int) * (n : Int) ≤ 281474976710656 := by rw [← Int.natCast_mul]; omega
  have hr := run_make (P := P) w t e i z ht hi hz .i64 .i64 n n (by omega) (by omega) h9 (by omega)
  have hfin : Ro (w.alloc (.cells (madeCells z.cells (n * i.size)) e)) w.heap.size e (List.replicate n z) := by
    unfold Ro
    rw [heap_alloc_new, hzs, Nat.mul_one, hz1]
    congr 2
    apply Array.ext
    · simp [size_madeCells]
    · intro j h1 h2
      simp [madeCells, Nat.mod_one]
  unfold Oper.wpIn
  refine ⟨?_, ?_⟩
  · simp [Oper.about, ho]
  · rw [Oper.semAt_plain F _ _ (by rw [ho]; intro c hc'; cases hc')]
    simp [execOp, ho, hl, hc, hr, Result.andThen]
    exact hK _ _ (h _ hfin (World.grownBy_alloc w _ none) (by simp))
end
/-- Between two rounds. -/
def Bw (w6 : World) (zn zw g n : Nat) (U : List (Bool × Nat)) (N : Nat) (pre : List Bk) (W : World) : Prop :=
  ∃ k, pre.length + k = n ∧ Boxed W zn 2 (.int .i64 ((N / prodW (U.drop k) : Nat) : Int)) ∧ Boxed W zw 23 (.slice (some ⟨g, 0, none⟩) n n) ∧ Ro W g 3 (rowW U N k) ∧ Chg w6 W (fun q => q = zn ∨ q = g)
theorem Bw.own {w6 : World} {zn zw g n N : Nat} {U : List (Bool × Nat)} : OwnFrom w6.heap.size (Bw w6 zn zw g n U N) := by
  rintro s A V row ⟨k, h0, h1, h2, h3, h4⟩ hg hr
  exact ⟨k, h0, box_own h1 hg (fun r e => (hr r e).2), box_own h2 hg (fun r e => (hr r e).2), (heap_kept hg h3 (fun e => not_cells_ty (hr g e.symm).2 h3.ty)), h4.ext hg (fun q e => (hr q e).1)⟩

set_option maxRecDepth 100000 in
set_option maxHeartbeats 4000000 in
theorem waysAt_any {w : World} (so : Option Addr) (n sc : Nat) (U : List (Bool × Nat)) (hU : Us w so n U) (hsl : ∀ a, so = some a → a.block < w.heap.size) (hn5 : n ≤ 5000) (N : Nat) (hN : N ≤ 4611686018427387904) :
    Calls Try.prog 48 #[.slice so n sc, .int .i64 N] w fun e w' => ∃ g, e = .returned (.slice (some ⟨g, 0, none⟩) n n) ∧ Ro w' g 3 ((atW U N).map iv) ∧ w.heap.size ≤ g ∧ w.grownBy w' none := by
  have hlen : HidO (U.length = n) := hU.len
  have ga := aGrown w (.cells #[.int .i64 N] 2)
  have bn := Boxed.new w 2 (.int .i64 (N : Int))
  refine (callsIn_wide (n := 5)).1 ?_
  refine callsIn_of_wp_marks Try.func48 rfl trivial ?_
  simp only [Try.ntmps48, List.size_toArray, List.length_cons, List.length_nil, Nat.reduceAdd, Nat.reduceSub, Array.replicate_succ, Array.replicate_zero, List.push_toArray, List.append_toArray, List.nil_append, List.cons_append]
  gi_wp2_with (gi_at_make; refine wpListIn_make_ro _ rfl _ _ 23 rfl 3 (.int .i64 0) 8 Try.underlying23 info3o rfl (by decide) n rfl rfl rfl rfl hn5 ?_)
  generalize w.alloc (.cells #[.int .i64 N] 2) = w1 at *
  intro w2 hro hg2 hsz2
  have hG2 := grown_trans ga hg2 (by simp)
  have bn2 := box_own bn hg2 (fun r e => by cases e)
  have gb := aGrown w2 (.cells #[.slice (some ⟨w.heap.size + 1, 0, none⟩) n n] 23)
  have bw := Boxed.new w2 23 (.slice (some ⟨w.heap.size + 1, 0, none⟩) n n)
  have hG3 := grown_trans hG2 gb (by simp)
  have bn3 := box_own bn2 gb (fun r e => by cases e)
  have hro3 := hro.grown gb
  gi_wp2_with fail
  generalize w2.alloc (.cells #[.slice (some ⟨w.heap.size + 1, 0, none⟩) n n] 23) = w3 at *
  refine ⟨trivial, callsIn_wide.2 ((back_any so n sc).mono ?_)⟩
  rintro e w6 ⟨rfl, hbz, hg6⟩
  have hG6 := grown_trans hG3 hg6 (by simp)
  have bn6 := box_own bn3 hg6 (fun r e => by cases e)
  have bw6 := box_own bw hg6 (fun r e => by cases e)
  have hro6 := hro3.grown hg6
  have hU6 := hU.grown hG6
  have l1 : w.heap.size < w.heap.size + 1 := by omega
  have l3 : w2.heap.size < w3.heap.size := bw.lt
  have l6 : w3.heap.size < w6.heap.size := hbz.lt
  have h12 := hg2.size
  obtain ⟨zn, hzn⟩ : ∃ zn, w.heap.size = zn := ⟨_, rfl⟩
  obtain ⟨zw, hzw⟩ : ∃ zw, w2.heap.size = zw := ⟨_, rfl⟩
  obtain ⟨g, hgz⟩ : ∃ g, w.heap.size + 1 = g := ⟨_, rfl⟩
  obtain ⟨z, hz⟩ : ∃ z, w3.heap.size = z := ⟨_, rfl⟩
  rw [hzn] at bn6
  rw [hzw] at bw6 l3 hsz2
  rw [hgz] at bw6 hro6 hsz2 l1
  rw [hzn] at l1
  rw [hz] at hbz l3 l6
  simp only [hzn, hzw, hz]
  have hne : HidO (zn < g ∧ g < zw ∧ zw < z ∧ z < w6.heap.size) := ⟨l1, hsz2, l3, l6⟩
  have hslz : HidO (∀ q, blk so = some q → q < zn) := fun q e => by
    cases so with
    | none => cases e
    | some a => cases e; rw [← hzn]; exact hsl a rfl
  have hZ : HidO (w.heap.size = zn) := hzn
  have hKl : ∀ q, (q = z ∨ blk so = some q) → q < w6.heap.size := fun q e => by
    have := hne.out
    rcases e with rfl | e
    · omega
    · have := hslz.out q e; omega
  have hRw : HidO (Ro w6 g 3 (rowW U N n)) := by
    show Ro _ _ _ _
    have e : rowW U N n = List.replicate n (.int .i64 0) := by
      unfold rowW
      rw [List.drop_eq_nil_of_le (by have := hlen.out; omega)]
      simp [atW, iv]
    rw [e]
    exact hro6
  have hnb : HidO (Boxed w6 zn 2 (.int .i64 ((N / prodW (U.drop n) : Nat) : Int))) := by
    show Boxed _ _ _ _
    rw [List.drop_eq_nil_of_le (by have := hlen.out; omega)]
    simpa [prodW] using bn6
  have hb5 := bw6
  clear hgz hz hzw hzn ga bn bn2 bn3 bw gb hro hro3 hro6 hg2 hg6 hG2 hG3 l1 l3 l6 hsz2 h12 bn6 bw6
  gi_wp2_with fail
  apply wpIn_rangeFunc_told (α := Bk) (encs := bkV) (Kp := Stay (fun q => q = z ∨ blk so = some q)) (w0 := w6) rfl (by decide) (gf := 90) (lb := #[.pointer (some ⟨z, 0, none⟩)]) rfl trivial (enters_of Try.func90 (by kernel_rfl) rfl)
    (back1_stay 4 (by decide) w6 z _ so n sc U hbz hU6 (Or.inl rfl) (fun q e => Or.inr e) hKl) (fun h1 h2 => h1.trans h2)
    (fun W q o1 o2 hq h1 h2 h3 => ⟨by simp, fun i hi => World.putObj_heap_other (by have := hKl i hi; omega)⟩) (Below.refl _ _) (fun t => rfl)
    (Bw w6 zn zw g n U N)
    (fun _ _ _ => False)
    Bw.own
    (fun cd s A V row hs hg hr => hs.elim)
    ⟨n, by simp, hnb.out, hb5, hRw.out, Chg.refl _ _⟩
    (fun pre x a' W => (x.1 + pre.length + 1 = n ∧ U[x.1]? = some x.2) ∧ ∃ zf, W.heap[zf]? = some (.cells #[.bool x.2.1, .int .i64 x.2.2] 90) ∧ ∃ v0 v1 v2 v4 v8 v9 v10 v11 v12 v13 v14 v15 v16 v17 v18 v19 v20 v21 v22 v23 v24 v25 v26 v27 : Value, a' = { tmps := #[v0, v1, v2, .pointer (some ⟨zn, 0, none⟩), v4, .pointer (some ⟨zw, 0, none⟩), .int .i64 (x.1 : Int), .pointer (some ⟨zf, 0, none⟩), v8, v9, v10, v11, v12, v13, v14, v15, v16, v17, v18, v19, v20, v21, v22, v23, v24, v25, v26, v27], defers := [] })
  case hAx =>
    rintro pre x a' _ A V row ⟨t1, zf, t2, t3⟩ hg hr
    exact ⟨t1, zf, heap_kept hg t2 (fun e => not_cells_ty (hr zf e.symm).2 ⟨_, _, t2⟩), t3⟩
  case hassign =>
    intro pre x W K hI hT hK
    simp only [bkV]
    have ga := alloc_grown W (.cells #[.bool x.2.1, .int .i64 x.2.2] 90)
    have kf := World.alloc_heap_new W (.cells #[.bool x.2.1, .int .i64 x.2.2] 90)
    have hI2 := Bw.own pre _ _ none hI ga (fun q e => by cases e)
    have hst : Stay (fun q => q = z ∨ blk so = some q) W (W.alloc (.cells #[.bool x.2.1, .int .i64 x.2.2] 90)) := Stay.grown ga (fun q hq => by obtain ⟨_, _, _, _, _, hc⟩ := hI; exact Nat.lt_of_lt_of_le (hKl q hq) hc.size)
    clear hI
    gi_wp2
    exact hK _ _ ((KeepsOthers.alloc W _).from _) hst hI2 ⟨hT, _, kf, _, _, _, _, _, _, _, _, _, _, _, _, _, _, _, _, _, _, _, _, _, _, _, _, rfl⟩
  case hbody =>
    rintro pre x a' W hq ⟨k, h0, j1, j2, j3, j4⟩ ⟨⟨t1, tu⟩, zf, t2, v0, v1, v2, v4, v8, v9, v10, v11, v12, v13, v14, v15, v16, v17, v18, v19, v20, v21, v22, v23, v24, v25, v26, v27, rfl⟩
    obtain ⟨j, nm, kk⟩ := x
    dsimp only at t1 tu t2 ⊢
    obtain rfl : k = j + 1 := by omega
    have hkk := hU.few _ (List.mem_of_getElem? tu)
    dsimp only at hkk
    have x0 := cell_of (i := 0) t2 rfl
    have x1 := cell_of (i := 1) t2 rfl
    have hw1 := wayN_pos nm kk
    have hwl : wayN nm kk ≤ 2199023255552 := by unfold wayN; split <;> omega
    have hst := rowW_step (N := N) tu
    have hdv := prodW_drop tu N
    dsimp only at hst hdv
    have hAN : N / prodW (U.drop (j + 1)) ≤ N := Nat.div_le_self _ _
    have hway := ways_any W nm kk hkk
    obtain ⟨A, hA⟩ : ∃ A, N / prodW (U.drop (j + 1)) = A := ⟨_, rfl⟩
    obtain ⟨wn, hwn⟩ : ∃ wn, wayN nm kk = wn := ⟨_, rfl⟩
    rw [hwn] at hw1 hwl hst hdv hway
    rw [hA] at j1 hst hdv hAN
    obtain ⟨R, hR⟩ : ∃ R, A % wn = R := ⟨_, rfl⟩
    obtain ⟨Qt, hQt⟩ : ∃ Qt, A / wn = Qt := ⟨_, rfl⟩
    rw [hR] at hst
    rw [hQt] at hdv
    have m1 : (A : Int) % (wn : Int) = (R : Int) := by rw [← hR]; simp
    have m2 : Int.tmod (A : Int) (wn : Int) = (R : Int) := by rw [← hR]; rfl
    have d1 : (A : Int) / (wn : Int) = (Qt : Int) := by rw [← hQt]; simp
    have d2 : Int.tdiv (A : Int) (wn : Int) = (Qt : Int) := by rw [← hQt]; rfl
    have hRw : R < wn := by rw [← hR]; exact Nat.mod_lt _ (by omega)
    have hQA : Qt ≤ A := by rw [← hQt]; exact Nat.div_le_self _ _
    have wz : ((wn : Int) == 0) = false := by simp; omega
    have wz2 : ¬ (wn : Int) = 0 := by omega
    have wz3 : ¬ wn = 0 := by omega
    have hst' : HidO _ := hst
    have hdv' : HidO _ := hdv
    have htu : HidO _ := tu
    have ht1 : HidO _ := t1
    have h0' : HidO _ := h0
    have hjl : j < n := by omega
    have i1 : (0 : Int) ≤ (j : Int) := by omega
    have i2 : (j : Int) < (n : Int) := by omega
    have hne1 := hne.out
    have g1 : zn < W.heap.size := j1.lt
    have g2 : zw < W.heap.size := j2.lt
    have g3 : g < W.heap.size := j3.lt
    clear hst hdv tu t1 h0 hA hwn hR hQt
    gi_wp2_with fail
    refine ⟨trivial, callsIn_round (hway.mono ?_)⟩
    rintro e W2 ⟨rfl, hg2⟩
    clear hway
    have a1 := box_own j1 hg2 (fun r e => by cases e)
    have a2 := box_own j2 hg2 (fun r e => by cases e)
    have a3 := j3.grown hg2
    have c4 := (Chg.of_grown hg2 (fun q => q = zn ∨ q = g))
    gi_wp2_with fail
    have hd := grown_drew W2 none
    have a1 := box_own a1 hd (fun r e => by cases e)
    have a2 := box_own a2 hd (fun r e => by cases e)
    have a3 := a3.grown hd
    have c4 : Chg W W2.drew (fun q => q = zn ∨ q = g) := c4.trans (Chg.of_grown hd _)
    refine wpIn_region_round (S := fun V => V.cell? ⟨zn, 0, none⟩ = some (.int .i64 A) ∧ V.cell? ⟨zw, 0, none⟩ = some (.slice (some ⟨g, 0, none⟩) n n)) (by kernel_rfl) (by kernel_rfl) (by rintro ⟨_, _, h⟩; exact h) ⟨a1.cell, a2.cell⟩ (fun hHeld => ?_)
    generalize W2.drew = W3 at *
    have xf := a3.frozen j
    have xc : W3.cell? ⟨g, j, none⟩ = some (.int .i64 0) := by rw [a3.cell]; unfold rowW; rw [List.getElem?_append_left (by simp)]; simp [iv]
    obtain ⟨b3, c5⟩ := a3.set j (iv (R : Int))
    rw [hst'.out] at b3
    have b1 : Boxed (W3.setCell ⟨g, j, none⟩ (iv (R : Int))) zn 2 (.int .i64 (A : Int)) := (c5.block zn a1.lt (by omega)).trans a1
    have b2 : Boxed (W3.setCell ⟨g, j, none⟩ (iv (R : Int))) zw 23 (.slice (some ⟨g, 0, none⟩) n n) := (c5.block zw a2.lt (by omega)).trans a2
    have c6 : Chg W (W3.setCell ⟨g, j, none⟩ (iv (R : Int))) (fun q => q = zn ∨ q = g) := c4.trans (c5.mono (fun q _ e => Or.inr e))
    unfold iv at b1 b2 b3 c5 c6
    refine wpAnyH_take (i := 0) (oi := { dst := some 18, op := Op.load 23 (Operand.tmp 5), type := 23, pos := "stops.go:238", after := #[], guard := none }) (v := ?_) rfl (by kernel_rfl) (by kernel_rfl) (by kernel_rfl) (fun _ _ _ h => h) (Or.inl ⟨by rfl, ?_⟩) (by assumption) ?_
    rotate_left
    · intro w hSw; (try dsimp only at hSw); go_simp
      try with_reducible rfl
    try simp only [Act.put, List.setIfInBounds_toArray, List.set_cons_zero, List.set_cons_succ]
    refine wpAnyH_take (i := 1) (oi := { dst := some 19, op := Op.move (Operand.tmp 6), type := 3, pos := "stops.go:238", after := #[], guard := none }) (v := ?_) rfl (by kernel_rfl) (by kernel_rfl) (by kernel_rfl) (fun _ _ _ h => h) (Or.inl ⟨by rfl, ?_⟩) (by assumption) ?_
    rotate_left
    · intro w hSw; (try dsimp only at hSw); go_simp
      try with_reducible rfl
    try simp only [Act.put, List.setIfInBounds_toArray, List.set_cons_zero, List.set_cons_succ]
    refine wpAnyH_take (i := 2) (oi := { dst := some 20, op := Op.load 2 (Operand.tmp 3), type := 2, pos := "stops.go:238", after := #[], guard := none }) (v := ?_) rfl (by kernel_rfl) (by kernel_rfl) (by kernel_rfl) (fun _ _ _ h => h) (Or.inl ⟨by rfl, ?_⟩) (by assumption) ?_
    rotate_left
    · intro w hSw; (try dsimp only at hSw); go_simp
      try with_reducible rfl
    try simp only [Act.put, List.setIfInBounds_toArray, List.set_cons_zero, List.set_cons_succ]
    refine wpAnyH_take (i := 3) (oi := { dst := some 21, op := Op.move (Operand.tmp 8), type := 2, pos := "stops.go:238", after := #[], guard := none }) (v := ?_) rfl (by kernel_rfl) (by kernel_rfl) (by kernel_rfl) (fun _ _ _ h => h) (Or.inl ⟨by rfl, ?_⟩) (by assumption) ?_
    rotate_left
    · intro w hSw; (try dsimp only at hSw); go_simp
      try with_reducible rfl
    try simp only [Act.put, List.setIfInBounds_toArray, List.set_cons_zero, List.set_cons_succ]
    refine wpAnyH_take (i := 4) (oi := { dst := some 22, op := Op.binOp BinOp.rem 2 (Operand.tmp 20) (Operand.tmp 21) 2, type := 2, pos := "stops.go:238", after := #[{ on := 2, ground := Ground.data }, { on := 3, ground := Ground.data }], guard := none }) (v := ?_) rfl (by kernel_rfl) (by kernel_rfl) (by kernel_rfl) (fun _ _ _ h => h) (Or.inl ⟨by rfl, ?_⟩) (by assumption) ?_
    rotate_left
    · intro w hSw; (try dsimp only at hSw); go_simp
      try with_reducible rfl
    try simp only [Act.put, List.setIfInBounds_toArray, List.set_cons_zero, List.set_cons_succ]
    refine wpAnyH_take (i := 5) (oi := { dst := some 23, op := Op.indexAddr 23 (Operand.tmp 18) (Operand.tmp 19), type := 0, pos := "stops.go:238", after := #[{ on := 0, ground := Ground.data }, { on := 1, ground := Ground.data }, { on := 0, ground := Ground.phase }, { on := 1, ground := Ground.phase }, { on := 2, ground := Ground.phase }, { on := 3, ground := Ground.phase }, { on := 4, ground := Ground.phase }], guard := none }) (v := ?_) rfl (by kernel_rfl) (by kernel_rfl) (by kernel_rfl) (fun _ _ _ h => h) (Or.inl ⟨by rfl, ?_⟩) (by assumption) ?_
    rotate_left
    · intro w hSw; (try dsimp only at hSw); go_simp
      try with_reducible rfl
    try simp only [Act.put, List.setIfInBounds_toArray, List.set_cons_zero, List.set_cons_succ]
    refine wpAnyH_ready (rs := [6]) (by kernel_rfl) (by simp) ?_
    refine AllReadyH.cons (o := { dst := none, op := Op.store 3 (Operand.tmp 23) (Operand.tmp 22), type := 0, pos := "stops.go:238", after := #[{ on := 5, ground := Ground.data }, { on := 4, ground := Ground.data }, { on := 0, ground := Ground.phase }, { on := 1, ground := Ground.phase }, { on := 2, ground := Ground.phase }, { on := 3, ground := Ground.phase }, { on := 4, ground := Ground.phase }], guard := none }) rfl (fun K hK => ?_) (AllReadyH.nil)
    go_simp
    refine hK.out _ _ ⟨b1.cell, b2.cell⟩ (fun hHeld => ?_)
    clear hK K
    try simp only [Act.put, List.setIfInBounds_toArray, List.set_cons_zero, List.set_cons_succ]
    refine wpAnyH_done (by kernel_rfl) ?_ _

    have x2 := b1.cell
    have xf2 := b1.frozen
    generalize W3.setCell ⟨g, j, none⟩ (.int .i64 (R : Int)) = W4 at *
    have b5 := b1.set (.int .i64 (Qt : Int))
    have c7 := setCell_chg W4 zn 0 (.int .i64 (Qt : Int))
    have b6 : Boxed (W4.setCell ⟨zn, 0, none⟩ (.int .i64 (Qt : Int))) zw 23 (.slice (some ⟨g, 0, none⟩) n n) := b2.other (by omega) _
    have b7 := b3.chg c7 (by omega)
    have c8 : Chg W (W4.setCell ⟨zn, 0, none⟩ (.int .i64 (Qt : Int))) (fun q => q = zn ∨ q = g) := c6.trans (c7.mono (fun q _ e => Or.inl e))
    have hKF : KeepsFrom w6.heap.size W (W4.setCell ⟨zn, 0, none⟩ (.int .i64 (Qt : Int))) := keepsChg c8 (fun q e => e.elim (fun e => ⟨2, by rw [e]; exact ⟨_, _, j1⟩⟩) (fun e => ⟨3, by rw [e]; exact ⟨_, _, j3⟩⟩))
    have hST : Stay (fun q => q = z ∨ blk so = some q) W (W4.setCell ⟨zn, 0, none⟩ (.int .i64 (Qt : Int))) := Stay.chg c8 (fun q e => Nat.lt_of_lt_of_le (hKl q e) j4.size) (fun q e k => by
      have := hne.out
      rcases e with e | e
      · omega
      · have := hslz.out q e; omega)
    have hB : HidO (Bw w6 zn zw g n U N (pre ++ [(j, nm, kk)]) (W4.setCell ⟨zn, 0, none⟩ (.int .i64 (Qt : Int)))) := ⟨j, by rw [List.length_append]; have := ht1.out; simp; omega, by rw [hdv'.out]; exact b5, b6, b7, j4.trans c8⟩
    clear hHeld a1 a2 a3 b1 b2 b3 b5 b6 b7 c4 c5 c6 c7 c8
    gi_wp2
    exact ⟨hKF, hST, hB.out⟩
  case hdone =>
    rintro Dd xs W hDd hxs ⟨k, h0, j1, j2, j3, j4⟩ hK
    have k2 := j2.cell
    have hpo := grownBy_putObj' W Dd (.deferred none)
    have hC := j4.ext hpo (fun q e => by cases e; omega)
    have hGf : w.grownBy _ none := ((Chg.of_grown hG6 _).trans hC).grown (fun q hq e => by have := hne.out; have := hZ.out; omega)
    obtain rfl : k = 0 := by omega
    have hrow : Ro (W.putObj Dd (.deferred none)) g 3 ((atW U N).map iv) := by
      have h9 := heap_kept hpo j3 (fun e => not_cells_ty ⟨_, hK, rfl⟩ (by cases e; exact j3.ty))
      simpa [rowW, Ro] using h9
    have hgl : w.heap.size ≤ g := by have := hne.out; have := hZ.out; omega
    have hS : HidO _ := hrow
    clear hrow hC j1 j2 j3 j4
    gi_wp2_with fail
    refine ⟨by simp, .inl ⟨_, _, rfl, run_takeDeferred hK, ?_⟩⟩
    exact ⟨_, results_tmp rfl _ _ _, g, rfl, hS.out, hgl, hGf⟩
  case hstop =>
    intro Dd c pre W _ _ hf
    exact hf.elim
end Go.Proofs.Ytgkeflgfnagnjaa

/-
  stops: of a disk that is not there.
-/
namespace Go.Proofs.Ytgkeflgfnagnjaa
open Go.RowKit
set_option linter.unusedVariables false
section
variable {w : World} {p : Option Addr}
set_option maxRecDepth 100000 in
theorem smade_no (h : No w p) : Calls Try.prog 41 #[.pointer p] w fun e w' => e = .returned (.bool false) ∧ w.grownBy w' none := by
  have hf := file_no w p ⟨#[]⟩ h
  unfold told0 at hf
  clear h
  go_enter Try.func41, Try.ntmps41
  go_wp2_with fail
  refine hf.mono ?_
  rintro e w1 ⟨rfl, hg1⟩
  have hG := fun o => grown_trans hg1 (aGrown w1 o) (by simp)
  clear hf
  go_wp2
  go_ret
  exact ⟨rfl, hG _⟩
set_option maxRecDepth 100000 in
theorem count_no (h : No w p) : Calls Try.prog 12 #[.pointer p] w fun e w' => e = .returned (.tuple #[.int .i64 0, .int .i64 1]) ∧ w.grownBy w' none := by
  have hm := smade_no h
  clear h
  go_enter Try.func12, Try.ntmps12
  go_wp2_with fail
  refine hm.mono ?_
  rintro e w1 ⟨rfl, hg1⟩
  clear hm
  go_wp2
  go_ret2
  exact ⟨rfl, hg1⟩
set_option maxRecDepth 100000 in
theorem refused_no (h : No w p) (o : Option Addr) (n c : Nat) : Calls Try.prog 44 #[.pointer p, .slice o n c] w fun e w' => e = .returned (.int .i64 1) ∧ w.grownBy w' none := by
  have hm := smade_no h
  clear h
  go_enter Try.func44, Try.ntmps44
  go_wp2_with fail
  refine hm.mono ?_
  rintro e w1 ⟨rfl, hg1⟩
  clear hm
  go_wp2
  go_ret
  exact ⟨rfl, hg1⟩
theorem results_stop2 {fn : Func} {p q : Tmp} (h : fn.results = #[.cell p 35, .tmp q]) (tmps : Array Value) (w : World) (g : Nat) (v u : Value) (hp : tmps.getD p undef = .pointer (some ⟨g, 0, none⟩)) (hc : w.cell? ⟨g, 0, none⟩ = some v) (hq : tmps.getD q undef = u) : (results fn tmps).run Try.prog w = .ok (.tuple #[.agg #[v], u]) w := by
  simp only [results, h]
  have hp' : tmps[p]?.getD undef = .pointer (some ⟨g, 0, none⟩) := by simpa using hp
  have hq' : tmps[q]?.getD undef = u := by simpa using hq
  have u35 := Try.underlying35
  simp [Sem.run_bind, Result.andThen, hp', hq', asAddr, loadVar, go_sem, hc]
set_option maxRecDepth 100000 in
theorem plain_no (h : No w p) (o : Option Addr) (n c : Nat) : Calls Try.prog 13 #[.pointer p, .agg #[.slice o n c]] w fun e w' => e = .returned (.tuple #[.agg #[.slice none 0 0], .int .i64 1]) ∧ w.grownBy w' none := by
  have ga := aGrown w (.cells #[.slice o n c] 35)
  have ka := heap_alloc_new w (.cells #[.slice o n c] 35)
  have gb := aGrown (w.alloc (.cells #[.slice o n c] 35)) (.cells #[.slice none 0 0] 35)
  have kb := heap_alloc_new (w.alloc (.cells #[.slice o n c] 35)) (.cells #[.slice none 0 0] 35)
  rw [World.size_alloc] at kb
  have hG := grown_trans ga gb (by simp)
  have c0 := gb.cell (cellOf (i := 0) (v := .slice o n c) ka rfl) (by simp)
  have hm := refused_no (h.grown hG) o n c
  clear h
  go_enter Try.func13, Try.ntmps13
  go_wp2_with fail
  generalize (w.alloc (.cells #[.slice o n c] 35)).alloc (.cells #[.slice none 0 0] 35) = w2 at *
  refine hm.mono ?_
  rintro e w3 ⟨rfl, hg3⟩
  have kb3 : w3.heap[w.heap.size + 1]? = some (.cells #[.slice none 0 0] 35) := (hg3.block _ (Array.getElem?_eq_some_iff.1 kb).1 (by simp)).trans kb
  have x0 := cellOf (i := 0) (v := .slice none 0 0) kb3 rfl
  have xf : w3.frozen? ⟨w.heap.size + 1, 0, none⟩ = false := by simp [World.frozen?, kb3]
  have xc : (w3.setCell ⟨w.heap.size + 1, 0, none⟩ (.slice none 0 0)).cell? ⟨w.heap.size + 1, 0, none⟩ = some (.slice none 0 0) := cellOf (i := 0) (heap_setO kb3 0 _) rfl
  have hG9 : w.grownBy (w3.setCell ⟨w.heap.size + 1, 0, none⟩ (.slice none 0 0)) none := ((Chg.of_grown (grown_trans hG hg3 (by simp)) _).trans (setCell_chg w3 _ 0 _)).grown (fun q hq e => by have h9 : q = w.heap.size + 1 := e; omega)
  clear hm c0 ka
  go_wp2
  refine bodyPost_ret (results_stop2 (fn := Try.f13) rfl _ _ _ _ _ rfl xc rfl) rfl ?_
  exact ⟨rfl, hG9⟩
set_option maxRecDepth 100000 in
theorem sat_no (h : No w p) (N : Int) : Calls Try.prog 15 #[.pointer p, .int .i64 N] w fun e w' => e = .returned (.tuple #[.agg #[.slice none 0 0], .int .i64 1]) ∧ w.grownBy w' none := by
  have gb := aGrown w (.cells #[.slice none 0 0] 35)
  have kb := heap_alloc_new w (.cells #[.slice none 0 0] 35)
  have hm := smade_no (h.grown gb)
  clear h
  go_enter Try.func15, Try.ntmps15
  go_wp2_with fail
  generalize w.alloc (.cells #[.slice none 0 0] 35) = w2 at *
  refine hm.mono ?_
  rintro e w3 ⟨rfl, hg3⟩
  have kb3 : w3.heap[w.heap.size]? = some (.cells #[.slice none 0 0] 35) := (hg3.block _ (Array.getElem?_eq_some_iff.1 kb).1 (by simp)).trans kb
  have x0 := cellOf (i := 0) (v := .slice none 0 0) kb3 rfl
  have xf : w3.frozen? ⟨w.heap.size, 0, none⟩ = false := by simp [World.frozen?, kb3]
  have xc : (w3.setCell ⟨w.heap.size, 0, none⟩ (.slice none 0 0)).cell? ⟨w.heap.size, 0, none⟩ = some (.slice none 0 0) := cellOf (i := 0) (heap_setO kb3 0 _) rfl
  have hG9 : w.grownBy (w3.setCell ⟨w.heap.size, 0, none⟩ (.slice none 0 0)) none := ((Chg.of_grown (grown_trans gb hg3 (by simp)) _).trans (setCell_chg w3 _ 0 _)).grown (fun q hq e => by have h9 : q = w.heap.size := e; omega)
  clear hm
  go_wp2
  refine bodyPost_ret (results_stop2 (fn := Try.f15) rfl _ _ _ _ _ rfl xc rfl) rfl ?_
  exact ⟨rfl, hG9⟩
set_option maxRecDepth 100000 in
theorem least_no (h : No w p) : Calls Try.prog 20 #[.pointer p] w fun e w' => e = .returned (.tuple #[.pointer none, .int .i64 1]) ∧ w.grownBy w' none := by
  have hc := crash_no w p none 0 0 h
  clear h
  go_enter Try.func20, Try.ntmps20
  go_wp2_with fail
  refine hc.mono ?_
  rintro e w1 ⟨rfl, hg1⟩
  clear hc
  go_wp2
  go_ret2
  exact ⟨rfl, hg1⟩
set_option maxRecDepth 100000 in
theorem number_no (h : No w p) (o : Option Addr) (n c : Nat) : Calls Try.prog 14 #[.pointer p, .agg #[.slice o n c]] w fun e w' => e = .returned (.tuple #[.int .i64 0, .int .i64 1]) ∧ w.grownBy w' none := by
  have ga := aGrown w (.cells #[.slice o n c] 35)
  have ka := heap_alloc_new w (.cells #[.slice o n c] 35)
  have c0 := cellOf (i := 0) (v := .slice o n c) ka rfl
  have hm := refused_no (h.grown ga) o n c
  clear h
  go_enter Try.func14, Try.ntmps14
  go_wp2_with fail
  generalize w.alloc (.cells #[.slice o n c] 35) = w2 at *
  refine hm.mono ?_
  rintro e w3 ⟨rfl, hg3⟩
  have hG := grown_trans ga hg3 (by simp)
  clear hm c0 ka
  go_wp2
  go_ret2
  exact ⟨rfl, hG⟩
end
end Go.Proofs.Ytgkeflgfnagnjaa
