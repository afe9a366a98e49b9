/-
  All's closure over spots, as an iterator whose rounds leave what it reads.
-/
import Derived.Test.YtbnoemfhcpjdjaaDoorE1
namespace Go.Proofs.YtbnoemfhcpjdjaaDoor
open Go.RowKit Go.Shelf
set_option linter.unusedVariables false
attribute [local go_sem] Oper.semAt_some

theorem Sw.below {w W : World} {base hi : Nat} {ao : Option Addr} {n cap : Nat} {l : List Sd} (h : Sw w base ao n cap l) (hB : Below hi w W) (hb : ∀ k, blk ao = some k → k < hi) : Sw W base ao n cap l := by
  refine ⟨h.len, h.row.1, ?_⟩
  rcases h.row.2 with h2 | ⟨g, c, cur, hv, hg, r, r2⟩
  · exact Or.inl h2
  · cases hv
    exact Or.inr ⟨g, cap, cur, rfl, hg, (hB.block g (hb g rfl)).trans r, r2⟩

/-- Some blocks stay as they are. -/
def Stay (K : Nat → Prop) (A B : World) : Prop := A.heap.size ≤ B.heap.size ∧ ∀ k, K k → B.heap[k]? = A.heap[k]?
theorem Stay.refl (K : Nat → Prop) (A : World) : Stay K A A := ⟨Nat.le_refl _, fun _ _ => rfl⟩
theorem Stay.trans {K : Nat → Prop} {A B C : World} (h : Stay K A B) (h2 : Stay K B C) : Stay K A C := ⟨Nat.le_trans h.1 h2.1, fun k hk => (h2.2 k hk).trans (h.2 k hk)⟩
theorem Stay.chg {K S : Nat → Prop} {A B : World} (h : Chg A B S) (hK : ∀ k, K k → k < A.heap.size) (hS : ∀ k, K k → ¬ S k) : Stay K A B := ⟨h.size, fun k hk => h.block k (hK k hk) (hS k hk)⟩
theorem Stay.grown {K : Nat → Prop} {A B : World} (h : A.grownBy B none) (hK : ∀ k, K k → k < A.heap.size) : Stay K A B := ⟨h.size, fun k hk => h.block k (hK k hk) (by simp)⟩
theorem Sw.stay {w W : World} {K : Nat → Prop} {base : Nat} {ao : Option Addr} {n cap : Nat} {l : List Sd} (h : Sw w base ao n cap l) (hB : Stay K w W) (hb : ∀ k, blk ao = some k → K k) : Sw W base ao n cap l := by
  refine ⟨h.len, h.row.1, ?_⟩
  rcases h.row.2 with h2 | ⟨g, c, cur, hv, hg, r, r2⟩
  · exact Or.inl h2
  · cases hv
    exact Or.inr ⟨g, cap, cur, rfl, hg, (hB.2 g (hb g rfl)).trans r, r2⟩

set_option maxRecDepth 100000 in
set_option maxHeartbeats 2000000 in
theorem all1_stay (n' : Nat) (h1 : 1 ≤ n') (w : World) (z base : Nat) (K : Nat → Prop) (ao : Option Addr) (n cap : Nat) (l : List Sd) (hz : Boxed w z 29 (.slice ao n cap)) (hw : Sw w base ao n cap l) (hzi : K z) (hai : ∀ k, blk ao = some k → K k) (hKl : ∀ k, K k → k < w.heap.size) (hn : n ≤ 100000) :
    SeqTold Fence.wide n' Tryd.prog 43 #[.pointer (some ⟨z, 0, none⟩)] (fun t : Sd => #[t.val]) (fun _ pre x _ => l[pre.length]? = some x) (Stay K) (fun xs => xs = l) (fun pre => pre <+: l) w := by
  intro q J Jx W hB hJa hJxa hY h0
  have hlen := hw.len
  have hb2 := (hB.cell (p := ⟨z, 0, none⟩) hz.lt).trans hz.cell
  have hwW : Sw W base ao n cap l := hw.below hB (fun k hk => (hw.from_base k hk).2)
  have hKW : ∀ k, K k → k < W.heap.size := fun k hk => Nat.lt_of_lt_of_le (hKl k hk) hB.size
  show CallsIn Fence.wide n' Tryd.prog 43 #[.func (.yield q) #[] #[], .pointer (some ⟨z, 0, none⟩)] W _
  refine callsIn_of_wp Tryd.func43 rfl trivial ?_
  simp only [Tryd.ntmps43, List.size_toArray, List.length_cons, List.length_nil, Nat.reduceAdd, Nat.reduceSub, Array.replicate_succ, Array.replicate_zero, List.push_toArray, List.append_toArray, List.nil_append, List.cons_append]
  gi_wp2
  gi_loopw [4, 7] (fun _ i wr => ∃ k : Nat, i = .int .i64 k ∧ k ≤ n ∧ Stay K W wr ∧ J (l.take k) wr) (fun _ i _ => n - (intOf i).toNat)
  case atStart =>
    exact ⟨0, rfl, Nat.zero_le _, Stay.refl _ _, by simpa using h0⟩
  case round =>
    obtain ⟨k, rfl, hk, hBr, hJ⟩ := hrel
    by_cases hlt : k < n
    · have hd : decide ((k : Int) < (n : Int)) = true := by simp; omega
      have hkl : k < l.length := by omega
      obtain ⟨t, ht⟩ : ∃ t, l[k] = t := ⟨_, rfl⟩
      have ht? : l[k]? = some t := by rw [List.getElem?_eq_getElem hkl, ht]
      obtain ⟨g, rfl, _, _⟩ := hwW.addr (by omega)
      have hwr := hwW.stay hBr hai
      have c0 := hwr.at ht? 0 (by decide)
      have c1 := hwr.at ht? 1 (by decide)
      simp only [Sd.cells, List.getElem?_cons_zero, List.getElem?_cons_succ, Nat.add_zero] at c0 c1
      have ga := alloc_grown wr (.cells #[.int .i64 t.o, .int .i64 t.p] 33)
      have hJ2 := hJa _ _ _ _ hJ ga (fun q e => by cases e)
      have hB2 : Stay K W _ := hBr.trans (Stay.grown ga (fun k hk => Nat.lt_of_lt_of_le (hKW k hk) hBr.1))
      obtain ⟨fn, tmps, assign, body, hy, hR⟩ := hY (l.take k) t _ hJ2 (by rw [List.length_take, Nat.min_eq_left (by omega)]; exact ht?)
      simp only [Sd.val] at hy
      have htk : l.take k ++ [t] = l.take (k + 1) := by rw [List.take_succ_eq_append_getElem hkl, ht]
      rw [htk] at hR
      have b1 : (0 : Int) ≤ (k : Int) := by omega
      have b2 : (k : Int) < (n : Int) := by omega
      gi_wp2
      refine hR.mono ?_
      clear hy hR hJ hJ2 c0 c1
      rintro e W3 (⟨rfl, hJ3, hk3⟩ | ⟨rfl, hJx3⟩)
      · gi_wp2
        go_roundw
        case rel => exact ⟨k + 1, by go_num, by omega, hB2.trans hk3, hJ3⟩
        case measure => simp [intOf]; omega
      · gi_wp2
        refine bodyPost_ret (results_none rfl _ _ _) rfl ?_
        exact ⟨⟨_, rfl⟩, .inr ⟨_, List.take_prefix _ _, hJx3⟩⟩
    · obtain rfl : k = n := by omega
      gi_wp2
      go_end0
      exact ⟨⟨_, rfl⟩, .inl ⟨_, List.take_of_length_le (by omega), hJ⟩⟩

end Go.Proofs.YtbnoemfhcpjdjaaDoor
