/-
  All, and its closure over rises.
-/
import Derived.Test.YtmnfdiffneobpaaB1
namespace Go.Proofs.Ytmnfdiffneobpaa
open Go.RowKit Go.Shelf
set_option linter.unusedVariables false
attribute [local go_sem] Oper.semAt_some


section
variable {w w' : World} {b : Nat} {bs en : Int} {ro : Option Addr} {rc : Nat} {l : List Sd}
set_option maxRecDepth 100000 in
set_option maxHeartbeats 1000000 in
theorem all_any (h : Xd w b ro rc bs en l) : Calls Try.prog 28 #[.pointer (some ⟨b, 0, none⟩)] w fun e w' => e = .returned (.func (.func 63) #[] #[.pointer (some ⟨w.heap.size, 0, none⟩)]) ∧ Boxed w' w.heap.size 33 (.slice ro l.length rc) ∧ w.grownBy w' none := by
  have hmf := hmf
  have hbx := Boxed.new w 33 (.slice none 0 0)
  have hg := alloc_grown w (.cells #[.slice none 0 0] 33)
  have hX := h.grown hg
  have c2 := hX.ix.c2
  have hma := there_yes hX.ix.c3
  go_enter Try.func28, Try.ntmps28
  go_wp2_with fail
  generalize w.alloc (.cells #[.slice none 0 0] 33) = w1 at *
  refine hma.mono ?_
  rintro e w1 ⟨rfl, rfl⟩
  have k0 := hbx.cell
  have f0 := hbx.frozen
  have hb3 := hbx.set (.slice ro l.length rc)
  have hc3 := setCell_chg w1 w.heap.size 0 (.slice ro l.length rc)
  have hg3 : w.grownBy _ none := ((Chg.of_grown hg _).trans hc3).grown (fun k hk e => by omega)
  clear hma hX hbx
  go_wp2
  go_ret
  exact ⟨rfl, hb3, hg3⟩
end

set_option maxRecDepth 100000 in
set_option maxHeartbeats 2000000 in
theorem all1_stay (n' : Nat) (h1 : 1 ≤ n') (w : World) (z base : Nat) (K : Nat → Prop) (ao : Option Addr) (n cap : Nat) (l : List Sd) (hz : Boxed w z 33 (.slice ao n cap)) (hw : Sw w base ao n cap l) (hzi : K z) (hai : ∀ k, blk ao = some k → K k) (hKl : ∀ k, K k → k < w.heap.size) (hn : n ≤ 100000) :
    SeqTold Fence.wide n' Try.prog 63 #[.pointer (some ⟨z, 0, none⟩)] (fun t : Sd => #[t.val]) (fun _ pre x _ => l[pre.length]? = some x) (Stay K) (fun xs => xs = l) (fun pre => pre <+: l) w := by
  intro q J Jx W hB hJa hJxa hY h0
  have hlen := hw.len
  have hb2 := (hB.cell (p := ⟨z, 0, none⟩) hz.lt).trans hz.cell
  have hwW : Sw W base ao n cap l := hw.below hB (fun k hk => (hw.from_base k hk).2)
  have hKW : ∀ k, K k → k < W.heap.size := fun k hk => Nat.lt_of_lt_of_le (hKl k hk) hB.size
  show CallsIn Fence.wide n' Try.prog 63 #[.func (.yield q) #[] #[], .pointer (some ⟨z, 0, none⟩)] W _
  refine callsIn_of_wp Try.func63 rfl trivial ?_
  simp only [Try.ntmps63, List.size_toArray, List.length_cons, List.length_nil, Nat.reduceAdd, Nat.reduceSub, Array.replicate_succ, Array.replicate_zero, List.push_toArray, List.append_toArray, List.nil_append, List.cons_append]
  gi_wp2
  gi_loopw [4, 7] (fun _ i wr => ∃ k : Nat, i = .int .i64 k ∧ k ≤ n ∧ Stay K W wr ∧ J (l.take k) wr) (fun _ i _ => n - (intOf i).toNat)
  case atStart =>
    exact ⟨0, rfl, Nat.zero_le _, Stay.refl _ _, by simpa using h0⟩
  case round =>
    obtain ⟨k, rfl, hk, hBr, hJ⟩ := hrel
    by_cases hlt : k < n
    · have hd : decide ((k : Int) < (n : Int)) = true := by simp; omega
      have hkl : k < l.length := by omega
      obtain ⟨t, ht⟩ : ∃ t, l[k] = t := ⟨_, rfl⟩
      have ht? : l[k]? = some t := by rw [List.getElem?_eq_getElem hkl, ht]
      obtain ⟨g, rfl, _, _⟩ := hwW.addr (by omega)
      have hwr := hwW.stay hBr hai
      have c0 := hwr.at ht? 0 (by decide)
      have c1 := hwr.at ht? 1 (by decide)
      simp only [Sd.cells, List.getElem?_cons_zero, List.getElem?_cons_succ, Nat.add_zero] at c0 c1
      have ga := alloc_grown wr (.cells #[.int .i64 t.o, .int .i64 t.p] 64)
      have hJ2 := hJa _ _ _ _ hJ ga (fun q e => by cases e)
      have hB2 : Stay K W _ := hBr.trans (Stay.grown ga (fun k hk => Nat.lt_of_lt_of_le (hKW k hk) hBr.1))
      obtain ⟨fn, tmps, assign, body, hy, hR⟩ := hY (l.take k) t _ hJ2 (by rw [List.length_take, Nat.min_eq_left (by omega)]; exact ht?)
      simp only [Sd.val] at hy
      have htk : l.take k ++ [t] = l.take (k + 1) := by rw [List.take_succ_eq_append_getElem hkl, ht]
      rw [htk] at hR
      have b1 : (0 : Int) ≤ (k : Int) := by omega
      have b2 : (k : Int) < (n : Int) := by omega
      gi_wp2
      refine hR.mono ?_
      clear hy hR hJ hJ2 c0 c1
      rintro e W3 (⟨rfl, hJ3, hk3⟩ | ⟨rfl, hJx3⟩)
      · gi_wp2
        go_roundw
        case rel => exact ⟨k + 1, by go_num, by omega, hB2.trans hk3, hJ3⟩
        case measure => simp [intOf]; omega
      · gi_wp2
        refine bodyPost_ret (results_none rfl _ _ _) rfl ?_
        exact ⟨⟨_, rfl⟩, .inr ⟨_, List.take_prefix _ _, hJx3⟩⟩
    · obtain rfl : k = n := by omega
      gi_wp2
      go_end0
      exact ⟨⟨_, rfl⟩, .inl ⟨_, List.take_of_length_le (by omega), hJ⟩⟩


end Go.Proofs.Ytmnfdiffneobpaa
