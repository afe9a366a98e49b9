/-
  All's closure over files told, as an iterator.
-/
import Derived.Test.YthkbakaodbceiaaF4
import Derived.Test.YthkbakaodbceiaaD6
namespace Go.Proofs.Ythkbakaodbceiaa
open Go.RowKit Go.Shelf
set_option linter.unusedVariables false
attribute [local go_sem] Oper.semAt_some

theorem Tw.below {w W : World} {base hi : Nat} {ao : Option Addr} {n cap : Nat} {l : List Td} (h : Tw w base ao n cap l) (hB : Below hi w W) (hb : ∀ k, blk ao = some k → k < hi) : Tw W base ao n cap l := by
  refine ⟨h.len, h.row.1, ?_⟩
  rcases h.row.2 with h2 | ⟨g, c, cur, hv, hg, r, r2⟩
  · exact Or.inl h2
  · cases hv
    exact Or.inr ⟨g, cap, cur, rfl, hg, (hB.block g (hb g rfl)).trans r, r2⟩

set_option maxRecDepth 100000 in
set_option maxHeartbeats 2000000 in
theorem all1_told (n' : Nat) (h1 : 1 ≤ n') (w : World) (z hi base : Nat) (ao : Option Addr) (n cap : Nat) (l : List Td) (hz : Boxed w z 75 (.slice ao n cap)) (hw : Tw w base ao n cap l) (hzi : z < hi) (hai : ∀ k, blk ao = some k → k < hi) (hhi : hi ≤ w.heap.size) (hn : n ≤ 100000) :
    SeqTold Fence.wide n' Try.prog 63 #[.pointer (some ⟨z, 0, none⟩)] (fun t : Td => #[t.val]) (fun _ pre x _ => l[pre.length]? = some x) (Below hi) (fun xs => xs = l) (fun pre => pre <+: l) w := by
  intro q J Jx W hB hJa hJxa hY h0
  have hlen := hw.len
  have hb2 := (hB.cell (p := ⟨z, 0, none⟩) hz.lt).trans hz.cell
  have hwW : Tw W base ao n cap l := hw.below hB (fun k hk => (hw.from_base k hk).2)
  have hhW : hi ≤ W.heap.size := Nat.le_trans hhi hB.size
  show CallsIn Fence.wide n' Try.prog 63 #[.func (.yield q) #[] #[], .pointer (some ⟨z, 0, none⟩)] W _
  refine callsIn_of_wp Try.func63 rfl trivial ?_
  simp only [Try.ntmps63, List.size_toArray, List.length_cons, List.length_nil, Nat.reduceAdd, Nat.reduceSub, Array.replicate_succ, Array.replicate_zero, List.push_toArray, List.append_toArray, List.nil_append, List.cons_append]
  gi_wp2
  gi_loopw [4, 7] (fun _ i wr => ∃ k : Nat, i = .int .i64 k ∧ k ≤ n ∧ Below hi W wr ∧ J (l.take k) wr) (fun _ i _ => n - (intOf i).toNat)
  case atStart =>
    exact ⟨0, rfl, Nat.zero_le _, Below.refl _ _, by simpa using h0⟩
  case round =>
    obtain ⟨k, rfl, hk, hBr, hJ⟩ := hrel
    by_cases hlt : k < n
    · have hd : decide ((k : Int) < (n : Int)) = true := by simp; omega
      have hkl : k < l.length := by omega
      obtain ⟨t, ht⟩ : ∃ t, l[k] = t := ⟨_, rfl⟩
      have ht? : l[k]? = some t := by rw [List.getElem?_eq_getElem hkl, ht]
      obtain ⟨g, rfl, _, _⟩ := hwW.addr (by omega)
      have hwr := hwW.below hBr hai
      have c0 := hwr.at ht? 0 (by decide)
      have c1 := hwr.at ht? 1 (by decide)
      have c2 := hwr.at ht? 2 (by decide)
      have c3 := hwr.at ht? 3 (by decide)
      have c4 := hwr.at ht? 4 (by decide)
      simp only [Td.cells, List.getElem?_cons_zero, List.getElem?_cons_succ, Nat.add_zero] at c0 c1 c2 c3 c4
      have ga := alloc_grown wr (.cells #[.string t.s, .int .i64 t.sz, .int .i64 t.la, .bool t.th, .bool t.nl] 55)
      have hJ2 := hJa _ _ _ _ hJ ga (fun q e => by cases e)
      have hB2 : Below hi W _ := hBr.trans ((grownBy_below ga).mono (Nat.le_trans hhW hBr.size))
      obtain ⟨fn, tmps, assign, body, hy, hR⟩ := hY (l.take k) t _ hJ2 (by rw [List.length_take, Nat.min_eq_left (by omega)]; exact ht?)
      simp only [Td.val, toldV] at hy
      have htk : l.take k ++ [t] = l.take (k + 1) := by rw [List.take_succ_eq_append_getElem hkl, ht]
      rw [htk] at hR
      have b1 : (0 : Int) ≤ (k : Int) := by omega
      have b2 : (k : Int) < (n : Int) := by omega
      gi_wp2
      refine hR.mono ?_
      clear hy hR hJ hJ2 c0 c1 c2 c3 c4
      rintro e W3 (⟨rfl, hJ3, hk3⟩ | ⟨rfl, hJx3⟩)
      · gi_wp2
        go_roundw
        case rel => exact ⟨k + 1, by go_num, by omega, hB2.trans hk3, hJ3⟩
        case measure => simp [intOf]; omega
      · gi_wp2
        refine bodyPost_ret (results_none rfl _ _ _) rfl ?_
        exact ⟨⟨_, rfl⟩, .inr ⟨_, List.take_prefix _ _, hJx3⟩⟩
    · obtain rfl : k = n := by omega
      gi_wp2
      go_end0
      exact ⟨⟨_, rfl⟩, .inl ⟨_, List.take_of_length_le (by omega), hJ⟩⟩
end Go.Proofs.Ythkbakaodbceiaa
