/-
  The document's Copy.
-/
import Derived.Test.YtlfgikhjcimppaaE4
import Derived.Deep.AppendLies
namespace Go.Proofs.Ytlfgikhjcimppaa
open Go.RowKit
set_option linter.unusedVariables false

/-- A record in new memory, away from the row in which it lies. -/
structure Aw (w : World) (base : Nat) (row : Option Nat) (r : Rc) : Prop where
  rk : Rk w r
  kin : ∀ a, r.ko = some a → base ≤ a.block ∧ a.block < w.heap.size ∧ some a.block ≠ row
  vin : ∀ a, r.vo = some a → base ≤ a.block ∧ a.block < w.heap.size ∧ some a.block ≠ row

/-- Behind an append to the row, which made a new block or none. -/
theorem Aw.append {w w' : World} {base : Nat} {row row' : Option Nat} {r : Rc} (h : Aw w base row r) (hg : w.grownBy w' row) (hr : row' = row ∨ row' = some w.heap.size) : Aw w' base row' r := by
  refine ⟨⟨h.rk.low, h.rk.high, h.rk.key.kept hg (fun a ha => (h.kin a ha).2.2), h.rk.value.kept hg (fun a ha => (h.vin a ha).2.2), h.rk.kb, h.rk.vb⟩, fun a ha => ?_, fun a ha => ?_⟩
  · obtain ⟨h1, h2, h3⟩ := h.kin a ha
    refine ⟨h1, Nat.lt_of_lt_of_le h2 hg.size, ?_⟩
    rcases hr with rfl | rfl
    · exact h3
    · simp; omega
  · obtain ⟨h1, h2, h3⟩ := h.vin a ha
    refine ⟨h1, Nat.lt_of_lt_of_le h2 hg.size, ?_⟩
    rcases hr with rfl | rfl
    · exact h3
    · simp; omega
theorem Aw.kept {w w' : World} {base : Nat} {row : Option Nat} {r : Rc} (h : Aw w base row r) (hg : w.grownBy w' row) : Aw w' base row r := h.append hg (Or.inl rfl)
theorem Aw.grown {w w' : World} {base : Nat} {row : Option Nat} {r : Rc} (h : Aw w base row r) (hg : w.grownBy w' none) : Aw w' base row r := h.kept (grown_any hg row)

theorem append_rec_lies (w : World) (base : Nat) (ro : Option Addr) (n rc : Nat) (rs : List Rc) (h : Rw w base ro n rc rs) (r : Rc) (s : Nat) (c0 : w.cell? ⟨s, 0, none⟩ = some (.int .i64 r.t)) (c1 : w.cell? ⟨s, 1, none⟩ = some (.slice r.ko r.kn r.kc)) (c2 : w.cell? ⟨s, 2, none⟩ = some (.slice r.vo r.vn r.vc)) (hn : n ≤ 100000) (hbase : base ≤ w.heap.size) :
    ∃ g rc' w', (Builtin.append_ #[22, 22] 22 #[.slice ro n rc, .slice (some ⟨s, 0, none⟩) 1 1]).run Try.prog w = .ok (.slice (some ⟨g, 0, none⟩) (n + 1) rc') w' ∧ Rw w' base (some ⟨g, 0, none⟩) (n + 1) rc' (rs ++ [r]) ∧ w.grownBy w' (blk ro) ∧ (some g = blk ro ∨ some g = some w.heap.size) := by
  obtain ⟨i, hi, hz, hzs, hz2⟩ := info_parts Try.info42
  obtain ⟨g, c, w', hr, h2, h3, h4, _⟩ := run_append_lies (P := Try.prog) w 22 22 base 42 i _ 3 56 Try.underlying22 hi hz hzs hz2 rfl (by decide) _ n _ h.row ⟨s, 0, none⟩ 1 1 r.cells rfl
    (fun j u hu => by
      rw [Addr.add_lit, Nat.zero_add]
      match j, hu with
      | 0, hu => cases hu; exact c0
      | 1, hu => cases hu; exact c1
      | 2, hu => cases hu; exact c2) (fun u hu => rcells_one [r] u (by simpa [rcells] using hu)) (by decide) (by unfold maxLen; omega) (by omega) hbase _ rfl
  rw [← rcells_snoc] at h2
  rw [blk_own] at h3 h4
  exact ⟨g, c, w', hr, ⟨by simp [h.len], h2⟩, h3, h4.elim (fun e => Or.inl e.symm) (fun e => Or.inr (by rw [e]))⟩

/-- append of a record, as one step of a region that draws. -/
theorem step_append_lying {ops : Array Oper} {o : Oper} {a : Act} {w : World} {K : Act → World → Prop} {Q : Exit → Act → World → Prop} {E : Prop}
    (hg : o.guard = none) (ht : o.type = 22) (s x : Operand) (hop : o.op = Op.call { callee := Callee.builtin Builtin.append, args := #[s, x], argTypes := #[22, 22] })
    (base : Nat) (ro : Option Addr) (n rc : Nat) (rs : List Rc) (hs : a.eval s = .slice ro n rc) (h : Rw w base ro n rc rs) (r : Rc) (sb : Nat) (hx : a.eval x = .slice (some ⟨sb, 0, none⟩) 1 1)
    (c0 : w.cell? ⟨sb, 0, none⟩ = some (.int .i64 r.t)) (c1 : w.cell? ⟨sb, 1, none⟩ = some (.slice r.ko r.kn r.kc)) (c2 : w.cell? ⟨sb, 2, none⟩ = some (.slice r.vo r.vn r.vc)) (hn : n ≤ 100000) (hbase : base ≤ w.heap.size)
    (hK : ∀ g rc' w', Rw w' base (some ⟨g, 0, none⟩) (n + 1) rc' (rs ++ [r]) → w.grownBy w' (blk ro) → (some g = blk ro ∨ some g = some w.heap.size) → K (a.put o.dst (.slice (some ⟨g, 0, none⟩) (n + 1) rc')) w') :
    if Region.wanted o (yielded ops a.tmps) = true then Oper.wp Try.prog o a w K Q else E := by
  have hw : Region.wanted o (yielded ops a.tmps) = true := by simp [Region.wanted, hg]
  rw [if_pos hw]
  obtain ⟨g, rc', w', hr, h2, h3, h4⟩ := append_rec_lies w base ro n rc rs h r sb c0 c1 c2 hn hbase
  unfold Oper.wp execOp
  simp only [hop, ht, resolve, invoke, builtin, Sem.run_bind, Sem.run_pure, Result.andThen_ok, List.map_toArray, List.map_cons, List.map_nil, hs, hx, hr]
  exact hK g rc' w' h2 h3 h4

/-- The same in a list of operations. -/
theorem wpList_append_lying {ops : Array Oper} {rest : List Oper} {o : Oper} {a : Act} {w : World} {Q : Exit → Act → World → Prop}
    (hg : o.guard = none) (ht : o.type = 22) (s x : Operand) (hop : o.op = Op.call { callee := Callee.builtin Builtin.append, args := #[s, x], argTypes := #[22, 22] })
    (base : Nat) (ro : Option Addr) (n rc : Nat) (rs : List Rc) (hs : a.eval s = .slice ro n rc) (h : Rw w base ro n rc rs) (r : Rc) (sb : Nat) (hx : a.eval x = .slice (some ⟨sb, 0, none⟩) 1 1)
    (c0 : w.cell? ⟨sb, 0, none⟩ = some (.int .i64 r.t)) (c1 : w.cell? ⟨sb, 1, none⟩ = some (.slice r.ko r.kn r.kc)) (c2 : w.cell? ⟨sb, 2, none⟩ = some (.slice r.vo r.vn r.vc)) (hn : n ≤ 100000) (hbase : base ≤ w.heap.size)
    (hK : ∀ g rc' w', Rw w' base (some ⟨g, 0, none⟩) (n + 1) rc' (rs ++ [r]) → w.grownBy w' (blk ro) → (some g = blk ro ∨ some g = some w.heap.size) → wpList Try.prog ops Q rest (a.put o.dst (.slice (some ⟨g, 0, none⟩) (n + 1) rc')) w') :
    wpList Try.prog ops Q (o :: rest) a w := by
  refine wpList_plain hg fun _ hK2 => ?_
  obtain ⟨g, rc', w', hr, h2, h3, h4⟩ := append_rec_lies w base ro n rc rs h r sb c0 c1 c2 hn hbase
  unfold Oper.wp execOp
  simp only [hop, ht, resolve, invoke, builtin, Sem.run_bind, Sem.run_pure, Result.andThen_ok, List.map_toArray, List.map_cons, List.map_nil, hs, hx, hr]
  exact hK2 _ _ (hK g rc' w' h2 h3 h4)

set_option maxRecDepth 100000 in
set_option maxHeartbeats 8000000 in
theorem rcopy_any (w : World) (ao : Option Addr) (n cap : Nat) (l : List Rc) (ha : Rs w ao n cap l) (hn : n ≤ 99999) (hb : ∀ r ∈ l, r.kn ≤ 1048576 ∧ r.vn ≤ 1048576) :
    Calls Try.prog 35 #[.slice ao n cap] w fun e w' => ∃ ro rc rs, e = .returned (.slice ro n rc) ∧ Rw w' w.heap.size ro n rc rs ∧ ds rs = ds l ∧ (∀ r ∈ rs, Aw w' w.heap.size (blk ro) r) ∧ w.grownBy w' none := by
  have hlen := ha.len
  go_enter Try.func35, Try.ntmps35
  go_wp2_with fail
  go_loopw [3, 4] (fun o' i' wr => ∃ (i : Nat) (ro : Option Addr) (rc : Nat) (fs : List Rc), i ≤ n ∧ i' = .int .i64 i ∧ o' = .slice ro i rc ∧ Rw wr w.heap.size ro i rc fs ∧ Hid (ds fs = ds (l.take i)) ∧ (∀ r ∈ fs, Aw wr w.heap.size (blk ro) r) ∧ w.grownBy wr none) (fun _ i' _ => n - (intOf i').toNat)
  case atStart => exact ⟨0, none, 0, [], Nat.zero_le _, rfl, rfl, Rw.nil _ _, (by simp : ds [] = ds (l.take 0)), fun r hr => (by cases hr), grown_refl _ _⟩
  case round =>
    obtain ⟨i, ro, rc, fs, hi, rfl, rfl, hR, hD, hA, hG⟩ := hrel
    by_cases hlt : i < n
    · obtain ⟨b, o, rfl, hbl⟩ := ha.addr (by omega)
      have h1 : i < l.length := by omega
      have hd : decide ((i : Int) < (n : Int)) = true := by simp; omega
      have hkk : ∀ W, w.grownBy W none → Rk W l[i] := fun W hW => (ha.grown hW).shows _ (List.getElem_mem h1)
      have hbb := hb _ (List.getElem_mem h1)
      have hds : Hid (ds (l.take (i + 1)) = ds (l.take i) ++ [(l[i]).d]) := by show _ = _; unfold ds; rw [List.take_succ_eq_append_getElem h1, List.map_append]; rfl
      have h6 : ∀ W, w.grownBy W none → W.cell? ⟨b, o + i * 3, none⟩ = some (.int .i64 (l[i]).t) ∧ W.cell? ⟨b, o + i * 3 + 1, none⟩ = some (.slice (l[i]).ko (l[i]).kn (l[i]).kc) ∧ W.cell? ⟨b, o + i * 3 + 2, none⟩ = some (.slice (l[i]).vo (l[i]).vn (l[i]).vc) := fun W hW => by
        obtain ⟨a1, a2, a3, _⟩ := (ha.grown hW).at h1
        exact ⟨a1, a2, a3⟩
      generalize l[i] = x at *
      have hi1 : (0 : Int) ≤ (i : Int) := by omega
      have hi2 : (i : Int) < (n : Int) := by omega
      obtain ⟨a1, a2, a3⟩ := h6 _ hG
      have hS0 := hG.size
      go_wp2_with fail
      go_region_held3 (fun w' => w'.cell? ⟨b, o + i * 3, none⟩ = some (.int .i64 x.t) ∧ w'.cell? ⟨b, o + i * 3 + 1, none⟩ = some (.slice x.ko x.kn x.kc) ∧ w'.cell? ⟨b, o + i * 3 + 2, none⟩ = some (.slice x.vo x.vn x.vc)) (first | exact ⟨a1, a2, a3⟩ | exact mm | exact nn | exact h6 _ (grown_trans hG hgf (by simp)) | exact qq | go_keep)
        (first
          | (refine step_append_bs (by rfl) (.const (.slice none 0 0)) (.tmp 21) 31 (by rfl) wr.heap.size 5 Try.underlying31 Try.info5 (by rfl) (Ow.nil _ _ _) (by rfl) (hkk _ (grown_trans hG (grown_drewN wr 1 none) (by simp))).key (by omega) (by simp) x.kn x.k (by omega) (by simp) ?_; intro ak ck w2 ok hg2; have hgd : wr.grownBy w2 none := grown_trans (grown_drewN wr 1 none) hg2 (by simp [blk]); have mm := h6 _ (grown_trans hG hgd (by simp)); have hfirst : True := trivial)
          | (refine step_append_bs (by rfl) (.const (.slice none 0 0)) (.tmp 27) 31 (by rfl) wr.heap.size 5 Try.underlying31 Try.info5 (by rfl) (Ow.nil _ _ _) (by rfl) (hkk _ (grown_trans hG (grown_drewN wr 1 none) (by simp))).value (by omega) (by simp) x.vn x.v (by omega) (by simp) ?_; intro av cv w2 ov hg2; have hgd : wr.grownBy w2 none := grown_trans (grown_drewN wr 1 none) hg2 (by simp [blk]); have mm := h6 _ (grown_trans hG hgd (by simp)); have hfirst : True := trivial)
          | (refine step_append_bs (by rfl) (.const (.slice none 0 0)) (.tmp 27) 31 (by rfl) wr.heap.size 5 Try.underlying31 Try.info5 (by rfl) (Ow.nil _ _ _) (by rfl) (hkk _ (grown_trans hG hgd (by simp))).value (by omega) hgd.size x.vn x.v (by omega) (by simp) ?_; intro av cv w3 ov hg3; have hge : wr.grownBy w3 none := grown_trans hgd hg3 (by simp [blk]); have nn := h6 _ (grown_trans hG hge (by simp)); have hok : Ow w3 wr.heap.size 5 ak x.kn ck x.k := ok.grown hg3; have hov : Ow w3 wr.heap.size 5 av x.vn cv x.v := ov; have ga := alloc_grown w3 (.cells #[.int .i64 x.t, .slice ak x.kn ck, .slice av x.vn cv] 42); have hgf : wr.grownBy (w3.alloc (.cells #[.int .i64 x.t, .slice ak x.kn ck, .slice av x.vn cv] 42)) none := grown_trans hge ga (by simp))
          | (refine step_append_bs (by rfl) (.const (.slice none 0 0)) (.tmp 21) 31 (by rfl) wr.heap.size 5 Try.underlying31 Try.info5 (by rfl) (Ow.nil _ _ _) (by rfl) (hkk _ (grown_trans hG hgd (by simp))).key (by omega) hgd.size x.kn x.k (by omega) (by simp) ?_; intro ak ck w3 ok hg3; have hge : wr.grownBy w3 none := grown_trans hgd hg3 (by simp [blk]); have nn := h6 _ (grown_trans hG hge (by simp)); have hok : Ow w3 wr.heap.size 5 ak x.kn ck x.k := ok; have hov : Ow w3 wr.heap.size 5 av x.vn cv x.v := ov.grown hg3; have ga := alloc_grown w3 (.cells #[.int .i64 x.t, .slice ak x.kn ck, .slice av x.vn cv] 42); have hgf : wr.grownBy (w3.alloc (.cells #[.int .i64 x.t, .slice ak x.kn ck, .slice av x.vn cv] 42)) none := grown_trans hge ga (by simp))
          | (refine step_append_lying (by rfl) (by rfl) (.tmp 11) (.tmp 30) (by rfl) w.heap.size ro i rc fs (by rfl) (hR.kept hgf (by cases ro <;> simp [blk])) ⟨x.t, ak, x.kn, ck, x.k, av, x.vn, cv, x.v⟩ w3.heap.size (by rfl) (cell_of (i := 0) (heap_alloc_new w3 _) rfl) (cell_of (i := 1) (heap_alloc_new w3 _) rfl) (cell_of (i := 2) (heap_alloc_new w3 _) rfl) (by omega) (Nat.le_trans hS0 hgf.size) ?_; intro g4 rc4 w4 hR4 hg4 hlie; have hgg : wr.grownBy w4 (blk ro) := grown_trans (grown_any hgf _) hg4 (fun k hk => Or.inl hk); have hG4 := (grown_trans hG hgg (fun k hk => Or.inr (hR.from_base k hk).1)); have qq := h6 _ hG4)
          )
      all_goals
        have hx := hkk _ (grown_trans hG hge (by simp))
        have hown : Aw w3 w.heap.size (blk ro) ⟨x.t, ak, x.kn, ck, x.k, av, x.vn, cv, x.v⟩ := by
          refine ⟨⟨hx.low, hx.high, hok.shows, hov.shows, ?_, ?_⟩, fun a ha => ?_, fun a ha => ?_⟩
          · show x.kn ≤ _; omega
          · show x.vn ≤ _; omega
          · have q := hok.from_base a.block (by rw [show ak = some a from ha]; rfl)
            refine ⟨by omega, q.2, fun e => ?_⟩
            have := (hR.from_base _ e.symm).2
            omega
          · have q := hov.from_base a.block (by rw [show av = some a from ha]; rfl)
            refine ⟨by omega, q.2, fun e => ?_⟩
            have := (hR.from_base _ e.symm).2
            omega
        have hA4 : ∀ r ∈ fs ++ [(⟨x.t, ak, x.kn, ck, x.k, av, x.vn, cv, x.v⟩ : Rc)], Aw w4 w.heap.size (some g4) r := fun r hr => by
          rcases List.mem_append.1 hr with hr | hr
          · exact (((hA r hr).grown hge).grown ga).append hg4 hlie
          · obtain rfl : r = _ := by simpa using hr
            exact (hown.grown ga).append hg4 hlie
        have hD4 : Hid (ds (fs ++ [(⟨x.t, ak, x.kn, ck, x.k, av, x.vn, cv, x.v⟩ : Rc)]) = ds (l.take (i + 1))) := by
          show _ = _
          rw [hds.out, ← hD.out]
          unfold ds
          rw [List.map_append]
          rfl
        clear hx hown hA hD hds hok hov hg2 hgd hge hgf hgg ga hg3 hg4 hlie mm nn qq a1 a2 a3 h6 hkk ok ov hR
        go_wp2
        go_roundw
        case rel => exact ⟨i + 1, _, _, _, by omega, by go_num, rfl, hR4, hD4, hA4, hG4⟩
        case measure => simp [intOf]; omega
    · obtain rfl : i = n := by omega
      have hd : decide ((i : Int) < (i : Int)) = false := by simp
      go_wp2
      go_ret
      exact ⟨ro, rc, fs, rfl, hR, by rw [hD.out, List.take_of_length_le (by omega)], hA, hG⟩
end Go.Proofs.Ytlfgikhjcimppaa
