/-
  Name: the bytes of a segment's name.
-/
import Derived.Test.YtlghcboenkglnaaGreatDoorN2
import Derived.Laws.IdiomStrings
namespace Go.Proofs.YtlghcboenkglnaaGreatDoor
open Go.RowKit
set_option linter.unusedVariables false

/-- A row of bytes of the call's own; its mark, if it has one, lies behind its last cell. -/
structure Om (w : World) (base : Nat) (ao : Option Addr) (n cap : Nat) (l : List UInt8) : Prop where
  len : l.length = n
  room : n ≤ cap
  top : cap ≤ maxLen
  row : ∃ g cur fz, ao = some ⟨g, 0, none⟩ ∧ base ≤ g ∧ w.heap[g]? = some (.cells cur 5 fz) ∧ (fz.2 = 0 ∨ cap ≤ fz.1) ∧ cur.size = cap ∧ cur.toList.take n = l.map bv

theorem Om.shows {w : World} {base : Nat} {ao : Option Addr} {n cap : Nat} {l : List UInt8} (h : Om w base ao n cap l) : Bs w ao n cap l := by
  obtain ⟨g, cur, fz, rfl, hb, hg, hf, hs, ht⟩ := h.row
  refine ⟨h.len, h.room, h.top, (by simp), fun a ha j u hu => ?_⟩
  obtain rfl := Option.some.inj ha
  rw [Addr.add_lit, Nat.zero_add, cell_of_row w g j cur 5 fz hg]
  rw [← ht, List.getElem?_take] at hu
  split at hu
  · simpa using hu
  · cases hu
theorem Om.kept {w w' : World} {base : Nat} {ao : Option Addr} {n cap : Nat} {l : List UInt8} (h : Om w base ao n cap l) (hg : w.grownBy w' none) : Om w' base ao n cap l := by
  obtain ⟨g, cur, fz, rfl, hb, hgg, r⟩ := h.row
  exact ⟨h.len, h.room, h.top, g, cur, fz, rfl, hb, (hg.block g (Array.getElem?_eq_some_iff.1 hgg).1 (by simp)).trans hgg, r⟩

theorem info5 : (Tryz.prog.info? 5).map (fun i => (i.zero, i.size, i.bytes)) = some (some (.int .u8 0), 1, 1) := by kernel_rfl

theorem append_om (w : World) (base : Nat) (ao : Option Addr) (n cap : Nat) (l : List UInt8) (h : Om w base ao n cap l) (b : UInt8) (s : Nat) (hc : w.cell? ⟨s, 0, none⟩ = some (bv b)) (hn : n ≤ 1000) (hbase : base ≤ w.heap.size) :
    ∃ ao' cap' w', (Builtin.append_ #[48, 48] 48 #[.slice ao n cap, .slice (some ⟨s, 0, none⟩) 1 1]).run Tryz.prog w = .ok (.slice ao' (n + 1) cap') w' ∧ Om w' base ao' (n + 1) cap' (l ++ [b]) ∧ w.grownBy w' (blk ao) := by
  obtain ⟨i, hi, hz, hzs, hz2⟩ := info_parts info5
  have hlen := h.len
  have hroom0 := h.room
  have htop := h.top
  obtain ⟨g, cur, fz, rfl, hb, hg, hf, hs, ht⟩ := h.row
  have hnews : ∀ j u, [bv b][j]? = some u → w.cell? ((⟨s, 0, none⟩ : Addr).add j) = some u := fun j u hu => by
    rw [Addr.add_lit, Nat.zero_add]
    match j, hu with
    | 0, hu => cases hu; exact hc
  by_cases hr : n + 1 ≤ cap
  · have hi' : n < cur.size := by omega
    have hcell : w.cell? ⟨g, n, none⟩ = some cur[n] := by simp [World.cell?, hg, hi']
    have hfro : w.frozen? ⟨g, n, none⟩ = false := by
      obtain ⟨lo, hh⟩ := fz
      simp only [World.frozen?, hg, Bool.and_eq_false_iff, decide_eq_false_iff_not]
      simp only at hf
      omega
    have hst : (store (⟨g, n, none⟩ : Addr) (bv b)).run Tryz.prog w = .ok () (w.setRow g (cur.setIfInBounds n (bv b))) := by
      rw [run_store Tryz.prog w _ (bv b) _ rfl, hcell]
      simp [hfro, setCell_eq_setRow w g n cur 5 fz (bv b) hg]
    have hf1 := run_firstCells_some (P := Tryz.prog) w i.size 1 ⟨s, 0, none⟩ 1 1 [bv b] (by rw [hzs]; rfl) hnews
    have hsc : (storeCells (⟨g, n, none⟩ : Addr) [bv b] 0).run Tryz.prog w = .ok () (w.setRow g (cur.setIfInBounds n (bv b))) := by
      simp only [storeCells, Addr.add_lit, Nat.add_zero, Sem.run_bind, hst, Result.andThen_ok]
      rfl
    refine ⟨some ⟨g, 0, none⟩, cap, w.setRow g (cur.setIfInBounds n (bv b)), ?_, ⟨by simp [hlen], hr, htop, g, _, fz, rfl, hb, setRow_heap w g cur _ 5 _ hg, hf, by simpa using hs, ?_⟩, ⟨rfl, rfl, rfl, by simp, fun k _ hk => setRow_other w g k _ (fun e => hk (by simp [blk, e]))⟩⟩
    · rw [hzs] at hf1
      simp [Builtin.append_, run_underlying Tryz.underlying48, sizeOf, typeInfo, hi, Builtin.lenOf, hr, hzs, hf1, Addr.add_lit, hsc]
    · rw [Array.toList_setIfInBounds, List.take_succ_eq_append_getElem (by simp; omega)]
      simp [List.take_set_of_le, ht]
  · have holds : ∀ j u, (l.map bv)[j]? = some u → w.cell? ((⟨g, 0, none⟩ : Addr).add j) = some u := fun j u hu => h.shows.cells _ rfl j u hu
    have hgr := run_append_grow (P := Tryz.prog) w 48 48 5 i (.int .u8 0) Tryz.underlying48 hi hz ⟨g, 0, none⟩ n cap (l.map bv) (by rw [hzs]; simp [hlen]) holds ⟨s, 0, none⟩ 1 1 [bv b] (by rw [hzs]; rfl) hnews (by omega) (by omega) (growslice_fits (by omega) (by rw [hz2]; omega))
    have hge := grownCap_ge w (n + 1) cap 5
    have hcm2 : grownCap w (n + 1) cap 5 ≤ maxLen := grownCap_le_maxLen w (n + 1) cap 5 (by unfold maxLen; omega)
    refine ⟨_, _, _, hgr, ⟨by simp [hlen], hge, hcm2, w.heap.size, _, (0, 0), rfl, hbase, heap_alloc_new w.drew _, Or.inl rfl, ?_, ?_⟩, ⟨rfl, rfl, rfl, by simp, fun k hk _ => heap_alloc_old w.drew _ hk⟩⟩
    · simp only [Array.size_append, List.size_toArray, size_zeroCells, List.length_map, hlen, List.length_cons, List.length_nil]
      show n + 1 + (grownCap w (n + 1) cap 5 - (n + 1)) * 1 = _
      omega
    · simp only [Array.toList_append, List.append_assoc, List.map_append, List.map_cons, List.map_nil]
      rw [← List.append_assoc, List.take_left' (by simp [hlen])]

theorem wpList_append_om {w : World} {ops : Array Oper} {rest : List Oper} {o : Oper} {a : Act} {Q : Exit → Act → World → Prop} (hgd : o.guard = none) (s x : Operand)
    (ho : o.op = .call { callee := .builtin .append, args := #[s, x], argTypes := #[48, 48] }) (ht : o.type = 48)
    (base : Nat) {ao : Option Addr} {n cap : Nat} {l : List UInt8} (hs : a.eval s = .slice ao n cap) (hown : Om w base ao n cap l)
    (b : UInt8) (sb : Nat) (hx : a.eval x = .slice (some ⟨sb, 0, none⟩) 1 1) (hb : w.cell? ⟨sb, 0, none⟩ = some (bv b))
    (hsum : n ≤ 1000) (hbase : base ≤ w.heap.size)
    (h : ∀ ao' cap' w', Om w' base ao' (n + 1) cap' (l ++ [b]) → w.grownBy w' (blk ao) → wpList Tryz.prog ops Q rest (a.put o.dst (.slice ao' (n + 1) cap')) w') : wpList Tryz.prog ops Q (o :: rest) a w := by
  obtain ⟨ro', rc', w', hr, h2, h3⟩ := append_om w base ao n cap l hown b sb hb hsum hbase
  refine wpList_step (fun K hK => ?_)
  rw [if_pos (by simp [Region.wanted, hgd])]
  unfold Oper.wp
  simp only [execOp, ho, resolve, invoke, builtin, Sem.run_bind, Sem.run_pure, Result.andThen_ok, List.map_toArray, List.map_cons, List.map_nil, hs, hx, ht, hr]
  exact hK _ _ (h _ _ _ h2 h3)

/-- '[]byte(s)'. -/
theorem Om.conv (w : World) (s : ByteArray) (hs : s.size ≤ maxLen) : Om (w.drew.alloc (.cells (bytesRow s (grownCap w s.size 0 5)) 5 ((bytesRow s (grownCap w s.size 0 5)).size, (bytesRow s (grownCap w s.size 0 5)).size + 1))) w.heap.size (some ⟨w.heap.size, 0, none⟩) s.size (grownCap w s.size 0 5) s.data.toList := by
  have hge := grownCap_ge w s.size 0 5
  have hcm2 : grownCap w s.size 0 5 ≤ maxLen := grownCap_le_maxLen w s.size 0 5 hs
  have hsz : (bytesRow s (grownCap w s.size 0 5)).size = grownCap w s.size 0 5 := by
    unfold bytesRow
    have : s.data.size = s.size := rfl
    simp
    omega
  refine ⟨rfl, hge, hcm2, w.heap.size, _, _, rfl, Nat.le_refl _, heap_alloc_new w.drew _, .inr (by rw [hsz]; exact Nat.le_refl _), hsz, ?_⟩
  unfold bytesRow
  rw [Array.toList_append, List.take_left' (by simp)]
  simp [bv]
end Go.Proofs.YtlghcboenkglnaaGreatDoor
