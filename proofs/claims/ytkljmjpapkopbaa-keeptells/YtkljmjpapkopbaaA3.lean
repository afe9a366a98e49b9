/-
  Why a piece may go, of each piece: the program's reasons.
-/
import Derived.Test.YtkljmjpapkopbaaA2
namespace Go.Proofs.Ytkljmjpapkopbaa
open Go.RowKit
set_option linter.unusedVariables false

/-- Why a piece may go, if these are behind it. -/
def whyR (r : Ru) (now : Int) (p : Pc) : List Pc → Nat
  | [] => 4
  | q :: t => if r.bel < q.b then 5 else if 0 < r.by' ∧ r.by' ≤ sumB (q :: t) then 1 else if 0 < r.age ∧ r.age < now - p.t then 2 else if 0 < r.pcs ∧ r.pcs ≤ ((q :: t).length : Int) then 3 else 0
def whysR (r : Ru) (now : Int) : List Pc → List Nat
  | [] => []
  | p :: t => whyR r now p t :: whysR r now t
/-- How many go. -/
def goesR (r : Ru) (now : Int) : List Pc → Nat
  | [] => 0
  | p :: t => if goB (whyR r now p t) = true then goesR r now t + 1 else 0
def wv (x : Nat) : Value := .int .i64 (x : Int)
theorem whysR_len (r : Ru) (now : Int) : ∀ l, (whysR r now l).length = l.length
  | [] => rfl
  | p :: t => by simp [whysR, whysR_len r now t]
/-- The row of reasons, k of which are still to come. -/
def rowW (r : Ru) (now : Int) (l : List Pc) (k : Nat) : List Value := List.replicate k (.int .i64 0) ++ (whysR r now (l.drop k)).map wv
theorem rowW_set {r : Ru} {now : Int} {l : List Pc} {k : Nat} {p : Pc} (h : l[k]? = some p) : (rowW r now l (k + 1)).set k (wv (whyR r now p (l.drop (k + 1)))) = rowW r now l k := by
  unfold rowW
  rw [drop_cons h, whysR, List.set_append_left _ _ (by simp), List.replicate_succ', List.set_append_right _ _ (by simp)]
  simp
theorem rowW_cell {r : Ru} {now : Int} {l : List Pc} {k : Nat} : (rowW r now l (k + 1))[k]? = some (.int .i64 0) := by
  unfold rowW
  rw [List.getElem?_append_left (by simp)]
  simp
theorem Try.info33 : (Try.prog.info? 33).map (fun i => (i.zero, i.size, i.bytes)) = some (some (.int .i64 0), 1, 8) := by kernel_rfl
/-- A rule in its box. -/
def Rb (w : World) (b : Nat) (r : Ru) : Prop := w.heap[b]? = some (.cells #[.int .i64 r.by', .int .i64 r.age, .int .i64 r.pcs, .int .i64 r.bel] 23)
theorem Rb.chg {w w' : World} {b : Nat} {r : Ru} {S : Nat → Prop} (h : Rb w b r) (hc : Chg w w' S) (hn : ¬ S b) : Rb w' b r := (hc.block b (lt_of_heap h) hn).trans h
theorem Rb.grown {w w' : World} {b : Nat} {r : Ru} (h : Rb w b r) (hg : w.grownBy w' none) : Rb w' b r := h.chg (Chg.of_grown hg (fun _ => False)) (fun e => e)
theorem Rb.cs {w : World} {b : Nat} {r : Ru} (h : Rb w b r) : w.cell? ⟨b, 0, none⟩ = some (.int .i64 r.by') ∧ w.cell? ⟨b, 1, none⟩ = some (.int .i64 r.age) ∧ w.cell? ⟨b, 2, none⟩ = some (.int .i64 r.pcs) ∧ w.cell? ⟨b, 3, none⟩ = some (.int .i64 r.bel) := ⟨cell_of h rfl, cell_of h rfl, cell_of h rfl, cell_of h rfl⟩
/-- How it stands in the midst of the row: k are still to come. -/
structure At (w wr : World) (bx g : Nat) (r : Ru) (now : Int) (pb po n : Nat) (l : List Pc) (k : Nat) : Prop where
  box : Rb wr bx r
  row : Ro wr g 33 (rowW r now l k)
  ps : ∀ j p, l[j]? = some p → wr.cell? ⟨pb, po + j * 3, none⟩ = some (.int .i64 p.b) ∧ wr.cell? ⟨pb, po + j * 3 + 1, none⟩ = some (.int .i64 p.n) ∧ wr.cell? ⟨pb, po + j * 3 + 2, none⟩ = some (.int .i64 p.t)
  gr : w.grownBy wr none
  hb : bx < g
  hp : pb < g
  hw : w.heap.size ≤ g
theorem At.grown {w wr w2 : World} {bx g : Nat} {r : Ru} {now : Int} {pb po n : Nat} {l : List Pc} {k : Nat} (h : At w wr bx g r now pb po n l k) (hg : wr.grownBy w2 none) : At w w2 bx g r now pb po n l k :=
  ⟨h.box.grown hg, h.row.grown hg, fun j p hj => by
    obtain ⟨a, b, c⟩ := h.ps j p hj
    exact ⟨hg.cell a (by simp), hg.cell b (by simp), hg.cell c (by simp)⟩, grown_trans h.gr hg (by simp), h.hb, h.hp, h.hw⟩
theorem At.set {w wr : World} {bx g : Nat} {r : Ru} {now : Int} {pb po n : Nat} {l : List Pc} {k : Nat} {p : Pc} (h : At w wr bx g r now pb po n l (k + 1)) (hp : l[k]? = some p) {c : Nat} (hc : whyR r now p (l.drop (k + 1)) = c) :
    At w (wr.setCell ⟨g, k, none⟩ (.int .i64 (c : Int))) bx g r now pb po n l k := by
  obtain ⟨hR, hC⟩ := h.row.set k (.int .i64 (c : Int))
  have h9 := rowW_set (r := r) (now := now) hp
  rw [hc] at h9
  have hb := h.hb
  have hpb := h.hp
  have hw := h.hw
  refine ⟨h.box.chg hC (by show ¬ bx = g; omega), ?_, fun j q hj => ?_, ((Chg.of_grown h.gr _).trans hC).grown (fun q hq e => by show False; change q = g at e; omega), hb, hpb, hw⟩
  · rw [show (Value.int .i64 (c : Int)) = wv c from rfl, h9] at hR
    exact hR
  · obtain ⟨a, b, c⟩ := h.ps j q hj
    exact ⟨hC.cell a (by show ¬ pb = g; omega), hC.cell b (by show ¬ pb = g; omega), hC.cell c (by show ¬ pb = g; omega)⟩

set_option maxRecDepth 100000 in
set_option maxHeartbeats 4000000 in
theorem reasons_any {w : World} (r : Ru) (now : Int) (so : Option Addr) (n sc : Nat) (l : List Pc) (hP : Ps w so n l) (hn : n ≤ 4096) (hmay : ∀ p ∈ l, p.may = true) (hr : r.ok = true) (hnow : inB now 9007199254740992 = true) :
    Calls Try.prog 25 #[r.val, .int .i64 now, .slice so n sc] w fun e w' => ∃ g, e = .returned (.slice (some ⟨g, 0, none⟩) n n) ∧ Ro w' g 33 ((whysR r now l).map wv) ∧ w.heap.size ≤ g ∧ w.grownBy w' none := by
  have hlen := hP.len
  have ga := alloc_grown w (.cells #[.int .i64 r.by', .int .i64 r.age, .int .i64 r.pcs, .int .i64 r.bel] 23)
  have hbx : Rb (w.alloc (.cells #[.int .i64 r.by', .int .i64 r.age, .int .i64 r.pcs, .int .i64 r.bel] 23)) w.heap.size r := heap_alloc_new w _
  obtain ⟨n0, n1⟩ := inB_yes hnow
  obtain ⟨b0, b1, a0, a1, q0, q1, e0, e1⟩ := ok_yes hr
  unfold Ru.val
  clear hr hnow
  have hn5 : n ≤ 5000 := by omega
  go_enter Try.func25, Try.ntmps25
  go_wp2_with (at_make; refine wpList_make_ro _ rfl _ _ 55 rfl 33 (.int .i64 0) 8 Try.underlying55 Try.info33 rfl (by decide) n rfl rfl rfl rfl hn5 ?_)
  intro w2 hro hg2 hsz2
  have hgw : w.heap.size < w.heap.size + 1 := Nat.lt_succ_self _
  have hbx2 := hbx.grown hg2
  have hG2 := grown_trans ga hg2 (by simp)
  clear ga hg2 hbx hsz2
  generalize w.heap.size + 1 = g at *
  by_cases hz : n = 0
  · subst hz
    obtain rfl : l = [] := List.length_eq_zero_iff.1 hlen
    go_wp2_with fail
    go_loopw [8, 9, 10] (fun v8 v9 v10 wr => v10 = .int .i64 (-1) ∧ wr = w2) (fun _ _ _ _ => 0)
    case atStart => exact ⟨rfl, rfl⟩
    case round =>
      obtain ⟨rfl, rfl⟩ := hrel
      go_wp2
      go_ret
      exact ⟨g, rfl, hro, by omega, hG2⟩
  obtain ⟨pb, po, rfl, hcs⟩ := hP.pl (by omega)
  have hpl : pb < w.heap.size := by
    obtain ⟨p, hp⟩ : ∃ p, l[0]? = some p := ⟨_, List.getElem?_eq_getElem (by omega)⟩
    exact World.block_lt_of_cell? w _ (hcs 0 p hp).1
  have hAt : At w w2 w.heap.size g r now pb po n l n := ⟨hbx2, by unfold rowW; rw [List.drop_eq_nil_of_le (by omega)]; simpa [whysR] using hro, fun j p hj => by
    obtain ⟨a, b, c⟩ := hcs j p hj
    exact ⟨hG2.cell a (by simp), hG2.cell b (by simp), hG2.cell c (by simp)⟩, hG2, hgw, by omega, by omega⟩
  clear hbx2 hro hcs hG2 hP
  generalize hbxe : w.heap.size = bx at *
  have hn1 : ((n : Int)) - 1 + 1 = (n : Int) := by omega
  go_wp2_with fail
  go_loopw [8, 9, 10] (fun v8 v9 v10 wr => ∃ (k m : Nat) (z s : Int), v10 = .int .i64 z ∧ v9 = .int .i64 m ∧ v8 = .int .i64 s ∧ Hid (z + 1 = (k : Int)) ∧ Hid (m + k = n) ∧ Hid (s = sumB (l.drop k)) ∧ At w wr bx g r now pb po n l k) (fun _ _ v10 _ => (intOf v10 + 1).toNat)
  case atStart => exact ⟨n, 0, (n : Int) - 1, 0, by go_num, rfl, rfl, hn1, Nat.zero_add n, (by rw [List.drop_eq_nil_of_le (by omega)]; rfl : (0 : Int) = _), hAt⟩
  case round =>
    obtain ⟨k, m, z, s, rfl, rfl, rfl, hz1, hmk, hs, hA⟩ := hrel
    clear hAt hn1
    cases k with
    | zero =>
      obtain rfl : z = -1 := by have := hz1.out; omega
      have hR : Ro wr g 33 ((whysR r now l).map wv) := by simpa [rowW] using hA.row
      have hG := hA.gr
      have hgl := hA.hw
      clear hz1 hmk hs hA
      go_wp2
      go_ret
      exact ⟨g, rfl, hR, hgl, hG⟩
    | succ k =>
      obtain rfl : z = (k : Int) := by have := hz1.out; omega
      clear hz1
      have hkn : k < n := by have := hmk.out; omega
      obtain ⟨p, hp⟩ : ∃ p, l[k]? = some p := ⟨_, List.getElem?_eq_getElem (by omega)⟩
      have hpm := may_yes (hmay p (List.mem_of_getElem? hp))
      have i0 : (0 : Int) ≤ (k : Int) := by omega
      have i1 : (k : Int) < (n : Int) := by omega
      have d0 : decide ((0 : Int) ≤ (k : Int)) = true := by simp
      have hsb := sumB_le (l := l.drop (k + 1)) fun q hq => hmay q (List.mem_of_mem_drop hq)
      have hdl : (l.drop (k + 1)).length = m := by have := hmk.out; simp; omega
      have s0 : 0 ≤ s := by have := hs.out; omega
      have s1 : s ≤ 16777216 * 4096 := by have := hs.out; have := hmk.out; omega
      have m1 : m ≤ 4096 := by have := hmk.out; omega
      have p0 : 0 ≤ p.n := hpm.2.2.1
      have p1 : p.n ≤ 16777216 := hpm.2.2.2.1
      have t0 : 0 ≤ p.t := hpm.2.2.2.2.1
      have t1 : p.t ≤ 9007199254740992 := hpm.2.2.2.2.2
      have hs2 : Hid (s + p.n = sumB (l.drop k)) := by show _ = _; rw [drop_cons hp, hs.out]; simp only [sumB]; omega
      have hmk2 : Hid (m + 1 + k = n) := by show _ = _; have := hmk.out; omega
      clear hsb hpm
      by_cases hm0 : m = 0
      · subst hm0
        have hW : Hid (whyR r now p (l.drop (k + 1)) = 4) := by show _ = _; rw [List.length_eq_zero_iff.1 hdl]; rfl
        obtain ⟨x0, x1, x2, x3⟩ := hA.box.cs
        obtain ⟨y0, y1, y2⟩ := hA.ps k p hp
        have rc : wr.cell? ⟨g, k, none⟩ = some (.int .i64 0) := by rw [hA.row.cell]; exact rowW_cell
        have rf := hA.row.frozen k
        have hS := hA.set hp hW.out
        have yz : (wr.setCell ⟨g, k, none⟩ (.int .i64 4)).cell? ⟨pb, po + k * 3 + 1, none⟩ = some (.int .i64 p.n) := (hS.ps k p hp).2.1
        clear hW hA hp hs hmk hdl
        go_wp2
        go_roundw
        case rel => exact ⟨k, 0 + 1, (k : Int) - 1, s + p.n, by go_num, by go_num, by go_num, (by omega : (k : Int) - 1 + 1 = (k : Int)), hmk2, hs2, hS⟩
        case measure => simp [intOf]
      · have dm : ((m : Int) == 0) = false := by simp; omega
        obtain ⟨q, hq⟩ : ∃ q, l[k + 1]? = some q := ⟨_, List.getElem?_eq_getElem (by have := hmk.out; omega)⟩
        have hW0 : Hid (whyR r now p (l.drop (k + 1)) = if r.bel < q.b then 5 else if 0 < r.by' ∧ r.by' ≤ s then 1 else if 0 < r.age ∧ r.age < now - p.t then 2 else if 0 < r.pcs ∧ r.pcs ≤ (m : Int) then 3 else 0) := by
          show _ = _
          rw [hs.out, ← hdl, drop_cons hq]; rfl
        obtain ⟨K1, hK1, hK2⟩ : ∃ K1 : Nat, (k : Int) + 1 = (K1 : Int) ∧ Hid (K1 = k + 1) := ⟨k + 1, by omega, rfl⟩
        have j0 : (0 : Int) ≤ (K1 : Int) := by omega
        have j1 : (K1 : Int) < (n : Int) := by have := hmk.out; have := hK2.out; omega
        obtain ⟨x0, x1, x2, x3⟩ := hA.box.cs
        obtain ⟨y0, y1, y2⟩ := hA.ps k p hp
        have rc : wr.cell? ⟨g, k, none⟩ = some (.int .i64 0) := by rw [hA.row.cell]; exact rowW_cell
        have rf := hA.row.frozen k
        have v0 : wr.cell? ⟨pb, po + K1 * 3, none⟩ = some (.int .i64 q.b) := by rw [hK2.out]; exact (hA.ps (k + 1) q hq).1
        clear hdl hK2
        by_cases h5 : r.bel < q.b
        · have d5 : decide (r.bel < q.b) = true := by simpa using h5
          have hW : Hid (whyR r now p (l.drop (k + 1)) = 5) := by show _ = _; rw [hW0.out, if_pos h5]
          clear hW0 h5 hq
          go_wp2_with fail
          go_quiet (fail)
          have hA1 := hA.grown (grown_drewN wr nq none)
          clear x0 x1 x2 x3 y0 y1 y2 rc rf v0 hA
          generalize wr.drewN nq = wa at *
          obtain ⟨x01, x11, x21, x31⟩ := hA1.box.cs
          obtain ⟨y01, y11, y21⟩ := hA1.ps k p hp
          have rc1 : wa.cell? ⟨g, k, none⟩ = some (.int .i64 0) := by rw [hA1.row.cell]; exact rowW_cell
          have rf1 := hA1.row.frozen k
          have hS := hA1.set hp hW.out
          have yz : (wa.setCell ⟨g, k, none⟩ (.int .i64 5)).cell? ⟨pb, po + k * 3 + 1, none⟩ = some (.int .i64 p.n) := (hS.ps k p hp).2.1
          clear hW hA1 hp hs hmk
          go_wp2
          go_roundw
          case rel => exact ⟨k, m + 1, (k : Int) - 1, s + p.n, by go_num, by go_num, by go_num, (by omega : (k : Int) - 1 + 1 = (k : Int)), hmk2, hs2, hS⟩
          case measure => simp [intOf]
        have d5 : decide (r.bel < q.b) = false := by simpa using h5
        have hW1 : Hid (whyR r now p (l.drop (k + 1)) = if 0 < r.by' ∧ r.by' ≤ s then 1 else if 0 < r.age ∧ r.age < now - p.t then 2 else if 0 < r.pcs ∧ r.pcs ≤ (m : Int) then 3 else 0) := by
          show _ = _; rw [hW0.out, if_neg h5]
        clear hW0 h5 hq
        go_wp2_with fail
        go_quiet (fail)
        have hA1 := hA.grown (grown_drewN wr nq none)
        clear x0 x1 x2 x3 y0 y1 y2 rc rf v0 hA
        generalize wr.drewN nq = wa at *
        obtain ⟨x01, x11, x21, x31⟩ := hA1.box.cs
        obtain ⟨y01, y11, y21⟩ := hA1.ps k p hp
        have rc1 : wa.cell? ⟨g, k, none⟩ = some (.int .i64 0) := by rw [hA1.row.cell]; exact rowW_cell
        have rf1 := hA1.row.frozen k
        by_cases h1 : 0 < r.by' ∧ r.by' ≤ s
        · have d1 : decide (0 < r.by') = true := by simpa using h1.1
          have d2 : decide (r.by' ≤ s) = true := by simpa using h1.2
          have hW : Hid (whyR r now p (l.drop (k + 1)) = 1) := by show _ = _; rw [hW1.out, if_pos h1]
          clear hW1 h1
          have hS := hA1.set hp hW.out
          have yz : (wa.setCell ⟨g, k, none⟩ (.int .i64 1)).cell? ⟨pb, po + k * 3 + 1, none⟩ = some (.int .i64 p.n) := (hS.ps k p hp).2.1
          clear hW hA1 hp hs hmk
          go_wp2
          go_roundw
          case rel => exact ⟨k, m + 1, (k : Int) - 1, s + p.n, by go_num, by go_num, by go_num, (by omega : (k : Int) - 1 + 1 = (k : Int)), hmk2, hs2, hS⟩
          case measure => simp [intOf]
        have hW2 : Hid (whyR r now p (l.drop (k + 1)) = if 0 < r.age ∧ r.age < now - p.t then 2 else if 0 < r.pcs ∧ r.pcs ≤ (m : Int) then 3 else 0) := by
          show _ = _; rw [hW1.out, if_neg h1]
        clear hW1
        have dB : ∃ B1 B2 : Bool, decide (0 < r.by') = B1 ∧ decide (r.by' ≤ s) = B2 ∧ (B1 = false ∨ B1 = true ∧ B2 = false) := by
          refine ⟨_, _, rfl, rfl, ?_⟩
          by_cases h9 : 0 < r.by'
          · right; simp [h9] at h1 ⊢; omega
          · left; simpa using h9
        obtain ⟨B1, B2, d1, d2, dB⟩ := dB
        clear h1
        rcases dB with rfl | ⟨rfl, rfl⟩
        · by_cases h2 : 0 < r.age ∧ r.age < now - p.t
          · have d3 : decide (0 < r.age) = true := by simpa using h2.1
            have d4 : decide (r.age < now - p.t) = true := by simpa using h2.2
            have hW : Hid (whyR r now p (l.drop (k + 1)) = 2) := by show _ = _; rw [hW2.out, if_pos h2]
            clear hW2 h2
            go_wp2_with fail
            go_quiet (fail)
            have hA2 := hA1.grown (grown_drewN wa nq none)
            clear x01 x11 x21 x31 y01 y11 y21 rc1 rf1 hA1
            generalize wa.drewN nq = wb at *
            obtain ⟨x02, x12, x22, x32⟩ := hA2.box.cs
            obtain ⟨y02, y12, y22⟩ := hA2.ps k p hp
            have rc2 : wb.cell? ⟨g, k, none⟩ = some (.int .i64 0) := by rw [hA2.row.cell]; exact rowW_cell
            have rf2 := hA2.row.frozen k
            have hS := hA2.set hp hW.out
            have yz : (wb.setCell ⟨g, k, none⟩ (.int .i64 2)).cell? ⟨pb, po + k * 3 + 1, none⟩ = some (.int .i64 p.n) := (hS.ps k p hp).2.1
            clear hW hA2 hp hs hmk
            go_wp2
            go_roundw
            case rel => exact ⟨k, m + 1, (k : Int) - 1, s + p.n, by go_num, by go_num, by go_num, (by omega : (k : Int) - 1 + 1 = (k : Int)), hmk2, hs2, hS⟩
            case measure => simp [intOf]
          have hW3 : Hid (whyR r now p (l.drop (k + 1)) = if 0 < r.pcs ∧ r.pcs ≤ (m : Int) then 3 else 0) := by
            show _ = _; rw [hW2.out, if_neg h2]
          clear hW2
          have dB : ∃ B3 B4 : Bool, decide (0 < r.age) = B3 ∧ decide (r.age < now - p.t) = B4 ∧ (B3 = false ∨ B3 = true ∧ B4 = false) := by
            refine ⟨_, _, rfl, rfl, ?_⟩
            by_cases h9 : 0 < r.age
            · right; simp [h9] at h2 ⊢; omega
            · left; simpa using h9
          obtain ⟨B3, B4, d3, d4, dB⟩ := dB
          clear h2
          rcases dB with rfl | ⟨rfl, rfl⟩
          · go_wp2_with fail
            go_quiet (fail)
            have hA2 := hA1.grown (grown_drewN wa nq none)
            clear x01 x11 x21 x31 y01 y11 y21 rc1 rf1 hA1
            generalize wa.drewN nq = wb at *
            obtain ⟨x02, x12, x22, x32⟩ := hA2.box.cs
            obtain ⟨y02, y12, y22⟩ := hA2.ps k p hp
            have rc2 : wb.cell? ⟨g, k, none⟩ = some (.int .i64 0) := by rw [hA2.row.cell]; exact rowW_cell
            have rf2 := hA2.row.frozen k
            by_cases h3 : 0 < r.pcs ∧ r.pcs ≤ (m : Int)
            · have d6 : decide (0 < r.pcs) = true := by simpa using h3.1
              have d7 : decide (r.pcs ≤ (m : Int)) = true := by simpa using h3.2
              have hW : Hid (whyR r now p (l.drop (k + 1)) = 3) := by show _ = _; rw [hW3.out, if_pos h3]
              clear hW3 h3
              have hS := hA2.set hp hW.out
              have yz : (wb.setCell ⟨g, k, none⟩ (.int .i64 3)).cell? ⟨pb, po + k * 3 + 1, none⟩ = some (.int .i64 p.n) := (hS.ps k p hp).2.1
              clear hW hA2 hp hs hmk
              go_wp2
              go_roundw
              case rel => exact ⟨k, m + 1, (k : Int) - 1, s + p.n, by go_num, by go_num, by go_num, (by omega : (k : Int) - 1 + 1 = (k : Int)), hmk2, hs2, hS⟩
              case measure => simp [intOf]
            have hW : Hid (whyR r now p (l.drop (k + 1)) = 0) := by show _ = _; rw [hW3.out, if_neg h3]
            clear hW3
            have dB : ∃ B6 B7 : Bool, decide (0 < r.pcs) = B6 ∧ decide (r.pcs ≤ (m : Int)) = B7 ∧ (B6 = false ∨ B6 = true ∧ B7 = false) := by
              refine ⟨_, _, rfl, rfl, ?_⟩
              by_cases h9 : 0 < r.pcs
              · right; simp [h9] at h3 ⊢; omega
              · left; simpa using h9
            obtain ⟨B6, B7, d6, d7, dB⟩ := dB
            clear h3
            rcases dB with rfl | ⟨rfl, rfl⟩
            · have hS := hA2.set hp hW.out
              have yz : (wb.setCell ⟨g, k, none⟩ (.int .i64 0)).cell? ⟨pb, po + k * 3 + 1, none⟩ = some (.int .i64 p.n) := (hS.ps k p hp).2.1
              clear hW hA2 hp hs hmk
              go_wp2
              go_roundw
              case rel => exact ⟨k, m + 1, (k : Int) - 1, s + p.n, by go_num, by go_num, by go_num, (by omega : (k : Int) - 1 + 1 = (k : Int)), hmk2, hs2, hS⟩
              case measure => simp [intOf]
            · have hS := hA2.set hp hW.out
              have yz : (wb.setCell ⟨g, k, none⟩ (.int .i64 0)).cell? ⟨pb, po + k * 3 + 1, none⟩ = some (.int .i64 p.n) := (hS.ps k p hp).2.1
              clear hW hA2 hp hs hmk
              go_wp2
              go_roundw
              case rel => exact ⟨k, m + 1, (k : Int) - 1, s + p.n, by go_num, by go_num, by go_num, (by omega : (k : Int) - 1 + 1 = (k : Int)), hmk2, hs2, hS⟩
              case measure => simp [intOf]
          · go_wp2_with fail
            go_quiet (fail)
            have hA2 := hA1.grown (grown_drewN wa nq none)
            clear x01 x11 x21 x31 y01 y11 y21 rc1 rf1 hA1
            generalize wa.drewN nq = wb at *
            obtain ⟨x02, x12, x22, x32⟩ := hA2.box.cs
            obtain ⟨y02, y12, y22⟩ := hA2.ps k p hp
            have rc2 : wb.cell? ⟨g, k, none⟩ = some (.int .i64 0) := by rw [hA2.row.cell]; exact rowW_cell
            have rf2 := hA2.row.frozen k
            by_cases h3 : 0 < r.pcs ∧ r.pcs ≤ (m : Int)
            · have d6 : decide (0 < r.pcs) = true := by simpa using h3.1
              have d7 : decide (r.pcs ≤ (m : Int)) = true := by simpa using h3.2
              have hW : Hid (whyR r now p (l.drop (k + 1)) = 3) := by show _ = _; rw [hW3.out, if_pos h3]
              clear hW3 h3
              have hS := hA2.set hp hW.out
              have yz : (wb.setCell ⟨g, k, none⟩ (.int .i64 3)).cell? ⟨pb, po + k * 3 + 1, none⟩ = some (.int .i64 p.n) := (hS.ps k p hp).2.1
              clear hW hA2 hp hs hmk
              go_wp2
              go_roundw
              case rel => exact ⟨k, m + 1, (k : Int) - 1, s + p.n, by go_num, by go_num, by go_num, (by omega : (k : Int) - 1 + 1 = (k : Int)), hmk2, hs2, hS⟩
              case measure => simp [intOf]
            have hW : Hid (whyR r now p (l.drop (k + 1)) = 0) := by show _ = _; rw [hW3.out, if_neg h3]
            clear hW3
            have dB : ∃ B6 B7 : Bool, decide (0 < r.pcs) = B6 ∧ decide (r.pcs ≤ (m : Int)) = B7 ∧ (B6 = false ∨ B6 = true ∧ B7 = false) := by
              refine ⟨_, _, rfl, rfl, ?_⟩
              by_cases h9 : 0 < r.pcs
              · right; simp [h9] at h3 ⊢; omega
              · left; simpa using h9
            obtain ⟨B6, B7, d6, d7, dB⟩ := dB
            clear h3
            rcases dB with rfl | ⟨rfl, rfl⟩
            · have hS := hA2.set hp hW.out
              have yz : (wb.setCell ⟨g, k, none⟩ (.int .i64 0)).cell? ⟨pb, po + k * 3 + 1, none⟩ = some (.int .i64 p.n) := (hS.ps k p hp).2.1
              clear hW hA2 hp hs hmk
              go_wp2
              go_roundw
              case rel => exact ⟨k, m + 1, (k : Int) - 1, s + p.n, by go_num, by go_num, by go_num, (by omega : (k : Int) - 1 + 1 = (k : Int)), hmk2, hs2, hS⟩
              case measure => simp [intOf]
            · have hS := hA2.set hp hW.out
              have yz : (wb.setCell ⟨g, k, none⟩ (.int .i64 0)).cell? ⟨pb, po + k * 3 + 1, none⟩ = some (.int .i64 p.n) := (hS.ps k p hp).2.1
              clear hW hA2 hp hs hmk
              go_wp2
              go_roundw
              case rel => exact ⟨k, m + 1, (k : Int) - 1, s + p.n, by go_num, by go_num, by go_num, (by omega : (k : Int) - 1 + 1 = (k : Int)), hmk2, hs2, hS⟩
              case measure => simp [intOf]
        · by_cases h2 : 0 < r.age ∧ r.age < now - p.t
          · have d3 : decide (0 < r.age) = true := by simpa using h2.1
            have d4 : decide (r.age < now - p.t) = true := by simpa using h2.2
            have hW : Hid (whyR r now p (l.drop (k + 1)) = 2) := by show _ = _; rw [hW2.out, if_pos h2]
            clear hW2 h2
            go_wp2_with fail
            go_quiet (fail)
            have hA2 := hA1.grown (grown_drewN wa nq none)
            clear x01 x11 x21 x31 y01 y11 y21 rc1 rf1 hA1
            generalize wa.drewN nq = wb at *
            obtain ⟨x02, x12, x22, x32⟩ := hA2.box.cs
            obtain ⟨y02, y12, y22⟩ := hA2.ps k p hp
            have rc2 : wb.cell? ⟨g, k, none⟩ = some (.int .i64 0) := by rw [hA2.row.cell]; exact rowW_cell
            have rf2 := hA2.row.frozen k
            have hS := hA2.set hp hW.out
            have yz : (wb.setCell ⟨g, k, none⟩ (.int .i64 2)).cell? ⟨pb, po + k * 3 + 1, none⟩ = some (.int .i64 p.n) := (hS.ps k p hp).2.1
            clear hW hA2 hp hs hmk
            go_wp2
            go_roundw
            case rel => exact ⟨k, m + 1, (k : Int) - 1, s + p.n, by go_num, by go_num, by go_num, (by omega : (k : Int) - 1 + 1 = (k : Int)), hmk2, hs2, hS⟩
            case measure => simp [intOf]
          have hW3 : Hid (whyR r now p (l.drop (k + 1)) = if 0 < r.pcs ∧ r.pcs ≤ (m : Int) then 3 else 0) := by
            show _ = _; rw [hW2.out, if_neg h2]
          clear hW2
          have dB : ∃ B3 B4 : Bool, decide (0 < r.age) = B3 ∧ decide (r.age < now - p.t) = B4 ∧ (B3 = false ∨ B3 = true ∧ B4 = false) := by
            refine ⟨_, _, rfl, rfl, ?_⟩
            by_cases h9 : 0 < r.age
            · right; simp [h9] at h2 ⊢; omega
            · left; simpa using h9
          obtain ⟨B3, B4, d3, d4, dB⟩ := dB
          clear h2
          rcases dB with rfl | ⟨rfl, rfl⟩
          · go_wp2_with fail
            go_quiet (fail)
            have hA2 := hA1.grown (grown_drewN wa nq none)
            clear x01 x11 x21 x31 y01 y11 y21 rc1 rf1 hA1
            generalize wa.drewN nq = wb at *
            obtain ⟨x02, x12, x22, x32⟩ := hA2.box.cs
            obtain ⟨y02, y12, y22⟩ := hA2.ps k p hp
            have rc2 : wb.cell? ⟨g, k, none⟩ = some (.int .i64 0) := by rw [hA2.row.cell]; exact rowW_cell
            have rf2 := hA2.row.frozen k
            by_cases h3 : 0 < r.pcs ∧ r.pcs ≤ (m : Int)
            · have d6 : decide (0 < r.pcs) = true := by simpa using h3.1
              have d7 : decide (r.pcs ≤ (m : Int)) = true := by simpa using h3.2
              have hW : Hid (whyR r now p (l.drop (k + 1)) = 3) := by show _ = _; rw [hW3.out, if_pos h3]
              clear hW3 h3
              have hS := hA2.set hp hW.out
              have yz : (wb.setCell ⟨g, k, none⟩ (.int .i64 3)).cell? ⟨pb, po + k * 3 + 1, none⟩ = some (.int .i64 p.n) := (hS.ps k p hp).2.1
              clear hW hA2 hp hs hmk
              go_wp2
              go_roundw
              case rel => exact ⟨k, m + 1, (k : Int) - 1, s + p.n, by go_num, by go_num, by go_num, (by omega : (k : Int) - 1 + 1 = (k : Int)), hmk2, hs2, hS⟩
              case measure => simp [intOf]
            have hW : Hid (whyR r now p (l.drop (k + 1)) = 0) := by show _ = _; rw [hW3.out, if_neg h3]
            clear hW3
            have dB : ∃ B6 B7 : Bool, decide (0 < r.pcs) = B6 ∧ decide (r.pcs ≤ (m : Int)) = B7 ∧ (B6 = false ∨ B6 = true ∧ B7 = false) := by
              refine ⟨_, _, rfl, rfl, ?_⟩
              by_cases h9 : 0 < r.pcs
              · right; simp [h9] at h3 ⊢; omega
              · left; simpa using h9
            obtain ⟨B6, B7, d6, d7, dB⟩ := dB
            clear h3
            rcases dB with rfl | ⟨rfl, rfl⟩
            · have hS := hA2.set hp hW.out
              have yz : (wb.setCell ⟨g, k, none⟩ (.int .i64 0)).cell? ⟨pb, po + k * 3 + 1, none⟩ = some (.int .i64 p.n) := (hS.ps k p hp).2.1
              clear hW hA2 hp hs hmk
              go_wp2
              go_roundw
              case rel => exact ⟨k, m + 1, (k : Int) - 1, s + p.n, by go_num, by go_num, by go_num, (by omega : (k : Int) - 1 + 1 = (k : Int)), hmk2, hs2, hS⟩
              case measure => simp [intOf]
            · have hS := hA2.set hp hW.out
              have yz : (wb.setCell ⟨g, k, none⟩ (.int .i64 0)).cell? ⟨pb, po + k * 3 + 1, none⟩ = some (.int .i64 p.n) := (hS.ps k p hp).2.1
              clear hW hA2 hp hs hmk
              go_wp2
              go_roundw
              case rel => exact ⟨k, m + 1, (k : Int) - 1, s + p.n, by go_num, by go_num, by go_num, (by omega : (k : Int) - 1 + 1 = (k : Int)), hmk2, hs2, hS⟩
              case measure => simp [intOf]
          · go_wp2_with fail
            go_quiet (fail)
            have hA2 := hA1.grown (grown_drewN wa nq none)
            clear x01 x11 x21 x31 y01 y11 y21 rc1 rf1 hA1
            generalize wa.drewN nq = wb at *
            obtain ⟨x02, x12, x22, x32⟩ := hA2.box.cs
            obtain ⟨y02, y12, y22⟩ := hA2.ps k p hp
            have rc2 : wb.cell? ⟨g, k, none⟩ = some (.int .i64 0) := by rw [hA2.row.cell]; exact rowW_cell
            have rf2 := hA2.row.frozen k
            by_cases h3 : 0 < r.pcs ∧ r.pcs ≤ (m : Int)
            · have d6 : decide (0 < r.pcs) = true := by simpa using h3.1
              have d7 : decide (r.pcs ≤ (m : Int)) = true := by simpa using h3.2
              have hW : Hid (whyR r now p (l.drop (k + 1)) = 3) := by show _ = _; rw [hW3.out, if_pos h3]
              clear hW3 h3
              have hS := hA2.set hp hW.out
              have yz : (wb.setCell ⟨g, k, none⟩ (.int .i64 3)).cell? ⟨pb, po + k * 3 + 1, none⟩ = some (.int .i64 p.n) := (hS.ps k p hp).2.1
              clear hW hA2 hp hs hmk
              go_wp2
              go_roundw
              case rel => exact ⟨k, m + 1, (k : Int) - 1, s + p.n, by go_num, by go_num, by go_num, (by omega : (k : Int) - 1 + 1 = (k : Int)), hmk2, hs2, hS⟩
              case measure => simp [intOf]
            have hW : Hid (whyR r now p (l.drop (k + 1)) = 0) := by show _ = _; rw [hW3.out, if_neg h3]
            clear hW3
            have dB : ∃ B6 B7 : Bool, decide (0 < r.pcs) = B6 ∧ decide (r.pcs ≤ (m : Int)) = B7 ∧ (B6 = false ∨ B6 = true ∧ B7 = false) := by
              refine ⟨_, _, rfl, rfl, ?_⟩
              by_cases h9 : 0 < r.pcs
              · right; simp [h9] at h3 ⊢; omega
              · left; simpa using h9
            obtain ⟨B6, B7, d6, d7, dB⟩ := dB
            clear h3
            rcases dB with rfl | ⟨rfl, rfl⟩
            · have hS := hA2.set hp hW.out
              have yz : (wb.setCell ⟨g, k, none⟩ (.int .i64 0)).cell? ⟨pb, po + k * 3 + 1, none⟩ = some (.int .i64 p.n) := (hS.ps k p hp).2.1
              clear hW hA2 hp hs hmk
              go_wp2
              go_roundw
              case rel => exact ⟨k, m + 1, (k : Int) - 1, s + p.n, by go_num, by go_num, by go_num, (by omega : (k : Int) - 1 + 1 = (k : Int)), hmk2, hs2, hS⟩
              case measure => simp [intOf]
            · have hS := hA2.set hp hW.out
              have yz : (wb.setCell ⟨g, k, none⟩ (.int .i64 0)).cell? ⟨pb, po + k * 3 + 1, none⟩ = some (.int .i64 p.n) := (hS.ps k p hp).2.1
              clear hW hA2 hp hs hmk
              go_wp2
              go_roundw
              case rel => exact ⟨k, m + 1, (k : Int) - 1, s + p.n, by go_num, by go_num, by go_num, (by omega : (k : Int) - 1 + 1 = (k : Int)), hmk2, hs2, hS⟩
              case measure => simp [intOf]
end Go.Proofs.Ytkljmjpapkopbaa
