import Derived.Test.YtlghcboenkglnaaGreatDoorZai
import Derived.Test.YtlghcboenkglnaaGreatDoorZam
import Derived.Deep.RegionHeld3
import Derived.Deep.AppendLies
import Derived.Test.YtlghcboenkglnaaGreatDoorZag
import Derived.Test.YtlghcboenkglnaaGreatDoorZaj
/-
  Read, of a place where a whole batch stands: the walk.
-/
namespace Go.Proofs.YtlghcboenkglnaaGreatDoor.Rec
open Go.Proofs.YtlghcboenkglnaaGreatDoor
open Go.RowKit
set_option linter.unusedVariables false

/-- What a record says that was cut out of B at a place. -/
def Says (B : List UInt8) (i : Nat) (d : Dr) : Prop := d.1 = tAt B i ∧ d.2.1 = (B.drop (i + 12)).take (kAt B i) ∧ d.2.2 = (B.drop (i + 12 + kAt B i)).take (vAt B i)
set_option maxRecDepth 100000 in
set_option maxHeartbeats 4000000 in
theorem read_yes (w : World) (b o n cap i S : Nat) (L : List UInt8) (hb : Bs w (some ⟨b, o, none⟩) n cap L) (hi : i ≤ n) (hn : n ≤ 16777216) (hcap : cap ≤ 9223372036854775807) (hE : extR (L.drop i) = (S, 0)) (hiS : i + S ≤ n) (hW : Whole ((L.drop i).take S) S) :
    Calls Tryz.prog 145 #[.slice (some ⟨b, o, none⟩) n cap, .int .i64 i] w fun e w' => ∃ g base rs, e = .returned (.tuple #[.agg #[.int .i64 (bAt ((L.drop i).take S)), .slice (some ⟨g, 0, none⟩) (cAt ((L.drop i).take S)) (cAt ((L.drop i).take S))], .int .i64 S, .int .i64 0]) ∧ w.heap.size ≤ g ∧ g < base ∧ Rw w' g (some ⟨g, 0, none⟩) (cAt ((L.drop i).take S)) (cAt ((L.drop i).take S)) rs ∧ (∀ j d, (ds rs)[j]? = some d → Says ((L.drop i).take S) (posAt ((L.drop i).take S) j) d) ∧ (∀ r ∈ rs, Own w' base r) ∧ w.grownBy w' none := by
  have hroom := hb.room
  have hg0 := alloc_grown w (.cells #[.int .i64 0, .slice none 0 0] 54)
  have k0 := heap_alloc_new w (.cells #[.int .i64 0, .slice none 0 0] 54)
  have hfind := find_yes (w.alloc (.cells #[.int .i64 0, .slice none 0 0] 54)) b o n cap i S L (hb.grown hg0) hi hn hcap hE hiS hW
  have hlow := hW.low
  have htop := hW.top
  have hpos0 : 20 + 12 * cAt ((L.drop i).take S) ≤ S := by have := pos_ge ((L.drop i).take S) (cAt ((L.drop i).take S)); rw [hW.fin] at this; exact this
  have hins : ∀ j, j < cAt ((L.drop i).take S) → posAt ((L.drop i).take S) (j + 1) ≤ S := hW.ins
  have s0 : (w.alloc (.cells #[.int .i64 0, .slice none 0 0] 54)).heap.size = w.heap.size + 1 := by simp
  clear hW hE
  generalize ((L.drop i).take S) = B at *
  go_enter Tryz.func145, Tryz.ntmps145
  go_wp2_with fail
  generalize w.alloc (.cells #[.int .i64 0, .slice none 0 0] 54) = w0 at *
  refine hfind.mono ?_
  rintro e w1 ⟨base, ro, rc, cs, hba, rfl, hR, hCut, hg1⟩
  have hcl := hR.len
  have hkn : ∀ r ∈ cs, Rk w1 r ∧ r.kn ≤ 1048576 ∧ r.vn ≤ 1048576 := fun r hr => by
    obtain ⟨j, hj, hjr⟩ := List.getElem_of_mem hr
    have h9 := hCut j r (by rw [List.getElem?_eq_getElem hj, hjr])
    have hlj : posAt B (j + 1) ≤ S := hins j (by omega)
    have hpj : posAt B (j + 1) = posAt B j + 12 + kAt B (posAt B j) + vAt B (posAt B j) := rfl
    have e1 := h9.kn
    have e2 := h9.vn
    have k1 := h9.kb
    have k2 := h9.vb
    refine ⟨⟨?_, ?_, h9.key, h9.value, by omega, by omega⟩, by omega, by omega⟩
    · rw [h9.t]; unfold tAt wrap64; omega
    · rw [h9.t]; unfold tAt wrap64; omega
  have hRs := hR.shows (fun r hr => (hkn r hr).1)
  have hsay : ∀ j d, (ds cs)[j]? = some d → Says B (posAt B j) d := fun j d hd => by
    unfold ds at hd
    rw [List.getElem?_map] at hd
    cases hc : cs[j]? with
    | none => rw [hc] at hd; cases hd
    | some r =>
      rw [hc] at hd
      simp at hd
      subst hd
      have h9 := hCut j r hc
      exact ⟨h9.t, by rw [← h9.kn]; exact h9.k, by rw [← h9.kn, ← h9.vn]; exact h9.v⟩
  have ga := alloc_grown w1 (.cells #[.int .i64 (bAt B), .slice ro (cAt B) rc, .int .i64 S] 226)
  have k3 := heap_alloc_new w1 (.cells #[.int .i64 (bAt B), .slice ro (cAt B) rc, .int .i64 S] 226)
  have b0 := cell_of (i := 0) (v := .int .i64 (bAt B)) k3 rfl
  have b1 := cell_of (i := 1) (v := .slice ro (cAt B) rc) k3 rfl
  have b2 := cell_of (i := 2) (v := .int .i64 S) k3 rfl
  have hz1 := (hg1.block w.heap.size (by omega) (by simp)).trans k0
  have hs1 := hg1.size
  have hz2 := (ga.block w.heap.size (by omega) (by simp)).trans hz1
  have hRs2 := hRs.grown ga
  have hG2 := grown_trans (grown_trans hg0 hg1 (by simp)) ga (by simp)
  have hs2 : w.heap.size + 1 < (w1.alloc (.cells #[.int .i64 (bAt B), .slice ro (cAt B) rc, .int .i64 S] 226)).heap.size := by simp; omega
  have hzn : some w1.heap.size ≠ some w.heap.size := by simp; omega
  go_wp2_with fail
  clear k3 hz1 hR hCut hRs ga hfind hg1 hg0 k0
  generalize w1.alloc (.cells #[.int .i64 (bAt B), .slice ro (cAt B) rc, .int .i64 S] 226) = w2 at *
  generalize w1.heap.size = zw at *
  generalize hgz : w.heap.size = z at *
  have hcp : ∀ W, w2.grownBy W none → Calls Tryz.prog 124 #[.agg #[.int .i64 (bAt B), .slice ro (cAt B) rc, .int .i64 S]] W fun e w' => ∃ g base rs, e = .returned (.agg #[.int .i64 (bAt B), .slice (some ⟨g, 0, none⟩) (cAt B) (cAt B)]) ∧ W.heap.size ≤ g ∧ W.heap.size ≤ base ∧ Rw w' g (some ⟨g, 0, none⟩) (cAt B) (cAt B) rs ∧ ds rs = ds cs ∧ (∀ r ∈ rs, Own w' base r) ∧ g < base ∧ W.grownBy w' none := fun W hW => copied_any W (bAt B) S ro (cAt B) rc cs (hRs2.grown hW) (by omega) (fun r hr => (hkn r hr).2)
  go_region_held3 (fun w' => w'.cell? ⟨zw, 0, none⟩ = some (.int .i64 (bAt B)) ∧ w'.cell? ⟨zw, 1, none⟩ = some (.slice ro (cAt B) rc) ∧ w'.cell? ⟨zw, 2, none⟩ = some (.int .i64 S)) (first | exact ⟨q0, q1, q2⟩ | exact ⟨b0, b1, b2⟩ | exact ⟨(setCell_grown _ _ _ _).cell ((setCell_grown _ _ _ _).cell q0 hzn) hzn, (setCell_grown _ _ _ _).cell ((setCell_grown _ _ _ _).cell q1 hzn) hzn, (setCell_grown _ _ _ _).cell ((setCell_grown _ _ _ _).cell q2 hzn) hzn⟩)
    ((go_at_call 124; refine (hcp _ (grown_drewN w2 1 none)).mono ?_; rintro e w3 ⟨g, base3, rs, rfl, hgg, hgb, hR3, hD3, hO3, hlt3, hg3⟩; have hgd : w2.grownBy w3 none := grown_trans (grown_drewN w2 1 none) hg3 (by simp); have q0 := hgd.cell b0 (by simp); have q1 := hgd.cell b1 (by simp); have q2 := hgd.cell b2 (by simp); have kz := (hgd.block z (by omega) (by simp)).trans hz2; have d0 := cell_of (i := 0) (v := .int .i64 0) kz rfl; have d1 := cell_of (i := 1) (v := .slice none 0 0) kz rfl; have df := frozen_of kz))
  have hs2' : w2.heap.size ≤ g := hgg
  have q7 := setCell_grown w3 z 0 (.int .i64 (bAt B))
  have q8 := setCell_grown (w3.setCell ⟨z, 0, none⟩ (.int .i64 (bAt B))) z 1 (.slice (some ⟨g, 0, none⟩) (cAt B) (cAt B))
  have q9 := grown_trans q7 q8 (fun k hk => Or.inl hk)
  have y0 : ((w3.setCell ⟨z, 0, none⟩ (.int .i64 (bAt B))).setCell ⟨z, 1, none⟩ (.slice (some ⟨g, 0, none⟩) (cAt B) (cAt B))).cell? ⟨z, 0, none⟩ = some (.int .i64 (bAt B)) := by rw [World.cell?_setCell_other _ _ _ _ (by simp)]; exact World.cell?_setCell_same _ _ _ d0
  have y1 : ((w3.setCell ⟨z, 0, none⟩ (.int .i64 (bAt B))).setCell ⟨z, 1, none⟩ (.slice (some ⟨g, 0, none⟩) (cAt B) (cAt B))).cell? ⟨z, 1, none⟩ = some (.slice (some ⟨g, 0, none⟩) (cAt B) (cAt B)) := World.cell?_setCell_same (u := .slice none 0 0) _ _ _ (by rw [World.cell?_setCell_other _ _ _ _ (by simp)]; exact d1)
  have hR6 := hR3.kept q9 (by right; simp [blk]; omega)
  have hO6 : ∀ r ∈ rs, Own ((w3.setCell ⟨z, 0, none⟩ (.int .i64 (bAt B))).setCell ⟨z, 1, none⟩ (.slice (some ⟨g, 0, none⟩) (cAt B) (cAt B))) base3 r := fun r hr => (hO3 r hr).kept q9 (fun k hk => by simp; omega)
  have hG6 := grown_trans (grown_trans hG2 hgd (by simp)) q9 (fun k hk => Or.inr (by cases hk; omega))
  clear q7 q8 q9 hR3 hO3 d0 d1 df q0 q1 q2 b0 b1 b2 kz hgd hg3
  generalize ((w3.setCell ⟨z, 0, none⟩ (.int .i64 (bAt B))).setCell ⟨z, 1, none⟩ (.slice (some ⟨g, 0, none⟩) (cAt B) (cAt B))) = w6 at *
  go_wp2_with fail
  refine bodyPost_ret (v := .tuple #[.agg #[.int .i64 (bAt B), .slice (some ⟨g, 0, none⟩) (cAt B) (cAt B)], .int .i64 S, .int .i64 0]) (by simp [results, Tryz.results145, go_sem, y0, y1]) rfl ?_
  exact ⟨g, base3, rs, rfl, by omega, hlt3, hR6, by rw [hD3]; exact hsay, hO6, hG6⟩
end Go.Proofs.YtlghcboenkglnaaGreatDoor.Rec

/-
  The document's body: all behind the sum.
-/
namespace Go.Proofs.YtlghcboenkglnaaGreatDoor.Rec
open Go.Proofs.YtlghcboenkglnaaGreatDoor
open Go.RowKit
set_option linter.unusedVariables false

section
variable {P : Program}
end

theorem heap_kept {w w' : World} {row : Option Nat} {g : Nat} {x : Obj} (hg : w.grownBy w' row) (h : w.heap[g]? = some x) (hne : some g ≠ row) : w'.heap[g]? = some x := by
  rw [hg.block g (by rcases Nat.lt_or_ge g w.heap.size with h9 | h9; exact h9; rw [Array.getElem?_eq_none h9] at h; cases h) hne]; exact h
/-- A row of bytes is no block of another kind. -/
theorem Ow.apart {w : World} {base : Nat} {ao : Option Addr} {n cap : Nat} {l : List UInt8} {g : Nat} {cs : Array Value} {fr : Nat × Nat} (h : Ow w base 5 ao n cap l) (hh : w.heap[g]? = some (.cells cs 148 fr)) : some g ≠ blk ao := by
  intro e
  rcases h.row.2 with ⟨hv, _⟩ | ⟨g', c, cur, hv, _, hg, _⟩
  · simp only [Value.slice.injEq] at hv
    rw [hv.1] at e
    cases e
  · simp only [Value.slice.injEq] at hv
    rw [hv.1] at e
    obtain rfl : g = g' := by simpa [blk] using e
    rw [hh] at hg
    simp at hg
end Go.Proofs.YtlghcboenkglnaaGreatDoor.Rec

/-
  The document's Copy.
-/
namespace Go.Proofs.YtlghcboenkglnaaGreatDoor.Rec
open Go.Proofs.YtlghcboenkglnaaGreatDoor
open Go.RowKit
set_option linter.unusedVariables false

/-- A record in new memory, away from the row in which it lies. -/
structure Aw (w : World) (base : Nat) (row : Option Nat) (r : Rc) : Prop where
  rk : Rk w r
  kin : ∀ a, r.ko = some a → base ≤ a.block ∧ a.block < w.heap.size ∧ some a.block ≠ row
  vin : ∀ a, r.vo = some a → base ≤ a.block ∧ a.block < w.heap.size ∧ some a.block ≠ row
/-- Behind an append to the row, which made a new block or none. -/
theorem Aw.append {w w' : World} {base : Nat} {row row' : Option Nat} {r : Rc} (h : Aw w base row r) (hg : w.grownBy w' row) (hr : row' = row ∨ row' = some w.heap.size) : Aw w' base row' r := by
  refine ⟨⟨h.rk.low, h.rk.high, h.rk.key.kept hg (fun a ha => (h.kin a ha).2.2), h.rk.value.kept hg (fun a ha => (h.vin a ha).2.2), h.rk.kb, h.rk.vb⟩, fun a ha => ?_, fun a ha => ?_⟩
  · obtain ⟨h1, h2, h3⟩ := h.kin a ha
    refine ⟨h1, Nat.lt_of_lt_of_le h2 hg.size, ?_⟩
    rcases hr with rfl | rfl
    · exact h3
    · simp; omega
  · obtain ⟨h1, h2, h3⟩ := h.vin a ha
    refine ⟨h1, Nat.lt_of_lt_of_le h2 hg.size, ?_⟩
    rcases hr with rfl | rfl
    · exact h3
    · simp; omega
theorem Aw.kept {w w' : World} {base : Nat} {row : Option Nat} {r : Rc} (h : Aw w base row r) (hg : w.grownBy w' row) : Aw w' base row r := h.append hg (Or.inl rfl)
theorem Aw.grown {w w' : World} {base : Nat} {row : Option Nat} {r : Rc} (h : Aw w base row r) (hg : w.grownBy w' none) : Aw w' base row r := h.kept (grown_any hg row)
end Go.Proofs.YtlghcboenkglnaaGreatDoor.Rec

/-
  lent and kept: records in memory of their own, with a mark behind.
-/
namespace Go.Proofs.YtlghcboenkglnaaGreatDoor.Rec
open Go.Proofs.YtlghcboenkglnaaGreatDoor
open Go.RowKit
set_option linter.unusedVariables false

/-- The mark. -/
def mark : Rc := ⟨4242, none, 0, 0, [], none, 0, 0, []⟩
theorem Rw.room {w : World} {base : Nat} {ao : Option Addr} {n cap : Nat} {rs : List Rc} (h : Rw w base ao n cap rs) : n ≤ cap ∧ cap ≤ 9223372036854775807 := by
  rcases h.row.2 with ⟨hv, h0⟩ | ⟨g, c, cur, hv, _, _, hn, hm, _⟩
  · simp only [Value.slice.injEq] at hv; omega
  · simp only [Value.slice.injEq] at hv; rw [hv.2.2]; exact ⟨hn, hm⟩
/-- Records that were lent: with the mark behind them. -/
structure Ln (w : World) (base g n c : Nat) (rs : List Rc) : Prop where
  row : Rw w base (some ⟨g, 0, none⟩) (n + 1) c (rs ++ [mark])
  rk : ∀ r ∈ rs, Aw w base (some g) r
theorem Ln.grown {w w' : World} {base g n c : Nat} {rs : List Rc} (h : Ln w base g n c rs) (hg : w.grownBy w' none) : Ln w' base g n c rs :=
  ⟨h.row.kept hg (by right; simp [blk]), fun r hr => (h.rk r hr).grown hg⟩
theorem Ln.shows {w : World} {base g n c : Nat} {rs : List Rc} (h : Ln w base g n c rs) : Rs w (some ⟨g, 0, none⟩) n c rs := by
  have hl : rs.length = n := by have := h.row.len; simp at this; exact this
  obtain ⟨h1, h2⟩ := h.row.room
  refine ⟨hl, by omega, h2, by simp, fun a ha hn => ?_, fun b o hb j r hr => ?_, fun r hr => (h.rk r hr).rk⟩
  · obtain rfl := Option.some.inj ha
    exact ⟨g, 0, rfl, (h.row.from_base g rfl).2⟩
  · simp only [Option.some.injEq, Addr.mk.injEq] at hb
    obtain ⟨rfl, rfl, _⟩ := hb
    have hj : j < rs.length := (List.getElem?_eq_some_iff.1 hr).1
    have hj2 : j < (rs ++ [mark]).length := by simp; omega
    obtain ⟨c0, c1, c2⟩ := h.row.cells hj2
    have e : (rs ++ [mark])[j] = r := by
      rw [List.getElem_append_left hj]
      exact (List.getElem?_eq_some_iff.1 hr).2
    rw [e] at c0 c1 c2
    simp only [Nat.zero_add]
    exact ⟨c0, c1, c2⟩
theorem Ln.mark {w : World} {base g n c : Nat} {rs : List Rc} (h : Ln w base g n c rs) : w.cell? ⟨g, n * 3, none⟩ = some (.int .i64 4242) := by
  have hl : rs.length = n := by have := h.row.len; simp at this; exact this
  obtain ⟨c0, _, _⟩ := h.row.cells (j := n) (by simp; omega)
  rw [c0]
  have e : (rs ++ [Go.Proofs.YtlghcboenkglnaaGreatDoor.Rec.mark])[n]'(by simp; omega) = Go.Proofs.YtlghcboenkglnaaGreatDoor.Rec.mark := by
    rw [List.getElem_append_right (by omega)]
    simp [hl]
  rw [e]
  rfl
end Go.Proofs.YtlghcboenkglnaaGreatDoor.Rec

/-
  Bytes that are written over, one by one, whatever they are.
-/
namespace Go.Proofs.YtlghcboenkglnaaGreatDoor.Rec
open Go.Proofs.YtlghcboenkglnaaGreatDoor
open Go.RowKit
set_option linter.unusedVariables false

/-- A row of bytes that may be written: n of them. -/
structure Cb (w : World) (B : Nat) (ao : Option Addr) (n : Nat) : Prop where
  at_ : 0 < n → ∃ g o, ao = some ⟨g, o, none⟩ ∧ B ≤ g ∧ g < w.heap.size ∧ (∀ i, w.frozen? ⟨g, i, none⟩ = false) ∧ ∀ j, j < n → ∃ b : Int, 0 ≤ b ∧ b < 256 ∧ w.cell? ⟨g, o + j, none⟩ = some (.int .u8 b)
theorem Cb.grown {w w' : World} {B : Nat} {ao : Option Addr} {n : Nat} (h : Cb w B ao n) (hg : w.grownBy w' none) : Cb w' B ao n := ⟨fun hn => by
  obtain ⟨g, o, h1, h2, h3, h4, h5⟩ := h.at_ hn
  exact ⟨g, o, h1, h2, Nat.lt_of_lt_of_le h3 hg.size, fun i => frozen_grown hg h3 (by simp) (h4 i), fun j hj => by
    obtain ⟨b, hb0, hb, hc⟩ := h5 j hj
    exact ⟨b, hb0, hb, hg.cell hc (by simp)⟩⟩⟩
/-- One byte is written, here or elsewhere. -/
theorem Cb.set {w : World} {B : Nat} {ao : Option Addr} {n : Nat} (h : Cb w B ao n) (g i : Nat) (x : Int) (hx0 : 0 ≤ x) (hx : x < 256) : Cb (w.setCell ⟨g, i, none⟩ (.int .u8 x)) B ao n := ⟨fun hn => by
  obtain ⟨g', o, h1, h2, h3, h4, h5⟩ := h.at_ hn
  refine ⟨g', o, h1, h2, by simpa using h3, fun k => by simpa using h4 k, fun j hj => ?_⟩
  obtain ⟨b, hb0, hb, hc⟩ := h5 j hj
  by_cases he : (⟨g', o + j, none⟩ : Addr) = ⟨g, i, none⟩
  · rw [he] at hc ⊢
    exact ⟨x, hx0, hx, World.cell?_setCell_same _ _ _ hc⟩
  · exact ⟨b, hb0, hb, by rw [World.cell?_setCell_other _ _ _ _ (fun e => he e.symm)]; exact hc⟩⟩
/-- A row of records whose bytes may be written. -/
structure Cr (w : World) (g n : Nat) (rs : List Rc) : Prop where
  row : Rw w g (some ⟨g, 0, none⟩) n n rs
  key : ∀ r ∈ rs, Cb w (g + 1) r.ko r.kn
  val : ∀ r ∈ rs, Cb w (g + 1) r.vo r.vn
theorem Cr.grown {w w' : World} {g n : Nat} {rs : List Rc} (h : Cr w g n rs) (hg : w.grownBy w' none) : Cr w' g n rs :=
  ⟨h.row.kept hg (by right; simp [blk]), fun r hr => (h.key r hr).grown hg, fun r hr => (h.val r hr).grown hg⟩
theorem Cr.set {w : World} {g n : Nat} {rs : List Rc} (h : Cr w g n rs) (q i : Nat) (hq : g + 1 ≤ q) (x : Int) (hx0 : 0 ≤ x) (hx : x < 256) : Cr (w.setCell ⟨q, i, none⟩ (.int .u8 x)) g n rs :=
  ⟨h.row.kept (setCell_grown w q i _) (by right; simp [blk]; omega), fun r hr => (h.key r hr).set q i x hx0 hx, fun r hr => (h.val r hr).set q i x hx0 hx⟩
end Go.Proofs.YtlghcboenkglnaaGreatDoor.Rec

/-
  Where the bytes are too few: the cutter gives up.
-/
namespace Go.Proofs.YtlghcboenkglnaaGreatDoor.Rec
open Go.Proofs.YtlghcboenkglnaaGreatDoor
open Go.RowKit
set_option linter.unusedVariables false

/-- The panic by which the cutter gives up. -/
def oops : List PanicEntry := [{ v := .iface 30 (.int .i64 152), recovered := false }]
set_option maxRecDepth 100000 in
set_option maxHeartbeats 400000 in
theorem skip_no (w : World) (b g o n cap k : Nat) (l : List UInt8) (at' : Nat) (h : Rd w b g o n cap l at') (hn : n < k) (hk : k < 9223372036854775808) :
    Calls Tryz.prog 201 #[.pointer (some ⟨b, 0, none⟩), .int .i64 k] w fun e w' => e = .returned (.int .i64 111) ∧ w' = w := by
  have h0 := h.c0
  have hk' : ¬ (k : Int) < 0 := by omega
  have hn' : (n : Int) < (k : Int) := by omega
  go_enter Tryz.func201, Tryz.ntmps201
  go_wp2_with fail
  refine (there_any _ _ h.c2).mono ?_
  rintro e w1 ⟨rfl, rfl⟩
  go_wp2
  go_ret
  exact ⟨rfl, rfl⟩
set_option maxRecDepth 100000 in
set_option maxHeartbeats 1000000 in
theorem number2_no (w : World) (bo : Option Addr) (bn bc rb g : Nat) (B : List UInt8) (at' : Nat) (h : Ct w bo bn bc rb g B at') (hk : bn < at' + 2) :
    Calls Tryz.prog 203 #[.agg #[.slice bo bn bc, .pointer (some ⟨rb, 0, none⟩)]] w fun e w' => e = .panicked oops ∧ w.grownBy w' (some rb) := by
  have hg0 := alloc_grown w (.cells #[.slice bo bn bc, .pointer (some ⟨rb, 0, none⟩)] 276)
  have h0 := h.grown hg0
  have hG0 := grown_any hg0 (some rb)
  obtain ⟨o, n, cap, hr, hn⟩ := h0.rd
  go_enter Tryz.func203, Tryz.ntmps203
  go_wp2_with fail
  refine (u16_no _ rb g o n cap _ at' hr (by omega)).mono ?_
  rintro e w1 ⟨rfl, hw1⟩
  subst hw1
  go_wp2_with fail
  refine (need_no _).mono ?_
  rintro e w2 ⟨rfl, hw2⟩
  subst hw2
  go_wp2
  exact ⟨rfl, rfl, hG0⟩
set_option maxRecDepth 100000 in
set_option maxHeartbeats 1000000 in
theorem number8_no (w : World) (bo : Option Addr) (bn bc rb g : Nat) (B : List UInt8) (at' : Nat) (h : Ct w bo bn bc rb g B at') (hk : bn < at' + 8) :
    Calls Tryz.prog 184 #[.agg #[.slice bo bn bc, .pointer (some ⟨rb, 0, none⟩)]] w fun e w' => e = .panicked oops ∧ w.grownBy w' (some rb) := by
  have hg0 := alloc_grown w (.cells #[.slice bo bn bc, .pointer (some ⟨rb, 0, none⟩)] 276)
  have h0 := h.grown hg0
  have hG0 := grown_any hg0 (some rb)
  obtain ⟨o, n, cap, hr, hn⟩ := h0.rd
  go_enter Tryz.func184, Tryz.ntmps184
  go_wp2_with fail
  refine (i64_no _ rb g o n cap _ at' hr (by omega)).mono ?_
  rintro e w1 ⟨rfl, hw1⟩
  subst hw1
  go_wp2_with fail
  refine (need_no _).mono ?_
  rintro e w2 ⟨rfl, hw2⟩
  subst hw2
  go_wp2
  exact ⟨rfl, rfl, hG0⟩
set_option maxRecDepth 100000 in
set_option maxHeartbeats 2000000 in
theorem passC_no (w : World) (bo : Option Addr) (bn bc rb g : Nat) (B : List UInt8) (at' : Nat) (h : Ct w bo bn bc rb g B at') (k : Nat) (hk : bn < at' + k) (hkk : k < 9223372036854775808) :
    Calls Tryz.prog 181 #[.agg #[.slice bo bn bc, .pointer (some ⟨rb, 0, none⟩)], .int .i64 k] w fun e w' => e = .panicked oops ∧ w.grownBy w' (some rb) := by
  have hg0 := alloc_grown w (.cells #[.slice bo bn bc, .pointer (some ⟨rb, 0, none⟩)] 276)
  have h0 := h.grown hg0
  have hG0 := grown_any hg0 (some rb)
  have b0 : (w.alloc (.cells #[.slice bo bn bc, .pointer (some ⟨rb, 0, none⟩)] 276)).cell? ⟨w.heap.size, 0, none⟩ = some (.slice bo bn bc) := by simp
  have b1 : (w.alloc (.cells #[.slice bo bn bc, .pointer (some ⟨rb, 0, none⟩)] 276)).cell? ⟨w.heap.size, 1, none⟩ = some (.pointer (some ⟨rb, 0, none⟩)) := by simp
  obtain ⟨o, n, cap, hr, hn⟩ := h0.rd
  go_enter Tryz.func181, Tryz.ntmps181
  go_wp2_with fail
  generalize w.alloc (.cells #[.slice bo bn bc, .pointer (some ⟨rb, 0, none⟩)] 276) = w0 at *
  generalize w.heap.size = z0 at *
  refine (at_any _ rb g o n cap _ at' hr).mono ?_
  rintro e w1 ⟨rfl, hw1⟩
  subst hw1
  go_wp2_with fail
  refine (skip_no _ rb g o n cap k _ at' hr (by omega) hkk).mono ?_
  rintro e w2 ⟨rfl, hw2⟩
  subst hw2
  go_wp2_with fail
  refine (need_no _).mono ?_
  rintro e w3 ⟨rfl, hw3⟩
  subst hw3
  go_wp2
  exact ⟨rfl, rfl, hG0⟩
end Go.Proofs.YtlghcboenkglnaaGreatDoor.Rec

/-
  A record that is not all there: the cutter gives up.
-/
namespace Go.Proofs.YtlghcboenkglnaaGreatDoor.Rec
open Go.Proofs.YtlghcboenkglnaaGreatDoor
open Go.RowKit
set_option linter.unusedVariables false

def sl3 : Nat → Option Nat
  | 0 => some 9 | 1 => some 10 | 2 => some 11 | 3 => some 12 | _ => none
theorem sl3_lt {i s : Nat} (h : sl3 i = some s) : i < 4 ∧ s = 9 + i := by
  unfold sl3 at h
  split at h <;> simp_all
theorem sl3_inj (i j s : Nat) (hi : sl3 i = some s) (hj : sl3 j = some s) : i = j := by
  have h1 := sl3_lt hi
  have h2 := sl3_lt hj
  omega
def vals3 (c n : Value) : Nat → Option Value
  | 0 => some c | 1 => some n | 3 => some c | _ => none
/-- How far record's region with two numbers has come, ahead of the second. -/
structure J3 (A0 : Act) (w0 : World) (bo : Option Addr) (bn bc rb g : Nat) (B : List UInt8) (i N : Nat) (l : Array Bool) (a : Act) (w : World) : Prop where
  fr : Fr A0 A0.tmps [9, 10, 11, 12] 8 l a
  tv : Tv sl3 (vals3 (.agg #[.slice bo bn bc, .pointer (some ⟨rb, 0, none⟩)]) (.int .u16 N)) l a
  n4 : l.getD 4 false = false
  n5 : l.getD 5 false = false
  n6 : l.getD 6 false = false
  n7 : l.getD 7 false = false
  st : (l.getD 1 false = false ∧ w = w0) ∨ (l.getD 1 false = true ∧ Ct w bo bn bc rb g B (i + 10))
  gr : w0.grownBy w (some rb)
theorem J3.quiet {A0 : Act} {w0 : World} {bo : Option Addr} {bn bc rb g : Nat} {B : List UInt8} {i N : Nat} {l : Array Bool} {a : Act} {w : World} (hA : A0.tmps.size = 24) (h : J3 A0 w0 bo bn bc rb g B i N l a w) (q s : Nat) (hs : sl3 q = some s) (hq : q ≠ 1) (u : Value) (hu : ∀ v, vals3 (.agg #[.slice bo bn bc, .pointer (some ⟨rb, 0, none⟩)]) (.int .u16 N) q = some v → u = v) : J3 A0 w0 bo bn bc rb g B i N (l.setIfInBounds q true) (a.put (some s) u) w := by
  have h1 := sl3_lt hs
  have hsz := h.fr.size
  have o := fun j (hj : j ≠ q) => getD_other (l := l) (i := q) (j := j) hsz (by omega) hj
  refine ⟨h.fr.put q s u (by have h9 := h1.2; have h8 := h1.1; have : s = 9 ∨ s = 10 ∨ s = 11 ∨ s = 12 := by omega
                             rcases this with rfl | rfl | rfl | rfl <;> decide), Tv.put h.fr h.tv sl3_inj (fun i s hs => by have := sl3_lt hs; omega) q s (by omega) hs u hu, ?_, ?_, ?_, ?_, ?_, h.gr⟩
  · rw [o 4 (by omega)]; exact h.n4
  · rw [o 5 (by omega)]; exact h.n5
  · rw [o 6 (by omega)]; exact h.n6
  · rw [o 7 (by omega)]; exact h.n7
  · rw [o 1 (fun e => hq e.symm)]; exact h.st
set_option maxRecDepth 100000 in
set_option maxHeartbeats 4000000 in
theorem reg3_no {ops : Array Oper} (hops : Tryz.f185.body.bind (findReg 3) = some ops) {A0 : Act} {w0 : World} {z : Nat} {bo : Option Addr} {bn bc rb g : Nat} {B : List UInt8} {i : Nat}
    (c0 : w0.cell? ⟨z, 0, none⟩ = some (.slice bo bn bc)) (c1 : w0.cell? ⟨z, 1, none⟩ = some (.pointer (some ⟨rb, 0, none⟩))) (hz : some z ≠ some rb) (hC : Ct w0 bo bn bc rb g B (i + 8)) (hk : bn < i + 12)
    {Q : Exit → Act → World → Prop} (hroom : A0.tmps.size = 24) (b1 : A0.tmps[1]? = some (.pointer (some ⟨z, 0, none⟩)))
    (hQ : ∀ a' w', a'.defers = A0.defers → w0.grownBy w' (some rb) → Q (.panic oops) a' w') :
    wpAny Tryz.prog .any ops Q 8 (Array.replicate 8 false) A0 w0 := by
  obtain ⟨N, hN⟩ : ∃ N, Hid (N = val ((B.drop (i + 8)).take 2)) := ⟨_, (rfl : val ((B.drop (i + 8)).take 2) = _)⟩
  have hn2 : ∀ W, Ct W bo bn bc rb g B (i + 10) → Calls Tryz.prog 203 #[.agg #[.slice bo bn bc, .pointer (some ⟨rb, 0, none⟩)]] W fun e w' => e = .panicked oops ∧ W.grownBy w' (some rb) := fun W hW => number2_no W bo bn bc rb g B (i + 10) hW (by omega)
  have hops2 : ∃ ops', Tryz.f185.body.bind (findReg 3) = some ops' ∧ wpAny Tryz.prog .any ops' Q 8 (Array.replicate 8 false) A0 w0 := by
    refine ⟨_, rfl, ?_⟩
    refine any_order (J := J3 A0 w0 bo bn bc rb g B i N) ?size ?step ?stop ?low _ _ _ _ ?init ?count
    case size => exact fun l a w h => h.fr.size
    case low => exact low_of (by kernel_rfl)
    case count => exact left_all 8
    case init =>
      have hno : ∀ j, (Array.replicate 8 false).getD j false = true → False := by
        intro j hj
        by_cases h9 : j < 8 <;> simp [h9] at hj
      exact ⟨⟨rfl, rfl, rfl, fun _ _ => rfl⟩, fun j hj => (hno j hj).elim, rfl, rfl, rfl, rfl, Or.inl ⟨rfl, rfl⟩, grown_refl _ _⟩
    case stop =>
      intro l a' w' hJ hall
      have h7 := hall 7 (by simp)
      rw [hJ.n7] at h7
      cases h7
    case step =>
      intro l a' w' q op hJ ho hl hdep
      have hq : q < 8 := by
        have h9 := (Array.getElem?_eq_some_iff.1 ho).1
        simpa using h9
      have e1 := hJ.fr.at b1 (by decide)
      have hsz := hJ.fr.size
      have HR : Hid (A0.tmps.size = 24) := hroom
      have x0 := hJ.gr.cell c0 hz
      have x1 := hJ.gr.cell c1 hz
      have hlf : l.getD q false = false := by
        have hl9 : q < l.size := by omega
        simp only [Array.getD_eq_getD_getElem?, Array.getElem?_eq_getElem hl9, Option.getD_some] at hl ⊢
        exact hl
      clear hroom
      match q, hq with
      | 0, _ =>
        cases ho
        clear hdep
        refine wpOp_step rfl (fun K hK => ?_)
        go_simp
        exact hK _ _ (hJ.quiet HR.out 0 9 rfl (by omega) _ (fun v hv => by cases hv; rfl))
      | 3, _ =>
        cases ho
        clear hdep
        refine wpOp_step rfl (fun K hK => ?_)
        go_simp
        exact hK _ _ (hJ.quiet HR.out 3 12 rfl (by omega) _ (fun v hv => by cases hv; rfl))
      | 1, _ =>
        cases ho
        have y := hJ.tv 0 (hdep { on := 0, ground := .data } (by simp) rfl) 9 _ rfl rfl
        clear hdep
        rcases hJ.st with ⟨_, hw⟩ | ⟨h1, _⟩
        · subst hw
          refine wpOp_step rfl (fun K hK => ?_)
          go_simp
          go_at_call 203
          by_cases hk2 : bn < i + 10
          · refine (number2_no _ bo bn bc rb g B (i + 8) hC (by omega)).mono ?_
            rintro e w2 ⟨rfl, hg2⟩
            exact hQ _ _ hJ.fr.defers hg2
          · refine (number2_yes _ bo bn bc rb g B (i + 8) hC (by omega)).mono ?_
            rintro e w2 ⟨rfl, hC2, hg2⟩
            have o := fun j (hj : j ≠ 1) => getD_other (l := l) (i := 1) (j := j) hsz (by omega) hj
            refine hK _ _ ⟨hJ.fr.put 1 10 _ (by decide), Tv.put hJ.fr hJ.tv sl3_inj (fun i s hs => by have := sl3_lt hs; have h9 := HR.out; omega) 1 10 (by omega) rfl _ (fun v hv => by cases hv; rw [hN.out]), ?_, ?_, ?_, ?_, ?_, hg2⟩
            · rw [o 4 (by omega)]; exact hJ.n4
            · rw [o 5 (by omega)]; exact hJ.n5
            · rw [o 6 (by omega)]; exact hJ.n6
            · rw [o 7 (by omega)]; exact hJ.n7
            · exact Or.inr ⟨by rw [getD_set (by omega), if_pos rfl], hC2⟩
        · rw [hlf] at h1; cases h1
      | 2, _ =>
        cases ho
        have y := hJ.tv 1 (hdep { on := 1, ground := .data } (by simp) rfl) 10 _ rfl rfl
        clear hdep
        refine wpOp_step rfl (fun K hK => ?_)
        go_simp
        exact hK _ _ (hJ.quiet HR.out 2 11 rfl (by omega) _ (fun v hv => by cases hv))
      | 4, _ =>
        cases ho
        have y := hJ.tv 3 (hdep { on := 3, ground := .data } (by simp) rfl) 12 _ rfl rfl
        have hd1 := hdep { on := 1, ground := .chain } (by simp) rfl
        clear hdep
        rcases hJ.st with ⟨h1, _⟩ | ⟨_, hC2⟩
        · rw [hd1] at h1; cases h1
        · refine wpOp_step rfl (fun K hK => ?_)
          go_simp
          go_at_call 203
          refine (hn2 _ hC2).mono ?_
          rintro e w2 ⟨rfl, hg2⟩
          exact hQ _ _ hJ.fr.defers (grown_trans hJ.gr hg2 (fun k hk => Or.inl hk))
      | 5, _ =>
        cases ho
        have h9 := hdep { on := 4, ground := .data } (by simp) rfl
        rw [hJ.n4] at h9; cases h9
      | 6, _ =>
        cases ho
        have h9 := hdep { on := 4, ground := .chain } (by simp) rfl
        rw [hJ.n4] at h9; cases h9
      | 7, _ =>
        cases ho
        have h9 := hdep { on := 5, ground := .data } (by simp) rfl
        rw [hJ.n5] at h9; cases h9
  obtain ⟨ops', hh1, hh2⟩ := hops2
  rw [hops] at hh1
  cases hh1
  exact hh2
set_option maxRecDepth 100000 in
set_option maxHeartbeats 4000000 in
theorem record_no1 (w : World) (bo : Option Addr) (bn bc rb g : Nat) (B : List UInt8) (i : Nat) (h : Ct w bo bn bc rb g B i) (hpos : 0 < bn) (hk : bn < i + 8) :
    Calls Tryz.prog 185 #[.agg #[.slice bo bn bc, .pointer (some ⟨rb, 0, none⟩)]] w fun e w' => e = .panicked oops ∧ w.grownBy w' (some rb) := by
  have hrbl := h.rbl
  go_enter Tryz.func185, Tryz.ntmps185
  go_wp2_with fail
  have hg0 : w.grownBy (((w.alloc (.cells #[.slice bo bn bc, .pointer (some ⟨rb, 0, none⟩)] 276)).alloc (.cells #[.int .i64 0, .slice none 0 0, .slice none 0 0] 148)).alloc (.cells #[.int .i64 0, .slice none 0 0, .slice none 0 0] 148)) none := grown_trans (grown_trans (alloc_grown _ _) (alloc_grown _ _) (by simp)) (alloc_grown _ _) (by simp)
  have hL0 : Lc (((w.alloc (.cells #[.slice bo bn bc, .pointer (some ⟨rb, 0, none⟩)] 276)).alloc (.cells #[.int .i64 0, .slice none 0 0, .slice none 0 0] 148)).alloc (.cells #[.int .i64 0, .slice none 0 0, .slice none 0 0] 148)) w.heap.size bo bn bc rb (.int .i64 0) (.slice none 0 0) (.slice none 0 0) := by
    have s1 : (w.alloc (.cells #[.slice bo bn bc, .pointer (some ⟨rb, 0, none⟩)] 276)).heap.size = w.heap.size + 1 := by simp
    have s2 : ((w.alloc (.cells #[.slice bo bn bc, .pointer (some ⟨rb, 0, none⟩)] 276)).alloc (.cells #[.int .i64 0, .slice none 0 0, .slice none 0 0] 148)).heap.size = w.heap.size + 1 + 1 := by simp
    have g2 := alloc_grown ((w.alloc (.cells #[.slice bo bn bc, .pointer (some ⟨rb, 0, none⟩)] 276)).alloc (.cells #[.int .i64 0, .slice none 0 0, .slice none 0 0] 148)) (.cells #[.int .i64 0, .slice none 0 0, .slice none 0 0] 148)
    have g1 := grown_trans (alloc_grown (w.alloc (.cells #[.slice bo bn bc, .pointer (some ⟨rb, 0, none⟩)] 276)) (.cells #[.int .i64 0, .slice none 0 0, .slice none 0 0] 148)) g2 (by simp)
    have k1 := heap_alloc_new (w.alloc (.cells #[.slice bo bn bc, .pointer (some ⟨rb, 0, none⟩)] 276)) (.cells #[.int .i64 0, .slice none 0 0, .slice none 0 0] 148)
    have k2 := heap_alloc_new ((w.alloc (.cells #[.slice bo bn bc, .pointer (some ⟨rb, 0, none⟩)] 276)).alloc (.cells #[.int .i64 0, .slice none 0 0, .slice none 0 0] 148)) (.cells #[.int .i64 0, .slice none 0 0, .slice none 0 0] 148)
    rw [s1] at k1
    rw [s2] at k2
    have l1 : w.heap.size + 1 < ((w.alloc (.cells #[.slice bo bn bc, .pointer (some ⟨rb, 0, none⟩)] 276)).alloc (.cells #[.int .i64 0, .slice none 0 0, .slice none 0 0] 148)).heap.size := by rw [s2]; omega
    have k1' := (g2.block _ l1 (by simp)).trans k1
    refine ⟨g1.cell (by simp) (by simp), g1.cell (by simp) (by simp), ?_, ?_, ?_, ?_, ?_, ?_, fun i => ?_, fun i => ?_, ?_⟩
    · exact cell_of k1' rfl
    · exact cell_of k1' rfl
    · exact cell_of k1' rfl
    · exact cell_of k2 rfl
    · exact cell_of k2 rfl
    · exact cell_of k2 rfl
    · exact frozen_of k1' i
    · exact frozen_of k2 i
    · have := g2.size
      simp
  have hgz : g < w.heap.size := by obtain ⟨o, n, cap, hr, _⟩ := h.rd; exact hr.gl
  have hbz : ∀ b, bo = some b → b.block < w.heap.size := fun b hb => by obtain ⟨b1, o1, e1, hl⟩ := h.bytes.addr hpos; rw [hb] at e1; obtain rfl := Option.some.inj e1; exact hl
  have h0 := h.grown hg0
  generalize (((w.alloc (.cells #[.slice bo bn bc, .pointer (some ⟨rb, 0, none⟩)] 276)).alloc (.cells #[.int .i64 0, .slice none 0 0, .slice none 0 0] 148)).alloc (.cells #[.int .i64 0, .slice none 0 0, .slice none 0 0] 148)) = w0 at *
  have hlow : ∀ {W W' : World}, w.grownBy W (some rb) → W.grownBy W' (some (w.heap.size + 1 + 1)) → w.grownBy W' (some rb) := fun h1 h2 => grown_trans h1 h2 (fun k hk => Or.inr (by cases hk; omega))
  have hG0 := grown_any hg0 (some rb)
  generalize hz : w.heap.size = z at *
  clear h hg0
  refine (number8_no _ bo bn bc rb g B i h0 (by omega)).mono ?_
  rintro e w1 ⟨rfl, hg1⟩
  have hG1 := grown_trans hG0 hg1 (fun k hk => Or.inl hk)
  go_wp2
  exact ⟨rfl, rfl, hG1⟩
set_option maxRecDepth 100000 in
set_option maxHeartbeats 4000000 in
theorem record_no2 (w : World) (bo : Option Addr) (bn bc rb g : Nat) (B : List UInt8) (i : Nat) (h : Ct w bo bn bc rb g B i) (hpos : 0 < bn) (h8 : i + 8 ≤ bn) (hk : bn < i + 12) :
    Calls Tryz.prog 185 #[.agg #[.slice bo bn bc, .pointer (some ⟨rb, 0, none⟩)]] w fun e w' => e = .panicked oops ∧ w.grownBy w' (some rb) := by
  have hrbl := h.rbl
  go_enter Tryz.func185, Tryz.ntmps185
  go_wp2_with fail
  have hg0 : w.grownBy (((w.alloc (.cells #[.slice bo bn bc, .pointer (some ⟨rb, 0, none⟩)] 276)).alloc (.cells #[.int .i64 0, .slice none 0 0, .slice none 0 0] 148)).alloc (.cells #[.int .i64 0, .slice none 0 0, .slice none 0 0] 148)) none := grown_trans (grown_trans (alloc_grown _ _) (alloc_grown _ _) (by simp)) (alloc_grown _ _) (by simp)
  have hL0 : Lc (((w.alloc (.cells #[.slice bo bn bc, .pointer (some ⟨rb, 0, none⟩)] 276)).alloc (.cells #[.int .i64 0, .slice none 0 0, .slice none 0 0] 148)).alloc (.cells #[.int .i64 0, .slice none 0 0, .slice none 0 0] 148)) w.heap.size bo bn bc rb (.int .i64 0) (.slice none 0 0) (.slice none 0 0) := by
    have s1 : (w.alloc (.cells #[.slice bo bn bc, .pointer (some ⟨rb, 0, none⟩)] 276)).heap.size = w.heap.size + 1 := by simp
    have s2 : ((w.alloc (.cells #[.slice bo bn bc, .pointer (some ⟨rb, 0, none⟩)] 276)).alloc (.cells #[.int .i64 0, .slice none 0 0, .slice none 0 0] 148)).heap.size = w.heap.size + 1 + 1 := by simp
    have g2 := alloc_grown ((w.alloc (.cells #[.slice bo bn bc, .pointer (some ⟨rb, 0, none⟩)] 276)).alloc (.cells #[.int .i64 0, .slice none 0 0, .slice none 0 0] 148)) (.cells #[.int .i64 0, .slice none 0 0, .slice none 0 0] 148)
    have g1 := grown_trans (alloc_grown (w.alloc (.cells #[.slice bo bn bc, .pointer (some ⟨rb, 0, none⟩)] 276)) (.cells #[.int .i64 0, .slice none 0 0, .slice none 0 0] 148)) g2 (by simp)
    have k1 := heap_alloc_new (w.alloc (.cells #[.slice bo bn bc, .pointer (some ⟨rb, 0, none⟩)] 276)) (.cells #[.int .i64 0, .slice none 0 0, .slice none 0 0] 148)
    have k2 := heap_alloc_new ((w.alloc (.cells #[.slice bo bn bc, .pointer (some ⟨rb, 0, none⟩)] 276)).alloc (.cells #[.int .i64 0, .slice none 0 0, .slice none 0 0] 148)) (.cells #[.int .i64 0, .slice none 0 0, .slice none 0 0] 148)
    rw [s1] at k1
    rw [s2] at k2
    have l1 : w.heap.size + 1 < ((w.alloc (.cells #[.slice bo bn bc, .pointer (some ⟨rb, 0, none⟩)] 276)).alloc (.cells #[.int .i64 0, .slice none 0 0, .slice none 0 0] 148)).heap.size := by rw [s2]; omega
    have k1' := (g2.block _ l1 (by simp)).trans k1
    refine ⟨g1.cell (by simp) (by simp), g1.cell (by simp) (by simp), ?_, ?_, ?_, ?_, ?_, ?_, fun i => ?_, fun i => ?_, ?_⟩
    · exact cell_of k1' rfl
    · exact cell_of k1' rfl
    · exact cell_of k1' rfl
    · exact cell_of k2 rfl
    · exact cell_of k2 rfl
    · exact cell_of k2 rfl
    · exact frozen_of k1' i
    · exact frozen_of k2 i
    · have := g2.size
      simp
  have hgz : g < w.heap.size := by obtain ⟨o, n, cap, hr, _⟩ := h.rd; exact hr.gl
  have hbz : ∀ b, bo = some b → b.block < w.heap.size := fun b hb => by obtain ⟨b1, o1, e1, hl⟩ := h.bytes.addr hpos; rw [hb] at e1; obtain rfl := Option.some.inj e1; exact hl
  have h0 := h.grown hg0
  generalize (((w.alloc (.cells #[.slice bo bn bc, .pointer (some ⟨rb, 0, none⟩)] 276)).alloc (.cells #[.int .i64 0, .slice none 0 0, .slice none 0 0] 148)).alloc (.cells #[.int .i64 0, .slice none 0 0, .slice none 0 0] 148)) = w0 at *
  have hlow : ∀ {W W' : World}, w.grownBy W (some rb) → W.grownBy W' (some (w.heap.size + 1 + 1)) → w.grownBy W' (some rb) := fun h1 h2 => grown_trans h1 h2 (fun k hk => Or.inr (by cases hk; omega))
  have hG0 := grown_any hg0 (some rb)
  generalize hz : w.heap.size = z at *
  clear h hg0
  refine (number8_yes _ bo bn bc rb g B i h0 (by omega)).mono ?_
  rintro e w1 ⟨rfl, hc1, hg1⟩
  have hL1 := hL0.kept hg1 hrbl
  have hG1 := grown_trans hG0 hg1 (fun k hk => Or.inl hk)
  clear hL0 hG0 hg1 h0
  obtain ⟨T, hT⟩ : ∃ T, Hid (T = tAt B i) := ⟨tAt B i, (rfl : _ = _)⟩
  rw [show wrap64 ((val ((B.drop i).take 8) : Nat) : Int) = T from hT.out.symm]
  have hfe := hL1.fe
  have e0 := hL1.e0
  go_wp2_with fail
  have hs2 := setCell_grown w1 (z + 1 + 1) 0 (.int .i64 T)
  have hL2 := (hL1.set (.int .i64 T)).1
  have hzr : some (z + 1 + 1) ≠ some rb := by simp; omega
  have hzg : some (z + 1 + 1) ≠ some g := by simp; omega
  have hzb : ∀ b, bo = some b → some b.block ≠ some (z + 1 + 1) := fun b hb => by have := hbz b hb; simp; omega
  have hc2 := hc1.kept hs2 hzr hzg hzb
  have hG2 := hlow hG1 hs2
  clear hL1 hc1 hs2 hG1 hfe e0
  generalize w1.setCell ⟨z + 1 + 1, 0, none⟩ (.int .i64 T) = w2 at *
  have hzn : some z ≠ some rb := by simp; omega
  refine wp_region_any (by kernel_rfl) ?_
  change wpAny _ _ _ _ _ _ _ (World.drew _)
  have hd0 := grown_drew w2 none
  have hd1 := grown_drew w2 (some rb)
  have p0 := hd0.cell hL2.c0 (by simp)
  have p1 := hd0.cell hL2.c1 (by simp)
  refine reg3_no (by kernel_rfl) p0 p1 hzn (hc2.grown hd0) hk rfl rfl ?_
  intro a' w' hdf hg
  refine ⟨hdf, rfl, ?_⟩
  exact grown_trans (grown_trans hG2 hd1 (fun k hk => Or.inl hk)) hg (fun k hk => Or.inl hk)
set_option maxRecDepth 100000 in
set_option maxHeartbeats 4000000 in
theorem record_no4 (w : World) (bo : Option Addr) (bn bc rb g : Nat) (B : List UInt8) (i : Nat) (h : Ct w bo bn bc rb g B i) (hpos : 0 < bn) (h8 : i + 12 ≤ bn) (hk : bn < i + 12 + kAt B i) :
    Calls Tryz.prog 185 #[.agg #[.slice bo bn bc, .pointer (some ⟨rb, 0, none⟩)]] w fun e w' => e = .panicked oops ∧ w.grownBy w' (some rb) := by
  have hrbl := h.rbl
  go_enter Tryz.func185, Tryz.ntmps185
  go_wp2_with fail
  have hg0 : w.grownBy (((w.alloc (.cells #[.slice bo bn bc, .pointer (some ⟨rb, 0, none⟩)] 276)).alloc (.cells #[.int .i64 0, .slice none 0 0, .slice none 0 0] 148)).alloc (.cells #[.int .i64 0, .slice none 0 0, .slice none 0 0] 148)) none := grown_trans (grown_trans (alloc_grown _ _) (alloc_grown _ _) (by simp)) (alloc_grown _ _) (by simp)
  have hL0 : Lc (((w.alloc (.cells #[.slice bo bn bc, .pointer (some ⟨rb, 0, none⟩)] 276)).alloc (.cells #[.int .i64 0, .slice none 0 0, .slice none 0 0] 148)).alloc (.cells #[.int .i64 0, .slice none 0 0, .slice none 0 0] 148)) w.heap.size bo bn bc rb (.int .i64 0) (.slice none 0 0) (.slice none 0 0) := by
    have s1 : (w.alloc (.cells #[.slice bo bn bc, .pointer (some ⟨rb, 0, none⟩)] 276)).heap.size = w.heap.size + 1 := by simp
    have s2 : ((w.alloc (.cells #[.slice bo bn bc, .pointer (some ⟨rb, 0, none⟩)] 276)).alloc (.cells #[.int .i64 0, .slice none 0 0, .slice none 0 0] 148)).heap.size = w.heap.size + 1 + 1 := by simp
    have g2 := alloc_grown ((w.alloc (.cells #[.slice bo bn bc, .pointer (some ⟨rb, 0, none⟩)] 276)).alloc (.cells #[.int .i64 0, .slice none 0 0, .slice none 0 0] 148)) (.cells #[.int .i64 0, .slice none 0 0, .slice none 0 0] 148)
    have g1 := grown_trans (alloc_grown (w.alloc (.cells #[.slice bo bn bc, .pointer (some ⟨rb, 0, none⟩)] 276)) (.cells #[.int .i64 0, .slice none 0 0, .slice none 0 0] 148)) g2 (by simp)
    have k1 := heap_alloc_new (w.alloc (.cells #[.slice bo bn bc, .pointer (some ⟨rb, 0, none⟩)] 276)) (.cells #[.int .i64 0, .slice none 0 0, .slice none 0 0] 148)
    have k2 := heap_alloc_new ((w.alloc (.cells #[.slice bo bn bc, .pointer (some ⟨rb, 0, none⟩)] 276)).alloc (.cells #[.int .i64 0, .slice none 0 0, .slice none 0 0] 148)) (.cells #[.int .i64 0, .slice none 0 0, .slice none 0 0] 148)
    rw [s1] at k1
    rw [s2] at k2
    have l1 : w.heap.size + 1 < ((w.alloc (.cells #[.slice bo bn bc, .pointer (some ⟨rb, 0, none⟩)] 276)).alloc (.cells #[.int .i64 0, .slice none 0 0, .slice none 0 0] 148)).heap.size := by rw [s2]; omega
    have k1' := (g2.block _ l1 (by simp)).trans k1
    refine ⟨g1.cell (by simp) (by simp), g1.cell (by simp) (by simp), ?_, ?_, ?_, ?_, ?_, ?_, fun i => ?_, fun i => ?_, ?_⟩
    · exact cell_of k1' rfl
    · exact cell_of k1' rfl
    · exact cell_of k1' rfl
    · exact cell_of k2 rfl
    · exact cell_of k2 rfl
    · exact cell_of k2 rfl
    · exact frozen_of k1' i
    · exact frozen_of k2 i
    · have := g2.size
      simp
  have hgz : g < w.heap.size := by obtain ⟨o, n, cap, hr, _⟩ := h.rd; exact hr.gl
  have hbz : ∀ b, bo = some b → b.block < w.heap.size := fun b hb => by obtain ⟨b1, o1, e1, hl⟩ := h.bytes.addr hpos; rw [hb] at e1; obtain rfl := Option.some.inj e1; exact hl
  have h0 := h.grown hg0
  generalize (((w.alloc (.cells #[.slice bo bn bc, .pointer (some ⟨rb, 0, none⟩)] 276)).alloc (.cells #[.int .i64 0, .slice none 0 0, .slice none 0 0] 148)).alloc (.cells #[.int .i64 0, .slice none 0 0, .slice none 0 0] 148)) = w0 at *
  have hlow : ∀ {W W' : World}, w.grownBy W (some rb) → W.grownBy W' (some (w.heap.size + 1 + 1)) → w.grownBy W' (some rb) := fun h1 h2 => grown_trans h1 h2 (fun k hk => Or.inr (by cases hk; omega))
  have hG0 := grown_any hg0 (some rb)
  generalize hz : w.heap.size = z at *
  clear h hg0
  refine (number8_yes _ bo bn bc rb g B i h0 (by omega)).mono ?_
  rintro e w1 ⟨rfl, hc1, hg1⟩
  have hL1 := hL0.kept hg1 hrbl
  have hG1 := grown_trans hG0 hg1 (fun k hk => Or.inl hk)
  clear hL0 hG0 hg1 h0
  obtain ⟨T, hT⟩ : ∃ T, Hid (T = tAt B i) := ⟨tAt B i, (rfl : _ = _)⟩
  rw [show wrap64 ((val ((B.drop i).take 8) : Nat) : Int) = T from hT.out.symm]
  have hfe := hL1.fe
  have e0 := hL1.e0
  go_wp2_with fail
  have hs2 := setCell_grown w1 (z + 1 + 1) 0 (.int .i64 T)
  have hL2 := (hL1.set (.int .i64 T)).1
  have hzr : some (z + 1 + 1) ≠ some rb := by simp; omega
  have hzg : some (z + 1 + 1) ≠ some g := by simp; omega
  have hzb : ∀ b, bo = some b → some b.block ≠ some (z + 1 + 1) := fun b hb => by have := hbz b hb; simp; omega
  have hc2 := hc1.kept hs2 hzr hzg hzb
  have hG2 := hlow hG1 hs2
  clear hL1 hc1 hs2 hG1 hfe e0
  generalize w1.setCell ⟨z + 1 + 1, 0, none⟩ (.int .i64 T) = w2 at *
  obtain ⟨KN, hKN⟩ : ∃ KN, Hid (KN = kAt B i) := ⟨kAt B i, (rfl : _ = _)⟩
  obtain ⟨VN, hVN⟩ : ∃ VN, Hid (VN = vAt B i) := ⟨vAt B i, (rfl : _ = _)⟩
  rw [← hKN.out] at hk
  have hkl : KN < 65536 := by
    rw [hKN.out]
    have h3 := val_lt ((B.drop (i + 8)).take 2)
    have h4 : 256 ^ ((B.drop (i + 8)).take 2).length ≤ 256 ^ 2 := Nat.pow_le_pow_right (by omega) (by simp; omega)
    exact Nat.lt_of_lt_of_le h3 h4
  have hvl : VN < 65536 := by
    rw [hVN.out]
    have h3 := val_lt ((B.drop (i + 10)).take 2)
    have h4 : 256 ^ ((B.drop (i + 10)).take 2).length ≤ 256 ^ 2 := Nat.pow_le_pow_right (by omega) (by simp; omega)
    exact Nat.lt_of_lt_of_le h3 h4
  have hn1 : ∀ W, Ct W bo bn bc rb g B (i + 8) → Calls Tryz.prog 203 #[.agg #[.slice bo bn bc, .pointer (some ⟨rb, 0, none⟩)]] W fun e w' => e = .returned (.int .u16 KN) ∧ Ct w' bo bn bc rb g B (i + 10) ∧ W.grownBy w' (some rb) := fun W hW => by
    rw [hKN.out]; exact number2_yes W bo bn bc rb g B (i + 8) hW (by omega)
  have hn2 : ∀ W, Ct W bo bn bc rb g B (i + 10) → Calls Tryz.prog 203 #[.agg #[.slice bo bn bc, .pointer (some ⟨rb, 0, none⟩)]] W fun e w' => e = .returned (.int .u16 VN) ∧ Ct w' bo bn bc rb g B (i + 12) ∧ W.grownBy w' (some rb) := fun W hW => by
    rw [hVN.out]; exact number2_yes W bo bn bc rb g B (i + 10) hW (by omega)
  have p0 := hL2.c0
  have p1 := hL2.c1
  have hwk : IntKind.i64.wrap (KN : Int) = (KN : Int) := IntWalk.i64_in _ (by omega)
  have hwv : IntKind.i64.wrap (VN : Int) = (VN : Int) := IntWalk.i64_in _ (by omega)
  go_region_held3 (fun w' => w'.cell? ⟨z, 0, none⟩ = some (.slice bo bn bc) ∧ w'.cell? ⟨z, 1, none⟩ = some (.pointer (some ⟨rb, 0, none⟩))) (first | exact ⟨r0, r1⟩ | exact ⟨q0, q1⟩ | exact ⟨p0, p1⟩) (first
    | (go_at_call 203; refine (hn2 _ hc3).mono ?_; rintro e w4 ⟨rfl, hc4, hg4⟩; have hL4 := hL3.kept hg4 hrbl; have r0 := hL4.c0; have r1 := hL4.c1)
    | (go_at_call 203; refine (hn1 _ (hc2.grown (grown_drewN w2 1 none))).mono ?_; rintro e w3 ⟨rfl, hc3, hg3⟩; have hL3 := (hL2.kept (grown_drewN w2 1 (some rb)) hrbl).kept hg3 hrbl; have q0 := hL3.c0; have q1 := hL3.c1))
  have hG4 := grown_trans (grown_trans (grown_trans hG2 (grown_drewN w2 1 (some rb)) (fun k hk => Or.inl hk)) hg3 (fun k hk => Or.inl hk)) hg4 (fun k hk => Or.inl hk)
  clear hL2 hL3 hc2 hc3 hg3 hg4 hG2 p0 p1 q0 q1 hn1 hn2 hwk hwv
  go_wp2_with fail
  refine (passC_no _ bo bn bc rb g B (i + 12) hc4 KN (by omega) (by omega)).mono ?_
  rintro e w5 ⟨rfl, hg5⟩
  have hG5 := grown_trans hG4 hg5 (fun k hk => Or.inl hk)
  go_wp2
  exact ⟨rfl, rfl, hG5⟩
set_option maxRecDepth 100000 in
set_option maxHeartbeats 4000000 in
theorem record_no5 (w : World) (bo : Option Addr) (bn bc rb g : Nat) (B : List UInt8) (i : Nat) (h : Ct w bo bn bc rb g B i) (hpos : 0 < bn) (h8 : i + 12 + kAt B i ≤ bn) (hk : bn < i + 12 + kAt B i + vAt B i) :
    Calls Tryz.prog 185 #[.agg #[.slice bo bn bc, .pointer (some ⟨rb, 0, none⟩)]] w fun e w' => e = .panicked oops ∧ w.grownBy w' (some rb) := by
  have hrbl := h.rbl
  go_enter Tryz.func185, Tryz.ntmps185
  go_wp2_with fail
  have hg0 : w.grownBy (((w.alloc (.cells #[.slice bo bn bc, .pointer (some ⟨rb, 0, none⟩)] 276)).alloc (.cells #[.int .i64 0, .slice none 0 0, .slice none 0 0] 148)).alloc (.cells #[.int .i64 0, .slice none 0 0, .slice none 0 0] 148)) none := grown_trans (grown_trans (alloc_grown _ _) (alloc_grown _ _) (by simp)) (alloc_grown _ _) (by simp)
  have hL0 : Lc (((w.alloc (.cells #[.slice bo bn bc, .pointer (some ⟨rb, 0, none⟩)] 276)).alloc (.cells #[.int .i64 0, .slice none 0 0, .slice none 0 0] 148)).alloc (.cells #[.int .i64 0, .slice none 0 0, .slice none 0 0] 148)) w.heap.size bo bn bc rb (.int .i64 0) (.slice none 0 0) (.slice none 0 0) := by
    have s1 : (w.alloc (.cells #[.slice bo bn bc, .pointer (some ⟨rb, 0, none⟩)] 276)).heap.size = w.heap.size + 1 := by simp
    have s2 : ((w.alloc (.cells #[.slice bo bn bc, .pointer (some ⟨rb, 0, none⟩)] 276)).alloc (.cells #[.int .i64 0, .slice none 0 0, .slice none 0 0] 148)).heap.size = w.heap.size + 1 + 1 := by simp
    have g2 := alloc_grown ((w.alloc (.cells #[.slice bo bn bc, .pointer (some ⟨rb, 0, none⟩)] 276)).alloc (.cells #[.int .i64 0, .slice none 0 0, .slice none 0 0] 148)) (.cells #[.int .i64 0, .slice none 0 0, .slice none 0 0] 148)
    have g1 := grown_trans (alloc_grown (w.alloc (.cells #[.slice bo bn bc, .pointer (some ⟨rb, 0, none⟩)] 276)) (.cells #[.int .i64 0, .slice none 0 0, .slice none 0 0] 148)) g2 (by simp)
    have k1 := heap_alloc_new (w.alloc (.cells #[.slice bo bn bc, .pointer (some ⟨rb, 0, none⟩)] 276)) (.cells #[.int .i64 0, .slice none 0 0, .slice none 0 0] 148)
    have k2 := heap_alloc_new ((w.alloc (.cells #[.slice bo bn bc, .pointer (some ⟨rb, 0, none⟩)] 276)).alloc (.cells #[.int .i64 0, .slice none 0 0, .slice none 0 0] 148)) (.cells #[.int .i64 0, .slice none 0 0, .slice none 0 0] 148)
    rw [s1] at k1
    rw [s2] at k2
    have l1 : w.heap.size + 1 < ((w.alloc (.cells #[.slice bo bn bc, .pointer (some ⟨rb, 0, none⟩)] 276)).alloc (.cells #[.int .i64 0, .slice none 0 0, .slice none 0 0] 148)).heap.size := by rw [s2]; omega
    have k1' := (g2.block _ l1 (by simp)).trans k1
    refine ⟨g1.cell (by simp) (by simp), g1.cell (by simp) (by simp), ?_, ?_, ?_, ?_, ?_, ?_, fun i => ?_, fun i => ?_, ?_⟩
    · exact cell_of k1' rfl
    · exact cell_of k1' rfl
    · exact cell_of k1' rfl
    · exact cell_of k2 rfl
    · exact cell_of k2 rfl
    · exact cell_of k2 rfl
    · exact frozen_of k1' i
    · exact frozen_of k2 i
    · have := g2.size
      simp
  have hgz : g < w.heap.size := by obtain ⟨o, n, cap, hr, _⟩ := h.rd; exact hr.gl
  have hbz : ∀ b, bo = some b → b.block < w.heap.size := fun b hb => by obtain ⟨b1, o1, e1, hl⟩ := h.bytes.addr hpos; rw [hb] at e1; obtain rfl := Option.some.inj e1; exact hl
  have h0 := h.grown hg0
  generalize (((w.alloc (.cells #[.slice bo bn bc, .pointer (some ⟨rb, 0, none⟩)] 276)).alloc (.cells #[.int .i64 0, .slice none 0 0, .slice none 0 0] 148)).alloc (.cells #[.int .i64 0, .slice none 0 0, .slice none 0 0] 148)) = w0 at *
  have hlow : ∀ {W W' : World}, w.grownBy W (some rb) → W.grownBy W' (some (w.heap.size + 1 + 1)) → w.grownBy W' (some rb) := fun h1 h2 => grown_trans h1 h2 (fun k hk => Or.inr (by cases hk; omega))
  have hG0 := grown_any hg0 (some rb)
  generalize hz : w.heap.size = z at *
  clear h hg0
  refine (number8_yes _ bo bn bc rb g B i h0 (by omega)).mono ?_
  rintro e w1 ⟨rfl, hc1, hg1⟩
  have hL1 := hL0.kept hg1 hrbl
  have hG1 := grown_trans hG0 hg1 (fun k hk => Or.inl hk)
  clear hL0 hG0 hg1 h0
  obtain ⟨T, hT⟩ : ∃ T, Hid (T = tAt B i) := ⟨tAt B i, (rfl : _ = _)⟩
  rw [show wrap64 ((val ((B.drop i).take 8) : Nat) : Int) = T from hT.out.symm]
  have hfe := hL1.fe
  have e0 := hL1.e0
  go_wp2_with fail
  have hs2 := setCell_grown w1 (z + 1 + 1) 0 (.int .i64 T)
  have hL2 := (hL1.set (.int .i64 T)).1
  have hzr : some (z + 1 + 1) ≠ some rb := by simp; omega
  have hzg : some (z + 1 + 1) ≠ some g := by simp; omega
  have hzb : ∀ b, bo = some b → some b.block ≠ some (z + 1 + 1) := fun b hb => by have := hbz b hb; simp; omega
  have hc2 := hc1.kept hs2 hzr hzg hzb
  have hG2 := hlow hG1 hs2
  clear hL1 hc1 hs2 hG1 hfe e0
  generalize w1.setCell ⟨z + 1 + 1, 0, none⟩ (.int .i64 T) = w2 at *
  obtain ⟨KN, hKN⟩ : ∃ KN, Hid (KN = kAt B i) := ⟨kAt B i, (rfl : _ = _)⟩
  obtain ⟨VN, hVN⟩ : ∃ VN, Hid (VN = vAt B i) := ⟨vAt B i, (rfl : _ = _)⟩
  rw [← hKN.out] at h8
  rw [← hKN.out, ← hVN.out] at hk
  have hkl : KN < 65536 := by
    rw [hKN.out]
    have h3 := val_lt ((B.drop (i + 8)).take 2)
    have h4 : 256 ^ ((B.drop (i + 8)).take 2).length ≤ 256 ^ 2 := Nat.pow_le_pow_right (by omega) (by simp; omega)
    exact Nat.lt_of_lt_of_le h3 h4
  have hvl : VN < 65536 := by
    rw [hVN.out]
    have h3 := val_lt ((B.drop (i + 10)).take 2)
    have h4 : 256 ^ ((B.drop (i + 10)).take 2).length ≤ 256 ^ 2 := Nat.pow_le_pow_right (by omega) (by simp; omega)
    exact Nat.lt_of_lt_of_le h3 h4
  have hn1 : ∀ W, Ct W bo bn bc rb g B (i + 8) → Calls Tryz.prog 203 #[.agg #[.slice bo bn bc, .pointer (some ⟨rb, 0, none⟩)]] W fun e w' => e = .returned (.int .u16 KN) ∧ Ct w' bo bn bc rb g B (i + 10) ∧ W.grownBy w' (some rb) := fun W hW => by
    rw [hKN.out]; exact number2_yes W bo bn bc rb g B (i + 8) hW (by omega)
  have hn2 : ∀ W, Ct W bo bn bc rb g B (i + 10) → Calls Tryz.prog 203 #[.agg #[.slice bo bn bc, .pointer (some ⟨rb, 0, none⟩)]] W fun e w' => e = .returned (.int .u16 VN) ∧ Ct w' bo bn bc rb g B (i + 12) ∧ W.grownBy w' (some rb) := fun W hW => by
    rw [hVN.out]; exact number2_yes W bo bn bc rb g B (i + 10) hW (by omega)
  have p0 := hL2.c0
  have p1 := hL2.c1
  have hwk : IntKind.i64.wrap (KN : Int) = (KN : Int) := IntWalk.i64_in _ (by omega)
  have hwv : IntKind.i64.wrap (VN : Int) = (VN : Int) := IntWalk.i64_in _ (by omega)
  go_region_held3 (fun w' => w'.cell? ⟨z, 0, none⟩ = some (.slice bo bn bc) ∧ w'.cell? ⟨z, 1, none⟩ = some (.pointer (some ⟨rb, 0, none⟩))) (first | exact ⟨r0, r1⟩ | exact ⟨q0, q1⟩ | exact ⟨p0, p1⟩) (first
    | (go_at_call 203; refine (hn2 _ hc3).mono ?_; rintro e w4 ⟨rfl, hc4, hg4⟩; have hL4 := hL3.kept hg4 hrbl; have r0 := hL4.c0; have r1 := hL4.c1)
    | (go_at_call 203; refine (hn1 _ (hc2.grown (grown_drewN w2 1 none))).mono ?_; rintro e w3 ⟨rfl, hc3, hg3⟩; have hL3 := (hL2.kept (grown_drewN w2 1 (some rb)) hrbl).kept hg3 hrbl; have q0 := hL3.c0; have q1 := hL3.c1))
  have hG4 := grown_trans (grown_trans (grown_trans hG2 (grown_drewN w2 1 (some rb)) (fun k hk => Or.inl hk)) hg3 (fun k hk => Or.inl hk)) hg4 (fun k hk => Or.inl hk)
  clear hL2 hL3 hc2 hc3 hg3 hg4 hG2 p0 p1 q0 q1 hn1 hn2 hwk hwv
  go_wp2_with fail
  refine (passC_yes _ bo bn bc rb g B (i + 12) KN hc4 (by omega) hpos).mono ?_
  rintro e w5 ⟨po, pc, rfl, hb5, hpo, hpc, hc5, hg5⟩
  have hL5 := hL4.kept hg5 hrbl
  have hG5 := grown_trans hG4 hg5 (fun k hk => Or.inl hk)
  have f5 := hL5.fe
  have g5 := hL5.e1
  have m0 := hL5.c0
  have m1 := hL5.c1
  clear hL4 hc4 hg5 hG4 r0 r1
  go_wp2_with fail
  have hs6 := setCell_grown w5 (z + 1 + 1) 1 (.slice po KN pc)
  have hL6 := (hL5.set (.slice po KN pc)).2.1
  have hc6 := hc5.kept hs6 hzr hzg hzb
  have hb6 := hb5.kept hs6 (fun a ha => by obtain ⟨b, hb, e⟩ := hpo a ha; rw [e]; exact hzb b hb)
  have hG6 := hlow hG5 hs6
  clear hL5 hc5 hs6 hb5 hG5 f5 g5 m0 m1
  generalize w5.setCell ⟨z + 1 + 1, 1, none⟩ (.slice po KN pc) = w6 at *
  refine (passC_no _ bo bn bc rb g B (i + 12 + KN) hc6 VN (by omega) (by omega)).mono ?_
  rintro e w7 ⟨rfl, hg7⟩
  have hG7 := grown_trans hG6 hg7 (fun k hk => Or.inl hk)
  go_wp2
  exact ⟨rfl, rfl, hG7⟩
theorem record_no (w : World) (bo : Option Addr) (bn bc rb g : Nat) (B : List UInt8) (i : Nat) (h : Ct w bo bn bc rb g B i) (hpos : 0 < bn) (hk : bn < i + 12 + kAt B i + vAt B i) :
    Calls Tryz.prog 185 #[.agg #[.slice bo bn bc, .pointer (some ⟨rb, 0, none⟩)]] w fun e w' => e = .panicked oops ∧ w.grownBy w' (some rb) := by
  by_cases h1 : bn < i + 8
  · exact record_no1 w bo bn bc rb g B i h hpos h1
  by_cases h2 : bn < i + 12
  · exact record_no2 w bo bn bc rb g B i h hpos (by omega) h2
  by_cases h4 : bn < i + 12 + kAt B i
  · exact record_no4 w bo bn bc rb g B i h hpos (by omega) h4
  exact record_no5 w bo bn bc rb g B i h hpos (by omega) hk
end Go.Proofs.YtlghcboenkglnaaGreatDoor.Rec
