/-
  find, of a place where a whole batch stands: the walk.
-/
import Derived.Test.YtlfgikhjcimppabB11
import Derived.Test.YtlfgikhjcimppabD1
namespace Go.Proofs.Ytlfgikhjcimppab
open Go.RowKit
set_option linter.unusedVariables false

/-- Bytes that are a whole batch, as cut asks. -/
structure Whole (B : List UInt8) (bn : Nat) : Prop where
  low : 32 ≤ bn
  top : bn ≤ 65536
  sum : sAt B = sm (B.drop 8)
  fin : posAt B (cAt B) = bn
  ins : ∀ j, j < cAt B → posAt B (j + 1) ≤ bn
  meas : ∀ rs : List Rc, rs.length = cAt B → (∀ j r, rs[j]? = some r → r.t = tAt B (posAt B j) ∧ r.kn = kAt B (posAt B j) ∧ r.vn = vAt B (posAt B j)) → (measR (bAt B) rs).2 = 0
set_option maxRecDepth 100000 in
set_option maxHeartbeats 4000000 in
theorem find_yes (w : World) (b o n cap i S : Nat) (L : List UInt8) (hb : Bs w (some ⟨b, o, none⟩) n cap L) (hi : i ≤ n) (hn : n ≤ 1048576) (hcap : cap ≤ 9223372036854775807) (hE : extR (L.drop i) = (S, 0)) (hiS : i + S ≤ n) (hW : Whole ((L.drop i).take S) S) :
    Calls Try.prog 22 #[.slice (some ⟨b, o, none⟩) n cap, .int .i64 i] w fun e w' => ∃ base ro rc rs, w.heap.size ≤ base ∧ e = .returned (.tuple #[.agg #[.int .i64 (bAt ((L.drop i).take S)), .slice ro (cAt ((L.drop i).take S)) rc, .int .i64 S], .int .i64 0]) ∧ Rw w' base ro (cAt ((L.drop i).take S)) rc rs ∧ (∀ j r, rs[j]? = some r → Cut w' (some ⟨b, o + i, none⟩) (cap - i) ((L.drop i).take S) (posAt ((L.drop i).take S) j) r) ∧ w.grownBy w' none := by
  have hroom := hb.room
  have hg0 := alloc_grown w (.cells #[.int .i64 0, .slice none 0 0, .int .i64 0] 61)
  have k0 := heap_alloc_new w (.cells #[.int .i64 0, .slice none 0 0, .int .i64 0] 61)
  have hlow := hW.low
  have hbs : Bs w (some ⟨b, o + i, none⟩) S (cap - i) ((L.drop i).take S) := (hb.drop i hi (o + i) (Or.inr rfl)).take S (by omega)
  have hcut : ∀ W, w.grownBy W none → Calls Try.prog 33 #[.slice (some ⟨b, o + i, none⟩) S (cap - i)] W fun e w' => ∃ base ro rc rs, W.heap.size ≤ base ∧ e = .returned (.tuple #[.agg #[.int .i64 (bAt ((L.drop i).take S)), .slice ro (cAt ((L.drop i).take S)) rc], .int .i64 0]) ∧ Rw w' base ro (cAt ((L.drop i).take S)) rc rs ∧ (∀ j r, rs[j]? = some r → Cut w' (some ⟨b, o + i, none⟩) (cap - i) ((L.drop i).take S) (posAt ((L.drop i).take S) j) r) ∧ W.grownBy w' none :=
    fun W hg => cut_yes W _ S (cap - i) _ (hbs.grown hg) hW.low hW.top (by omega) hW.sum hW.fin hW.ins hW.meas
  generalize (L.drop i).take S = B at *
  have hext := fun W (hg : w.grownBy W none) => extent_any W b o n cap i L (hb.grown hg) hi hn
  rw [hE] at hext
  have j0 : (0 : Int) ≤ (i : Int) := by omega
  obtain ⟨T, hT⟩ : ∃ T, Hid (T = i + S) := ⟨i + S, (rfl : _ = _)⟩
  have hTs : ((i : Int) + (S : Int)) = (T : Int) := by have := hT.out; omega
  have t1 : i ≤ T ∧ T ≤ n ∧ T ≤ cap ∧ T - i = S := by have := hT.out; omega
  obtain ⟨t1, t2, t3, t4⟩ := t1
  have j1 : (i : Int) ≤ (T : Int) := by omega
  have j2 : (T : Int) ≤ (cap : Int) := by omega
  have hc1 : ¬ cap = i := by omega
  have hc2 : ¬ i = cap := by omega
  clear hW hE hiS
  go_enter Try.func22, Try.ntmps22
  go_wp2_with fail
  generalize w.alloc (.cells #[.int .i64 0, .slice none 0 0, .int .i64 0] 61) = w0 at *
  refine (hext _ hg0).mono ?_
  rintro e w1 ⟨rfl, hg1⟩
  have hG1 := grown_trans hg0 hg1 (by simp)
  go_wp2_with fail
  refine (hcut _ hG1).mono ?_
  rintro e w2 ⟨base, ro, rc, rs, hba, rfl, hR, hCut, hg2⟩
  have hG2 := grown_trans hG1 hg2 (by simp)
  have hz2 := ((hg2.block _ (Nat.lt_of_lt_of_le (Nat.lt_of_lt_of_le (by have := hg0.size; rcases Nat.lt_or_ge w.heap.size w0.heap.size with h | h; exact h; rw [Array.getElem?_eq_none h] at k0; cases k0) hg1.size) (Nat.le_refl _)) (by simp)).trans (hg1.block _ (by rcases Nat.lt_or_ge w.heap.size w0.heap.size with h | h; exact h; rw [Array.getElem?_eq_none h] at k0; cases k0) (by simp))).trans k0
  have hlt2 : w.heap.size < w2.heap.size := by rcases Nat.lt_or_ge w.heap.size w2.heap.size with h | h; exact h; rw [Array.getElem?_eq_none h] at hz2; cases hz2
  have ga := alloc_grown w2 (.cells #[.int .i64 (bAt B), .slice ro (cAt B) rc] 34)
  have hz3 := (ga.block _ hlt2 (by simp)).trans hz2
  have d0 := cell_of (i := 0) (v := .int .i64 0) hz2 rfl
  have d1 := cell_of (i := 1) (v := .slice none 0 0) hz2 rfl
  have d2 := cell_of (i := 2) (v := .int .i64 0) hz2 rfl
  have df := frozen_of hz2
  have hne2 : ¬ w.heap.size = w2.heap.size := by omega
  have hne3 : ¬ w2.heap.size = w.heap.size := by omega
  have k3 := heap_alloc_new w2 (.cells #[.int .i64 (bAt B), .slice ro (cAt B) rc] 34)
  have c0 := cell_of (i := 0) (v := .int .i64 (bAt B)) k3 rfl
  have c1 := cell_of (i := 1) (v := .slice ro (cAt B) rc) k3 rfl
  have hG3 := grown_trans hG2 ga (by simp)
  have hCut3 : ∀ j r, rs[j]? = some r → Cut (w2.alloc (.cells #[.int .i64 (bAt B), .slice ro (cAt B) rc] 34)) (some ⟨b, o + i, none⟩) (cap - i) B (posAt B j) r := fun j r hr => (hCut j r hr).kept ga (fun _ _ => by simp)
  have hR3 := hR.kept ga (by cases ro; exact Or.inl rfl; right; simp [blk])
  have hs1 := hg1.size
  have hs0 := hg0.size
  have hbw : b < w.heap.size := by obtain ⟨_, _, e1, hl⟩ := hb.addr (by omega); cases e1; exact hl
  have hR' := hR
  have hCut' := hCut
  have hG' := hG2
  have hl0 : w.heap.size < w0.heap.size := by rcases Nat.lt_or_ge w.heap.size w0.heap.size with h | h; exact h; rw [Array.getElem?_eq_none h] at k0; cases k0
  have hrw : blk ro = none ∨ blk ro ≠ some w.heap.size := by
    cases hbk : blk ro with
    | none => exact Or.inl rfl
    | some k => right; have := (hR.from_base k hbk).1; intro e; simp at e; omega
  clear hz2 hz3 k3 hcut hext k0 hg2 hg1 hg0 hG1 hG2 hR hCut ga
  go_wp2_with fail
  have q1 := setCell_grown w2 w.heap.size 0 (.int .i64 (bAt B))
  have q2 := setCell_grown (w2.setCell ⟨w.heap.size, 0, none⟩ (.int .i64 (bAt B))) w.heap.size 1 (.slice ro (cAt B) rc)
  have q3 := setCell_grown ((w2.setCell ⟨w.heap.size, 0, none⟩ (.int .i64 (bAt B))).setCell ⟨w.heap.size, 1, none⟩ (.slice ro (cAt B) rc)) w.heap.size 2 (.int .i64 S)
  have q := grown_trans (grown_trans q1 q2 (fun k hk => Or.inl hk)) q3 (fun k hk => Or.inl hk)
  have q4 := alloc_grown (((w2.setCell ⟨w.heap.size, 0, none⟩ (.int .i64 (bAt B))).setCell ⟨w.heap.size, 1, none⟩ (.slice ro (cAt B) rc)).setCell ⟨w.heap.size, 2, none⟩ (.int .i64 S)) (.cells #[.int .i64 (bAt B), .slice ro (cAt B) rc] 34)
  have y0 : ((((w2.setCell ⟨w.heap.size, 0, none⟩ (.int .i64 (bAt B))).setCell ⟨w.heap.size, 1, none⟩ (.slice ro (cAt B) rc)).setCell ⟨w.heap.size, 2, none⟩ (.int .i64 S)).alloc (.cells #[.int .i64 (bAt B), .slice ro (cAt B) rc] 34)).cell? ⟨w.heap.size, 0, none⟩ = some (.int .i64 (bAt B)) := q4.cell (by rw [World.cell?_setCell_other _ _ _ _ (by simp), World.cell?_setCell_other _ _ _ _ (by simp)]; exact World.cell?_setCell_same _ _ _ d0) (by simp)
  have y1 : ((((w2.setCell ⟨w.heap.size, 0, none⟩ (.int .i64 (bAt B))).setCell ⟨w.heap.size, 1, none⟩ (.slice ro (cAt B) rc)).setCell ⟨w.heap.size, 2, none⟩ (.int .i64 S)).alloc (.cells #[.int .i64 (bAt B), .slice ro (cAt B) rc] 34)).cell? ⟨w.heap.size, 1, none⟩ = some (.slice ro (cAt B) rc) := q4.cell (by rw [World.cell?_setCell_other _ _ _ _ (by simp)]; exact World.cell?_setCell_same (u := .slice none 0 0) _ _ _ (by rw [World.cell?_setCell_other _ _ _ _ (by simp)]; exact d1)) (by simp)
  have y2 : ((((w2.setCell ⟨w.heap.size, 0, none⟩ (.int .i64 (bAt B))).setCell ⟨w.heap.size, 1, none⟩ (.slice ro (cAt B) rc)).setCell ⟨w.heap.size, 2, none⟩ (.int .i64 S)).alloc (.cells #[.int .i64 (bAt B), .slice ro (cAt B) rc] 34)).cell? ⟨w.heap.size, 2, none⟩ = some (.int .i64 S) := q4.cell (World.cell?_setCell_same (u := .int .i64 0) _ _ _ (by rw [World.cell?_setCell_other _ _ _ _ (by simp), World.cell?_setCell_other _ _ _ _ (by simp)]; exact d2)) (by simp)
  have hR6 := (hR'.kept q hrw).kept q4 (by cases ro; exact Or.inl rfl; right; simp [blk])
  have hCut6 : ∀ j r, rs[j]? = some r → Cut ((((w2.setCell ⟨w.heap.size, 0, none⟩ (.int .i64 (bAt B))).setCell ⟨w.heap.size, 1, none⟩ (.slice ro (cAt B) rc)).setCell ⟨w.heap.size, 2, none⟩ (.int .i64 S)).alloc (.cells #[.int .i64 (bAt B), .slice ro (cAt B) rc] 34)) (some ⟨b, o + i, none⟩) (cap - i) B (posAt B j) r := fun j r hr => ((hCut' j r hr).kept q (fun x hx => by cases hx; simp; omega)).kept q4 (fun _ _ => by simp)
  have hG6 := grown_trans (grown_trans hG' q (fun k hk => Or.inr (by cases hk; exact Nat.le_refl _))) q4 (by simp)
  clear q q1 q2 q3 q4 d0 d1 d2 df hR' hCut' hG' hR3 hCut3 hG3 c0 c1
  generalize (((w2.setCell ⟨w.heap.size, 0, none⟩ (.int .i64 (bAt B))).setCell ⟨w.heap.size, 1, none⟩ (.slice ro (cAt B) rc)).setCell ⟨w.heap.size, 2, none⟩ (.int .i64 S)).alloc (.cells #[.int .i64 (bAt B), .slice ro (cAt B) rc] 34) = w6 at *
  refine bodyPost_ret (v := .tuple #[.agg #[.int .i64 (bAt B), .slice ro (cAt B) rc, .int .i64 S], .int .i64 0]) (by simp [results, Try.results22, go_sem, y0, y1, y2]) rfl ?_
  exact ⟨base, ro, rc, rs, Nat.le_trans (Nat.le_trans hs0 hs1) hba, rfl, hR6, hCut6, hG6⟩
end Go.Proofs.Ytlfgikhjcimppab
