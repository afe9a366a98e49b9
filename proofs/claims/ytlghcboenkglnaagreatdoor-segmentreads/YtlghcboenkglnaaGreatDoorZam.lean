import Derived.Test.YtlghcboenkglnaaGreatDoorRecB11
import Derived.Test.YtlghcboenkglnaaGreatDoorZah
/-
  find, of a place where a whole batch stands: the walk.
-/
namespace Go.Proofs.YtlghcboenkglnaaGreatDoor.Rec
open Go.Proofs.YtlghcboenkglnaaGreatDoor
open Go.RowKit
set_option linter.unusedVariables false

/-- Bytes that are a whole batch, as cut asks. -/
structure Whole (B : List UInt8) (bn : Nat) : Prop where
  low : 32 ≤ bn
  top : bn ≤ 65536
  sum : sAt B = sm (B.drop 8)
  fin : posAt B (cAt B) = bn
  ins : ∀ j, j < cAt B → posAt B (j + 1) ≤ bn
  meas : ∀ rs : List Rc, rs.length = cAt B → (∀ j r, rs[j]? = some r → r.t = tAt B (posAt B j) ∧ r.kn = kAt B (posAt B j) ∧ r.vn = vAt B (posAt B j)) → (measR (bAt B) rs).2 = 0
set_option maxRecDepth 100000 in
set_option maxHeartbeats 4000000 in
theorem find_yes (w : World) (b o n cap i S : Nat) (L : List UInt8) (hb : Bs w (some ⟨b, o, none⟩) n cap L) (hi : i ≤ n) (hn : n ≤ 16777216) (hcap : cap ≤ 9223372036854775807) (hE : extR (L.drop i) = (S, 0)) (hiS : i + S ≤ n) (hW : Whole ((L.drop i).take S) S) :
    Calls Tryz.prog 146 #[.slice (some ⟨b, o, none⟩) n cap, .int .i64 i] w fun e w' => ∃ base ro rc rs, w.heap.size ≤ base ∧ e = .returned (.tuple #[.agg #[.int .i64 (bAt ((L.drop i).take S)), .slice ro (cAt ((L.drop i).take S)) rc, .int .i64 S], .int .i64 0]) ∧ Rw w' base ro (cAt ((L.drop i).take S)) rc rs ∧ (∀ j r, rs[j]? = some r → Cut w' (some ⟨b, o + i, none⟩) (cap - i) ((L.drop i).take S) (posAt ((L.drop i).take S) j) r) ∧ w.grownBy w' none := by
  have hroom := hb.room
  have hg0 := alloc_grown w (.cells #[.int .i64 0, .slice none 0 0, .int .i64 0] 226)
  have k0 := heap_alloc_new w (.cells #[.int .i64 0, .slice none 0 0, .int .i64 0] 226)
  have hlow := hW.low
  have hbs : Bs w (some ⟨b, o + i, none⟩) S (cap - i) ((L.drop i).take S) := (hb.drop i hi (o + i) (Or.inr rfl)).take S (by omega)
  have hcut : ∀ W, w.grownBy W none → Calls Tryz.prog 165 #[.slice (some ⟨b, o + i, none⟩) S (cap - i)] W fun e w' => ∃ base ro rc rs, W.heap.size ≤ base ∧ e = .returned (.tuple #[.agg #[.int .i64 (bAt ((L.drop i).take S)), .slice ro (cAt ((L.drop i).take S)) rc], .int .i64 0]) ∧ Rw w' base ro (cAt ((L.drop i).take S)) rc rs ∧ (∀ j r, rs[j]? = some r → Cut w' (some ⟨b, o + i, none⟩) (cap - i) ((L.drop i).take S) (posAt ((L.drop i).take S) j) r) ∧ W.grownBy w' none :=
    fun W hg => cut_yes W _ S (cap - i) _ (hbs.grown hg) hW.low hW.top (by omega) hW.sum hW.fin hW.ins hW.meas
  generalize (L.drop i).take S = B at *
  have hext := fun W (hg : w.grownBy W none) => extent_any W b o n cap i L (hb.grown hg) hi hn
  rw [hE] at hext
  have j0 : (0 : Int) ≤ (i : Int) := by omega
  obtain ⟨T, hT⟩ : ∃ T, Hid (T = i + S) := ⟨i + S, (rfl : _ = _)⟩
  have hTs : ((i : Int) + (S : Int)) = (T : Int) := by have := hT.out; omega
  have t1 : i ≤ T ∧ T ≤ n ∧ T ≤ cap ∧ T - i = S := by have := hT.out; omega
  obtain ⟨t1, t2, t3, t4⟩ := t1
  have j1 : (i : Int) ≤ (T : Int) := by omega
  have j2 : (T : Int) ≤ (cap : Int) := by omega
  have hc1 : ¬ cap = i := by omega
  have hc2 : ¬ i = cap := by omega
  clear hW hE hiS
  go_enter Tryz.func146, Tryz.ntmps146
  go_wp2_with fail
  generalize w.alloc (.cells #[.int .i64 0, .slice none 0 0, .int .i64 0] 226) = w0 at *
  refine (hext _ hg0).mono ?_
  rintro e w1 ⟨rfl, hg1⟩
  have hG1 := grown_trans hg0 hg1 (by simp)
  go_wp2_with fail
  refine (hcut _ hG1).mono ?_
  rintro e w2 ⟨base, ro, rc, rs, hba, rfl, hR, hCut, hg2⟩
  have hG2 := grown_trans hG1 hg2 (by simp)
  have hz2 := ((hg2.block _ (Nat.lt_of_lt_of_le (Nat.lt_of_lt_of_le (by have := hg0.size; rcases Nat.lt_or_ge w.heap.size w0.heap.size with h | h; exact h; rw [Array.getElem?_eq_none h] at k0; cases k0) hg1.size) (Nat.le_refl _)) (by simp)).trans (hg1.block _ (by rcases Nat.lt_or_ge w.heap.size w0.heap.size with h | h; exact h; rw [Array.getElem?_eq_none h] at k0; cases k0) (by simp))).trans k0
  have hlt2 : w.heap.size < w2.heap.size := by rcases Nat.lt_or_ge w.heap.size w2.heap.size with h | h; exact h; rw [Array.getElem?_eq_none h] at hz2; cases hz2
  have ga := alloc_grown w2 (.cells #[.int .i64 (bAt B), .slice ro (cAt B) rc] 54)
  have hz3 := (ga.block _ hlt2 (by simp)).trans hz2
  have d0 := cell_of (i := 0) (v := .int .i64 0) hz2 rfl
  have d1 := cell_of (i := 1) (v := .slice none 0 0) hz2 rfl
  have d2 := cell_of (i := 2) (v := .int .i64 0) hz2 rfl
  have df := frozen_of hz2
  have hne2 : ¬ w.heap.size = w2.heap.size := by omega
  have hne3 : ¬ w2.heap.size = w.heap.size := by omega
  have k3 := heap_alloc_new w2 (.cells #[.int .i64 (bAt B), .slice ro (cAt B) rc] 54)
  have c0 := cell_of (i := 0) (v := .int .i64 (bAt B)) k3 rfl
  have c1 := cell_of (i := 1) (v := .slice ro (cAt B) rc) k3 rfl
  have hG3 := grown_trans hG2 ga (by simp)
  have hCut3 : ∀ j r, rs[j]? = some r → Cut (w2.alloc (.cells #[.int .i64 (bAt B), .slice ro (cAt B) rc] 54)) (some ⟨b, o + i, none⟩) (cap - i) B (posAt B j) r := fun j r hr => (hCut j r hr).kept ga (fun _ _ => by simp)
  have hR3 := hR.kept ga (by cases ro; exact Or.inl rfl; right; simp [blk])
  have hs1 := hg1.size
  have hs0 := hg0.size
  have hbw : b < w.heap.size := by obtain ⟨_, _, e1, hl⟩ := hb.addr (by omega); cases e1; exact hl
  have hR' := hR
  have hCut' := hCut
  have hG' := hG2
  have hl0 : w.heap.size < w0.heap.size := by rcases Nat.lt_or_ge w.heap.size w0.heap.size with h | h; exact h; rw [Array.getElem?_eq_none h] at k0; cases k0
  have hrw : blk ro = none ∨ blk ro ≠ some w.heap.size := by
    cases hbk : blk ro with
    | none => exact Or.inl rfl
    | some k => right; have := (hR.from_base k hbk).1; intro e; simp at e; omega
  clear hz2 hz3 k3 hcut hext k0 hg2 hg1 hg0 hG1 hG2 hR hCut ga
  go_wp2_with fail
  have q1 := setCell_grown w2 w.heap.size 0 (.int .i64 (bAt B))
  have q2 := setCell_grown (w2.setCell ⟨w.heap.size, 0, none⟩ (.int .i64 (bAt B))) w.heap.size 1 (.slice ro (cAt B) rc)
  have q3 := setCell_grown ((w2.setCell ⟨w.heap.size, 0, none⟩ (.int .i64 (bAt B))).setCell ⟨w.heap.size, 1, none⟩ (.slice ro (cAt B) rc)) w.heap.size 2 (.int .i64 S)
  have q := grown_trans (grown_trans q1 q2 (fun k hk => Or.inl hk)) q3 (fun k hk => Or.inl hk)
  have q4 := alloc_grown (((w2.setCell ⟨w.heap.size, 0, none⟩ (.int .i64 (bAt B))).setCell ⟨w.heap.size, 1, none⟩ (.slice ro (cAt B) rc)).setCell ⟨w.heap.size, 2, none⟩ (.int .i64 S)) (.cells #[.int .i64 (bAt B), .slice ro (cAt B) rc] 54)
  have y0 : ((((w2.setCell ⟨w.heap.size, 0, none⟩ (.int .i64 (bAt B))).setCell ⟨w.heap.size, 1, none⟩ (.slice ro (cAt B) rc)).setCell ⟨w.heap.size, 2, none⟩ (.int .i64 S)).alloc (.cells #[.int .i64 (bAt B), .slice ro (cAt B) rc] 54)).cell? ⟨w.heap.size, 0, none⟩ = some (.int .i64 (bAt B)) := q4.cell (by rw [World.cell?_setCell_other _ _ _ _ (by simp), World.cell?_setCell_other _ _ _ _ (by simp)]; exact World.cell?_setCell_same _ _ _ d0) (by simp)
  have y1 : ((((w2.setCell ⟨w.heap.size, 0, none⟩ (.int .i64 (bAt B))).setCell ⟨w.heap.size, 1, none⟩ (.slice ro (cAt B) rc)).setCell ⟨w.heap.size, 2, none⟩ (.int .i64 S)).alloc (.cells #[.int .i64 (bAt B), .slice ro (cAt B) rc] 54)).cell? ⟨w.heap.size, 1, none⟩ = some (.slice ro (cAt B) rc) := q4.cell (by rw [World.cell?_setCell_other _ _ _ _ (by simp)]; exact World.cell?_setCell_same (u := .slice none 0 0) _ _ _ (by rw [World.cell?_setCell_other _ _ _ _ (by simp)]; exact d1)) (by simp)
  have y2 : ((((w2.setCell ⟨w.heap.size, 0, none⟩ (.int .i64 (bAt B))).setCell ⟨w.heap.size, 1, none⟩ (.slice ro (cAt B) rc)).setCell ⟨w.heap.size, 2, none⟩ (.int .i64 S)).alloc (.cells #[.int .i64 (bAt B), .slice ro (cAt B) rc] 54)).cell? ⟨w.heap.size, 2, none⟩ = some (.int .i64 S) := q4.cell (World.cell?_setCell_same (u := .int .i64 0) _ _ _ (by rw [World.cell?_setCell_other _ _ _ _ (by simp), World.cell?_setCell_other _ _ _ _ (by simp)]; exact d2)) (by simp)
  have hR6 := (hR'.kept q hrw).kept q4 (by cases ro; exact Or.inl rfl; right; simp [blk])
  have hCut6 : ∀ j r, rs[j]? = some r → Cut ((((w2.setCell ⟨w.heap.size, 0, none⟩ (.int .i64 (bAt B))).setCell ⟨w.heap.size, 1, none⟩ (.slice ro (cAt B) rc)).setCell ⟨w.heap.size, 2, none⟩ (.int .i64 S)).alloc (.cells #[.int .i64 (bAt B), .slice ro (cAt B) rc] 54)) (some ⟨b, o + i, none⟩) (cap - i) B (posAt B j) r := fun j r hr => ((hCut' j r hr).kept q (fun x hx => by cases hx; simp; omega)).kept q4 (fun _ _ => by simp)
  have hG6 := grown_trans (grown_trans hG' q (fun k hk => Or.inr (by cases hk; exact Nat.le_refl _))) q4 (by simp)
  clear q q1 q2 q3 q4 d0 d1 d2 df hR' hCut' hG' hR3 hCut3 hG3 c0 c1
  generalize (((w2.setCell ⟨w.heap.size, 0, none⟩ (.int .i64 (bAt B))).setCell ⟨w.heap.size, 1, none⟩ (.slice ro (cAt B) rc)).setCell ⟨w.heap.size, 2, none⟩ (.int .i64 S)).alloc (.cells #[.int .i64 (bAt B), .slice ro (cAt B) rc] 54) = w6 at *
  refine bodyPost_ret (v := .tuple #[.agg #[.int .i64 (bAt B), .slice ro (cAt B) rc, .int .i64 S], .int .i64 0]) (by simp [results, Tryz.results146, go_sem, y0, y1, y2]) rfl ?_
  exact ⟨base, ro, rc, rs, Nat.le_trans (Nat.le_trans hs0 hs1) hba, rfl, hR6, hCut6, hG6⟩
end Go.Proofs.YtlghcboenkglnaaGreatDoor.Rec

/-
  A batch's bytes are whole, and say what was put.
-/
namespace Go.Proofs.YtlghcboenkglnaaGreatDoor.Rec
open Go.Proofs.YtlghcboenkglnaaGreatDoor
open Go.RowKit
set_option linter.unusedVariables false

/-- Records whose heads tell their bytes' lengths, and that may be. -/
structure Good (r : Rc) : Prop where
  k : r.k.length = r.kn
  v : r.v.length = r.vn
  may : mayR r = true
theorem Good.len {r : Rc} (h : Good r) : (rby r).length = 12 + r.kn + r.vn := by
  unfold rby
  simp [i8_len, low_length, h.k, h.v]
  omega
theorem flat_len {l : List Rc} (h : ∀ r ∈ l, Good r) : ((l.map rby).flatten).length = szs l := by
  induction l with
  | nil => rfl
  | cons r t ih =>
    have h1 := (h r (List.mem_cons_self ..)).len
    have h2 := ih fun q hq => h q (List.mem_cons_of_mem _ hq)
    unfold szs at *
    simp only [List.map_cons, List.flatten_cons, List.length_append, List.sum_cons]
    rw [h1, h2]
theorem body_len {base : Int} {l : List Rc} (h : ∀ r ∈ l, Good r) : (bodyB base l).length = 12 + szs l := by
  unfold bodyB
  simp only [List.length_append, i8_len, low_length, flat_len h]
theorem bat_len {base : Int} {l : List Rc} (h : ∀ r ∈ l, Good r) : (batB base l).length = 20 + szs l := by
  unfold batB
  simp only [List.length_append, low_length, body_len h]
  omega
theorem drop_pre {p t : List UInt8} {n : Nat} (h : p.length = n) : (p ++ t).drop n = t := by rw [← h, List.drop_left]
theorem take_pre' {p t : List UInt8} {n : Nat} (h : p.length = n) : (p ++ t).take n = p := by rw [← h, List.take_left]
theorem bat_drop4 (base : Int) (l : List Rc) : (batB base l).drop 4 = low (sm (bodyB base l)) 4 ++ bodyB base l := by
  unfold batB
  rw [List.append_assoc]
  exact drop_pre (low_length _ _)
theorem bat_drop8 (base : Int) (l : List Rc) : (batB base l).drop 8 = bodyB base l := by
  unfold batB
  exact drop_pre (by simp [low_length])
theorem bat_drop16 (base : Int) (l : List Rc) : (batB base l).drop 16 = low l.length 4 ++ (l.map rby).flatten := by
  rw [show (16 : Nat) = 8 + 8 from rfl, ← List.drop_drop, bat_drop8]
  unfold bodyB
  rw [List.append_assoc]
  exact drop_pre (i8_len _)
theorem bat_drop20 (base : Int) (l : List Rc) : (batB base l).drop 20 = (l.map rby).flatten := by
  rw [show (20 : Nat) = 16 + 4 from rfl, ← List.drop_drop, bat_drop16]
  exact drop_pre (low_length _ _)
theorem sAt_bat (base : Int) (l : List Rc) : sAt (batB base l) = sm ((batB base l).drop 8) := by
  unfold sAt
  rw [bat_drop4, bat_drop8, take_pre' (low_length _ _), val_low]
  exact Nat.mod_eq_of_lt (sm_lt _)
theorem val_i8 (t : Int) : val (i8 t) = (t % 18446744073709551616).toNat := by
  unfold i8
  rw [val_low]
  exact Nat.mod_eq_of_lt (by omega)
theorem bAt_bat {base : Int} (h0 : 0 ≤ base) (h1 : base < 9223372036854775808) (l : List Rc) : bAt (batB base l) = base := by
  unfold bAt
  rw [bat_drop8]
  unfold bodyB
  rw [List.append_assoc, take_pre' (i8_len _), val_i8]
  unfold wrap64
  omega
theorem cAt_bat (base : Int) {l : List Rc} (h : l.length ≤ 256) : cAt (batB base l) = l.length := by
  unfold cAt
  rw [bat_drop16, take_pre' (low_length _ _), val_low]
  exact Nat.mod_eq_of_lt (by omega)
theorem bat_dropN (base : Int) {l : List Rc} (h : ∀ r ∈ l, Good r) (j : Nat) : (batB base l).drop (20 + szs (l.take j)) = ((l.drop j).map rby).flatten := by
  rw [← List.drop_drop, bat_drop20]
  conv => lhs; rw [← List.take_append_drop j l]
  rw [List.map_append, List.flatten_append]
  have h2 : ((((l.take j).map rby).flatten).length) = szs (l.take j) := flat_len fun r hr => h r (List.mem_of_mem_take hr)
  rw [List.take_append_drop]
  exact drop_pre h2
theorem bat_at (base : Int) {l : List Rc} (h : ∀ r ∈ l, Good r) {j : Nat} (hj : j < l.length) : ∃ T, (batB base l).drop (20 + szs (l.take j)) = rby l[j] ++ T := by
  rw [bat_dropN base h j, List.drop_eq_getElem_cons hj]
  exact ⟨_, rfl⟩
/-- What stands where the record number j begins. -/
theorem bat_says (base : Int) {l : List Rc} (h : ∀ r ∈ l, Good r) {j : Nat} (hj : j < l.length) :
    tAt (batB base l) (20 + szs (l.take j)) = (l[j]).t ∧ kAt (batB base l) (20 + szs (l.take j)) = (l[j]).kn ∧ vAt (batB base l) (20 + szs (l.take j)) = (l[j]).vn ∧
    ((batB base l).drop (20 + szs (l.take j) + 12)).take (l[j]).kn = (l[j]).k ∧ ((batB base l).drop (20 + szs (l.take j) + 12 + (l[j]).kn)).take (l[j]).vn = (l[j]).v := by
  have hg := h _ (List.getElem_mem hj)
  obtain ⟨T, hT⟩ := bat_at base h hj
  have hm := may_small hg.may
  have ht : 0 ≤ (l[j]).t ∧ (l[j]).t ≤ 9007199254740992 := by
    have h9 := hg.may
    unfold mayR mayB at h9
    simp at h9
    omega
  generalize l[j] = r at *
  generalize batB base l = B at *
  generalize 20 + szs (l.take j) = p at *
  unfold rby at hT
  simp only [List.append_assoc] at hT
  have d8 : B.drop (p + 8) = low r.kn 2 ++ (low r.vn 2 ++ (r.k ++ (r.v ++ T))) := by rw [← List.drop_drop, hT]; exact drop_pre (i8_len _)
  have d10 : B.drop (p + 10) = low r.vn 2 ++ (r.k ++ (r.v ++ T)) := by rw [show p + 10 = p + 8 + 2 from rfl, ← List.drop_drop, d8]; exact drop_pre (low_length _ _)
  have d12 : B.drop (p + 12) = r.k ++ (r.v ++ T) := by rw [show p + 12 = p + 10 + 2 from rfl, ← List.drop_drop, d10]; exact drop_pre (low_length _ _)
  have d13 : B.drop (p + 12 + r.kn) = r.v ++ T := by rw [← List.drop_drop, d12]; exact drop_pre hg.k
  refine ⟨?_, ?_, ?_, ?_, ?_⟩
  · unfold tAt
    rw [hT, take_pre' (i8_len _), val_i8]
    unfold wrap64
    omega
  · unfold kAt
    rw [d8, take_pre' (low_length _ _), val_low]
    exact Nat.mod_eq_of_lt (by omega)
  · unfold vAt
    rw [d10, take_pre' (low_length _ _), val_low]
    exact Nat.mod_eq_of_lt (by omega)
  · rw [d12]; exact take_pre' hg.k
  · rw [d13]; exact take_pre' hg.v
theorem pos_bat (base : Int) {l : List Rc} (h : ∀ r ∈ l, Good r) : ∀ j, j ≤ l.length → posAt (batB base l) j = 20 + szs (l.take j)
  | 0, _ => by simp [posAt, szs]
  | j + 1, hj => by
    have ih := pos_bat base h j (by omega)
    obtain ⟨_, h2, h3, _⟩ := bat_says base h (show j < l.length by omega)
    rw [szs_snoc (show j < l.length by omega)]
    unfold posAt
    rw [ih, h2, h3]
    omega
end Go.Proofs.YtlghcboenkglnaaGreatDoor.Rec

/-
  A batch's bytes are whole: what cut and find ask of them holds.
-/
namespace Go.Proofs.YtlghcboenkglnaaGreatDoor.Rec
open Go.Proofs.YtlghcboenkglnaaGreatDoor
open Go.RowKit
set_option linter.unusedVariables false

/-- What measure asks of a record. -/
def mk (r : Rc) : Int × Nat × Nat := (r.t, r.kn, r.vn)
theorem szs_mk (l : List Rc) : szs l = ((l.map mk).map fun x => 12 + x.2.1 + x.2.2).sum := by
  unfold szs
  rw [List.map_map]
  rfl
theorem all_mk (l : List Rc) : l.all mayR = (l.map mk).all fun x => mayB x.1 x.2.1 x.2.2 := by
  rw [List.all_map]
  rfl
theorem fits_mk {l k : List Rc} (h : l.map mk = k.map mk) : fitsR l = fitsR k := by
  have hl : l.length = k.length := by have := congrArg List.length h; simpa using this
  have hn : (l = []) ↔ (k = []) := by rw [← List.length_eq_zero_iff, ← List.length_eq_zero_iff, hl]
  unfold fitsR
  rw [all_mk, all_mk k, szs_mk, szs_mk k, h, hl]
  simp only [hn]
theorem meas_mk {base : Int} {l k : List Rc} (h : l.map mk = k.map mk) : measR base l = measR base k := by
  have hl : l.length = k.length := by have := congrArg List.length h; simpa using this
  unfold measR
  rw [fits_mk h, hl]
theorem bat_whole {base : Int} {l : List Rc} (hg : ∀ r ∈ l, r.k.length = r.kn ∧ r.v.length = r.vn) (hm : (measR base l).2 = 0) : (∀ r ∈ l, Good r) ∧ Whole (batB base l) (20 + szs l) ∧ bAt (batB base l) = base ∧ cAt (batB base l) = l.length := by
  obtain ⟨hf, hoff, hmf⟩ := meas_ok hm
  obtain ⟨hall, hne, hn256, hsz, hsize⟩ := fits_ok hf
  have hgood : ∀ r ∈ l, Good r := fun r hr => ⟨(hg r hr).1, (hg r hr).2, List.all_eq_true.1 hall r hr⟩
  have hb : 0 ≤ base ∧ base < 9223372036854775808 := by
    unfold offB at hoff
    simp at hoff
    omega
  have hbA := bAt_bat hb.1 hb.2 l
  have hcA := cAt_bat base hn256
  have hpos := pos_bat base hgood
  refine ⟨hgood, ⟨?_, hsz, sAt_bat base l, ?_, ?_, ?_⟩, hbA, hcA⟩
  · cases l with
    | nil => exact absurd rfl hne
    | cons r t => unfold szs; simp; omega
  · rw [hcA, hpos l.length (Nat.le_refl _), List.take_length]
  · intro j hj
    rw [hcA] at hj
    rw [hpos (j + 1) (by omega)]
    have := szs_take l (j + 1)
    omega
  · intro rs hlen hrs
    rw [hbA]
    rw [hcA] at hlen
    have he : rs.map mk = l.map mk := by
      apply List.ext_getElem?
      intro j
      by_cases hj : j < l.length
      · have hj2 : j < rs.length := by omega
        obtain ⟨h1, h2, h3⟩ := hrs j rs[j] (List.getElem?_eq_getElem hj2)
        obtain ⟨g1, g2, g3, _⟩ := bat_says base hgood hj
        rw [hpos j (by omega)] at h1 h2 h3
        rw [List.getElem?_map, List.getElem?_map, List.getElem?_eq_getElem hj, List.getElem?_eq_getElem hj2]
        simp only [Option.map_some, mk]
        rw [h1, h2, h3, g1, g2, g3]
      · rw [List.getElem?_eq_none (by simp; omega), List.getElem?_eq_none (by simp; omega)]
    rw [meas_mk he]
    exact hm
/-- At its beginning extent tells a batch's size, whatever stands behind. -/
theorem ext_bat {base : Int} {l : List Rc} (hg : ∀ r ∈ l, r.k.length = r.kn ∧ r.v.length = r.vn) (hm : (measR base l).2 = 0) (more : List UInt8) : extR (batB base l ++ more) = (20 + szs l, 0) := by
  obtain ⟨hgood, hW, _⟩ := bat_whole hg hm
  have hlen := bat_len (base := base) hgood
  have h32 := hW.low
  have htop := hW.top
  have hv : val ((batB base l ++ more).take 4) = 16 + szs l := by
    unfold batB
    rw [List.append_assoc, List.append_assoc, take_pre' (low_length _ _), val_low]
    exact Nat.mod_eq_of_lt (by omega)
  unfold extR
  rw [hv]
  simp only [List.length_append, hlen]
  rw [if_neg (by omega), if_neg (by omega), if_neg (by omega), if_neg (by omega)]
  exact Prod.ext (by simp; omega) rfl
end Go.Proofs.YtlghcboenkglnaaGreatDoor.Rec
