import Derived.Test.YtlghcboenkglnaaGreatDoorZah
import Derived.Test.YtlghcboenkglnaaGreatDoorZae
import Derived.Deep.DeepAppendRoom
/-
  Copy: the walk.
-/
namespace Go.Proofs.YtlghcboenkglnaaGreatDoor.Rec
open Go.Proofs.YtlghcboenkglnaaGreatDoor
open Go.RowKit
set_option linter.unusedVariables false

/-- A row of records. -/
def isRowR : Obj → Bool
  | .cells _ 148 _ => true
  | _ => false
/-- What lies there is no row of records. -/
def NoRow (w : World) (k : Nat) : Prop := ∀ o, w.heap[k]? = some o → isRowR o = false
theorem NoRow.kept {w w' : World} {k : Nat} {row : Option Nat} (h : NoRow w k) (hg : w.grownBy w' row) (hk : k < w.heap.size) (hr : row ≠ some k) : NoRow w' k := fun o ho => h o (by rw [← hg.block k hk (fun e => hr e.symm)]; exact ho)
/-- A row of bytes lies there. -/
def ByR (w : World) (k : Nat) : Prop := ∃ c, w.heap[k]? = some (.cells c 5)
theorem ByR.no {w : World} {k : Nat} (h : ByR w k) : NoRow w k := fun o ho => by
  obtain ⟨c, hc⟩ := h
  rw [hc] at ho
  cases ho
  rfl
theorem ByR.lt {w : World} {k : Nat} (h : ByR w k) : k < w.heap.size := by
  obtain ⟨c, hc⟩ := h
  exact (Array.getElem?_eq_some_iff.1 hc).1
theorem ByR.kept {w w' : World} {k : Nat} {row : Option Nat} (h : ByR w k) (hg : w.grownBy w' row) (hr : row ≠ some k) : ByR w' k := by
  have hl := h.lt
  obtain ⟨c, hc⟩ := h
  exact ⟨c, (hg.block k hl (fun e => hr e.symm)).trans hc⟩
theorem ByR.ow {w : World} {base : Nat} {ao : Option Addr} {n cap : Nat} {l : List UInt8} (h : Ow w base 5 ao n cap l) : ∀ a, ao = some a → ByR w a.block := by
  intro a ha
  rcases h.row.2 with ⟨hv, _⟩ | ⟨g, c, cur, hv, hb, hg, _⟩
  · rw [ha] at hv
    cases hv
  · rw [ha] at hv
    cases hv
    exact ⟨cur, hg⟩
theorem NoRow.ow {w : World} {base : Nat} {ao : Option Addr} {n cap : Nat} {l : List UInt8} (h : Ow w base 5 ao n cap l) : ∀ a, ao = some a → NoRow w a.block := fun a ha => (ByR.ow h a ha).no
/-- A record in memory of its own, from a block on. -/
structure Own (w : World) (base : Nat) (r : Rc) : Prop where
  rk : Rk w r
  kin : ∀ a, r.ko = some a → base ≤ a.block ∧ a.block < w.heap.size
  vin : ∀ a, r.vo = some a → base ≤ a.block ∧ a.block < w.heap.size
  kfz : ∀ a, r.ko = some a → ∀ i, w.frozen? ⟨a.block, i, none⟩ = false
  vfz : ∀ a, r.vo = some a → ∀ i, w.frozen? ⟨a.block, i, none⟩ = false
  knr : ∀ a, r.ko = some a → ByR w a.block
  vnr : ∀ a, r.vo = some a → ByR w a.block
theorem Own.kept {w w' : World} {base : Nat} {r : Rc} {row : Option Nat} (h : Own w base r) (hg : w.grownBy w' row) (hr : ∀ k, base ≤ k → row ≠ some k) : Own w' base r :=
  ⟨⟨h.rk.low, h.rk.high, h.rk.key.kept hg (fun a ha e => hr _ (h.kin a ha).1 e.symm), h.rk.value.kept hg (fun a ha e => hr _ (h.vin a ha).1 e.symm), h.rk.kb, h.rk.vb⟩,
    fun a ha => ⟨(h.kin a ha).1, Nat.lt_of_lt_of_le (h.kin a ha).2 hg.size⟩, fun a ha => ⟨(h.vin a ha).1, Nat.lt_of_lt_of_le (h.vin a ha).2 hg.size⟩,
    fun a ha i => frozen_grown hg (h.kin a ha).2 (hr _ (h.kin a ha).1) (h.kfz a ha i), fun a ha i => frozen_grown hg (h.vin a ha).2 (hr _ (h.vin a ha).1) (h.vfz a ha i),
    fun a ha => (h.knr a ha).kept hg (hr _ (h.kin a ha).1), fun a ha => (h.vnr a ha).kept hg (hr _ (h.vin a ha).1)⟩
set_option maxRecDepth 100000 in
set_option maxHeartbeats 4000000 in
theorem copy_any (w : World) (ao : Option Addr) (n cap : Nat) (l : List Rc) (ha : Rs w ao n cap l) (hn : n ≤ 100000) (hb : ∀ r ∈ l, r.kn ≤ 1048576 ∧ r.vn ≤ 1048576) :
    Calls Tryz.prog 151 #[.slice ao n cap] w fun e w' => ∃ rs, e = .returned (.slice (some ⟨w.heap.size, 0, none⟩) n n) ∧ Rw w' w.heap.size (some ⟨w.heap.size, 0, none⟩) n n rs ∧ ds rs = ds l ∧ (∀ r ∈ rs, Own w' (w.heap.size + 1) r) ∧ w.grownBy w' none := by
  have hlen := ha.len
  go_enter Tryz.func151, Tryz.ntmps151
  go_wp2_with (at_make; refine wpList_make_recs _ rfl _ _ rfl n rfl rfl hn ?_)
  intro cur w1 hg1h hcs hg1
  have ha1 := ha.grown hg1
  have hsz1 : w.heap.size < w1.heap.size := by rcases Nat.lt_or_ge w.heap.size w1.heap.size with h | h; exact h; rw [Array.getElem?_eq_none h] at hg1h; cases hg1h
  go_wp2_with (refine wpList_copy_recs _ rfl (.tmp 9) (.tmp 10) rfl w.heap.size n cur hg1h hcs rfl _ _ l rfl ha1 hn ?_)
  intro w2 hR2 hg2
  have hG2 : w.grownBy w2 none := grown_trans hg1 hg2 (fun k hk => Or.inr (by cases hk; exact Nat.le_refl _))
  have hsz2 : w.heap.size < w2.heap.size := Nat.lt_of_lt_of_le hsz1 hg2.size
  clear hg1h hcs hg1 hg2 ha1 hsz1
  go_wp2_with fail
  go_loopw [4, 5, 14] (fun _ _ i' wr => ∃ (i : Nat) (fs : List Rc), i ≤ n ∧ i' = .int .i64 i ∧ fs.length = i ∧ Rw wr w.heap.size (some ⟨w.heap.size, 0, none⟩) n n (fs ++ l.drop i) ∧ Hid (ds fs = ds (l.take i)) ∧ (∀ r ∈ fs, Own wr (w.heap.size + 1) r) ∧ w.grownBy wr none ∧ w.heap.size < wr.heap.size) (fun _ _ i' _ => n - (intOf i').toNat)
  case atStart => exact ⟨0, [], Nat.zero_le _, rfl, rfl, by simpa using hR2, (by simp : ds [] = ds (l.take 0)), fun r hr => (by cases hr), hG2, hsz2⟩
  case round =>
    obtain ⟨i, fs, hi, rfl, hfl, hR, hD, hO, hG, hsz⟩ := hrel
    by_cases hlt : i < n
    · have h1 : i < l.length := by omega
      have h2 : i < (fs ++ l.drop i).length := by simp; omega
      have hd : decide ((i : Int) < (n : Int)) = true := by simp; omega
      have hgi : (fs ++ l.drop i)[i] = l[i] := by
        rw [List.getElem_append_right (by omega)]
        simp [hfl]
      obtain ⟨c0, c1, c2⟩ := hR.cells h2
      rw [hgi] at c0 c1 c2
      have hkk : ∀ W, w.grownBy W none → Rk W l[i] := fun W hW => (ha.grown hW).shows _ (List.getElem_mem h1)
      have hbb := hb _ (List.getElem_mem h1)
      have hds : Hid (ds (l.take (i + 1)) = ds (l.take i) ++ [(l[i]).d]) := by show _ = _; unfold ds; rw [List.take_succ_eq_append_getElem h1, List.map_append]; rfl
      have hdr : Hid (l.drop i = l[i] :: l.drop (i + 1)) := List.drop_eq_getElem_cons h1
      have hnk : n - i ≤ n := by omega
      generalize l[i] = x at *
      have i1 : (0 : Int) ≤ (i : Int) := by omega
      have i2 : (i : Int) < (n : Int) := by omega
      go_wp2_with fail
      have ga := alloc_grown wr (.cells #[.int .i64 x.t, .slice x.ko x.kn x.kc, .slice x.vo x.vn x.vc] 148)
      have k3 := heap_alloc_new wr (.cells #[.int .i64 x.t, .slice x.ko x.kn x.kc, .slice x.vo x.vn x.vc] 148)
      have b1 := cell_of (i := 1) (v := .slice x.ko x.kn x.kc) k3 rfl
      have b2 := cell_of (i := 2) (v := .slice x.vo x.vn x.vc) k3 rfl
      have hG3 := grown_trans hG ga (by simp)
      have hR3 := hR.kept ga (by right; simp [blk])
      have hO3 : ∀ r ∈ fs, Own (wr.alloc (.cells #[.int .i64 x.t, .slice x.ko x.kn x.kc, .slice x.vo x.vn x.vc] 148)) (w.heap.size + 1) r := fun r hr => (hO r hr).kept ga (fun _ _ => by simp)
      have hsz3 : w.heap.size < (wr.alloc (.cells #[.int .i64 x.t, .slice x.ko x.kn x.kc, .slice x.vo x.vn x.vc] 148)).heap.size := Nat.lt_of_lt_of_le hsz ga.size
      have hzn : some wr.heap.size ≠ some w.heap.size := by simp; omega
      clear ga k3 hR hO hG c0 c1 c2
      generalize wr.alloc (.cells #[.int .i64 x.t, .slice x.ko x.kn x.kc, .slice x.vo x.vn x.vc] 148) = w3 at *
      generalize wr.heap.size = zb at *
      generalize hg0 : w.heap.size = g0 at *
      have hfk : ∀ W, w3.grownBy W none → Calls Tryz.prog 121 #[.slice x.ko x.kn x.kc] W fun e w' => ∃ g, e = .returned (.slice (some ⟨g, 0, none⟩) x.kn x.kn) ∧ Ow w' W.heap.size 5 (some ⟨g, 0, none⟩) x.kn x.kn x.k ∧ W.grownBy w' none := fun W hW => fresh_any W _ _ _ x.k (hkk W (grown_trans hG3 hW (by simp))).key (by omega)
      have hfv : ∀ W, w3.grownBy W none → Calls Tryz.prog 121 #[.slice x.vo x.vn x.vc] W fun e w' => ∃ g, e = .returned (.slice (some ⟨g, 0, none⟩) x.vn x.vn) ∧ Ow w' W.heap.size 5 (some ⟨g, 0, none⟩) x.vn x.vn x.v ∧ W.grownBy w' none := fun W hW => fresh_any W _ _ _ x.v (hkk W (grown_trans hG3 hW (by simp))).value (by omega)
      go_region_held3 (fun w' => w'.cell? ⟨zb, 1, none⟩ = some (.slice x.ko x.kn x.kc) ∧ w'.cell? ⟨zb, 2, none⟩ = some (.slice x.vo x.vn x.vc)) (first | exact ⟨r1, r2⟩ | exact ⟨q1, q2⟩ | exact ⟨b1, b2⟩ | exact ⟨(setCell_grown _ _ _ _).cell r1 hzn, (setCell_grown _ _ _ _).cell r2 hzn⟩ | exact ⟨(setCell_grown _ _ _ _).cell ((setCell_grown _ _ _ _).cell r1 hzn) hzn, (setCell_grown _ _ _ _).cell ((setCell_grown _ _ _ _).cell r2 hzn) hzn⟩) (first
        | (go_at_call 121; refine (hfv _ hgd).mono ?_; rintro e w5 ⟨g5, rfl, ho5, hg5⟩; have r1 := hg5.cell q1 (by simp); have r2 := hg5.cell q2 (by simp); have hR5 := (hR3.kept hgd (by right; simp [blk])).kept hg5 (by right; simp [blk]); have u0 := hR5.cells h2; have u1 := u0.2.1; have u2 := u0.2.2; have uf := hR5.there)
        | (go_at_call 121; refine (hfk _ (grown_drewN w3 1 none)).mono ?_; rintro e w4 ⟨g4, rfl, ho4, hg4⟩; have hgd : w3.grownBy w4 none := grown_trans (grown_drewN w3 1 none) hg4 (by simp); have q1 := hgd.cell b1 (by simp); have q2 := hgd.cell b2 (by simp)))
      have hgk := (ho4.from_base g4 rfl)
      have hgv := (ho5.from_base g5 rfl)
      have hd3 : w3.heap.size ≤ g4 := hgk.1
      have hd4 := hgd.size
      have hd5 := hg5.size
      have hG5 := grown_trans (grown_trans hG3 hgd (by simp)) hg5 (by simp)
      have q7 := setCell_grown w5 g0 (i * 3 + 1) (.slice (some ⟨g4, 0, none⟩) x.kn x.kn)
      have q8 := setCell_grown (w5.setCell ⟨g0, i * 3 + 1, none⟩ (.slice (some ⟨g4, 0, none⟩) x.kn x.kn)) g0 (i * 3 + 2) (.slice (some ⟨g5, 0, none⟩) x.vn x.vn)
      have q9 := grown_trans q7 q8 (fun k hk => Or.inl hk)
      have hx := hkk _ hG5
      have hR6 := hR5.set h2 ⟨x.t, some ⟨g4, 0, none⟩, x.kn, x.kn, x.k, some ⟨g5, 0, none⟩, x.vn, x.vn, x.v⟩ (by rw [hgi])
      have hset : (fs ++ l.drop i).set i ⟨x.t, some ⟨g4, 0, none⟩, x.kn, x.kn, x.k, some ⟨g5, 0, none⟩, x.vn, x.vn, x.v⟩ = (fs ++ [⟨x.t, some ⟨g4, 0, none⟩, x.kn, x.kn, x.k, some ⟨g5, 0, none⟩, x.vn, x.vn, x.v⟩]) ++ l.drop (i + 1) := by
        rw [hdr.out, List.set_append_right _ _ (by omega), hfl, Nat.sub_self, List.set_cons_zero]
        simp
      rw [hset] at hR6
      have hrow : ∀ k, g0 + 1 ≤ k → some g0 ≠ some k := fun k hk => by simp; omega
      have hO6 : ∀ r ∈ fs ++ [(⟨x.t, some ⟨g4, 0, none⟩, x.kn, x.kn, x.k, some ⟨g5, 0, none⟩, x.vn, x.vn, x.v⟩ : Rc)], Own ((w5.setCell ⟨g0, i * 3 + 1, none⟩ (.slice (some ⟨g4, 0, none⟩) x.kn x.kn)).setCell ⟨g0, i * 3 + 2, none⟩ (.slice (some ⟨g5, 0, none⟩) x.vn x.vn)) (g0 + 1) r := fun r hr => by
        rcases List.mem_append.1 hr with hr | hr
        · exact (((hO3 r hr).kept hgd (fun _ _ => by simp)).kept hg5 (fun _ _ => by simp)).kept q9 hrow
        · obtain rfl : r = _ := by simpa using hr
          refine Own.kept (w := w5) ⟨⟨hx.low, hx.high, (ho4.grown hg5).shows, ho5.shows, by show x.kn ≤ _; omega, by show x.vn ≤ _; omega⟩, fun a ha => ?_, fun a ha => ?_, fun a ha i => ?_, fun a ha i => ?_, fun a ha => ?_, fun a ha => ?_⟩ q9 hrow
          · cases ha; exact ⟨by show g0 + 1 ≤ g4; omega, by show g4 < _; omega⟩
          · cases ha; exact ⟨by show g0 + 1 ≤ g5; omega, by show g5 < _; omega⟩
          · cases ha; exact (ho4.grown hg5).there i
          · cases ha; exact ho5.there i
          · exact ByR.ow (ho4.grown hg5) a ha
          · exact ByR.ow ho5 a ha
      have hG6 : w.grownBy ((w5.setCell ⟨g0, i * 3 + 1, none⟩ (.slice (some ⟨g4, 0, none⟩) x.kn x.kn)).setCell ⟨g0, i * 3 + 2, none⟩ (.slice (some ⟨g5, 0, none⟩) x.vn x.vn)) none := grown_trans hG5 q9 (fun k hk => Or.inr (by cases hk; rw [hg0]; exact Nat.le_refl _))
      have hs6 : g0 < ((w5.setCell ⟨g0, i * 3 + 1, none⟩ (.slice (some ⟨g4, 0, none⟩) x.kn x.kn)).setCell ⟨g0, i * 3 + 2, none⟩ (.slice (some ⟨g5, 0, none⟩) x.vn x.vn)).heap.size := by have := q9.size; omega
      have hD6 : Hid (ds (fs ++ [(⟨x.t, some ⟨g4, 0, none⟩, x.kn, x.kn, x.k, some ⟨g5, 0, none⟩, x.vn, x.vn, x.v⟩ : Rc)]) = ds (l.take (i + 1))) := by
        show _ = _
        rw [hds.out, ← hD.out]
        unfold ds
        rw [List.map_append]
        rfl
      clear hR5 hO3 hR3 hG3 hG5 q7 q8 q9 r1 r2 q1 q2 b1 b2 u0 u1 u2 uf ho4 ho5 hg4 hg5 hgd hfk hfv hkk hset hdr hds hD hx
      generalize (w5.setCell ⟨g0, i * 3 + 1, none⟩ (.slice (some ⟨g4, 0, none⟩) x.kn x.kn)).setCell ⟨g0, i * 3 + 2, none⟩ (.slice (some ⟨g5, 0, none⟩) x.vn x.vn) = w6 at *
      subst hg0
      go_wp2
      go_roundw
      case rel => exact ⟨i + 1, _, by omega, by go_num, by simp [hfl], hR6, hD6, hO6, hG6, hs6⟩
      case measure => simp [intOf]; omega
    · obtain rfl : i = n := by omega
      have hd : decide ((i : Int) < (i : Int)) = false := by simp
      have hdn : l.drop i = [] := List.drop_eq_nil_of_le (by omega)
      rw [hdn, List.append_nil] at hR
      go_wp2
      go_ret
      exact ⟨fs, rfl, hR, by rw [hD.out, List.take_of_length_le (by omega)], hO, hG⟩
end Go.Proofs.YtlghcboenkglnaaGreatDoor.Rec

/-
  copied: the walk.
-/
namespace Go.Proofs.YtlghcboenkglnaaGreatDoor.Rec
open Go.Proofs.YtlghcboenkglnaaGreatDoor
open Go.RowKit
set_option linter.unusedVariables false

set_option maxRecDepth 100000 in
set_option maxHeartbeats 4000000 in
theorem copied_any (w : World) (BS SZ : Int) (ro : Option Addr) (N rc : Nat) (l : List Rc) (ha : Rs w ro N rc l) (hn : N ≤ 100000) (hb : ∀ r ∈ l, r.kn ≤ 1048576 ∧ r.vn ≤ 1048576) :
    Calls Tryz.prog 124 #[.agg #[.int .i64 BS, .slice ro N rc, .int .i64 SZ]] w fun e w' => ∃ g base rs, e = .returned (.agg #[.int .i64 BS, .slice (some ⟨g, 0, none⟩) N N]) ∧ w.heap.size ≤ g ∧ w.heap.size ≤ base ∧ Rw w' g (some ⟨g, 0, none⟩) N N rs ∧ ds rs = ds l ∧ (∀ r ∈ rs, Own w' base r) ∧ g < base ∧ w.grownBy w' none := by
  have g1 := alloc_grown w (.cells #[.int .i64 BS, .slice ro N rc, .int .i64 SZ] 226)
  have g2 := alloc_grown (w.alloc (.cells #[.int .i64 BS, .slice ro N rc, .int .i64 SZ] 226)) (.cells #[.int .i64 0, .slice none 0 0] 54)
  have hG0 := grown_trans g1 g2 (by simp)
  have k1 := heap_alloc_new w (.cells #[.int .i64 BS, .slice ro N rc, .int .i64 SZ] 226)
  have k2 := heap_alloc_new (w.alloc (.cells #[.int .i64 BS, .slice ro N rc, .int .i64 SZ] 226)) (.cells #[.int .i64 0, .slice none 0 0] 54)
  have s1 : (w.alloc (.cells #[.int .i64 BS, .slice ro N rc, .int .i64 SZ] 226)).heap.size = w.heap.size + 1 := by simp
  have s2 : ((w.alloc (.cells #[.int .i64 BS, .slice ro N rc, .int .i64 SZ] 226)).alloc (.cells #[.int .i64 0, .slice none 0 0] 54)).heap.size = w.heap.size + 2 := by simp
  rw [s1] at k2
  have k1' := (g2.block w.heap.size (by rw [s1]; omega) (by simp)).trans k1
  have b0 := cell_of (i := 0) (v := .int .i64 BS) k1' rfl
  have b1 := cell_of (i := 1) (v := .slice ro N rc) k1' rfl
  have ha0 := ha.grown hG0
  clear g1 g2 k1 ha k1' s1
  go_enter Tryz.func124, Tryz.ntmps124
  go_wp2_with fail
  generalize ((w.alloc (.cells #[.int .i64 BS, .slice ro N rc, .int .i64 SZ] 226)).alloc (.cells #[.int .i64 0, .slice none 0 0] 54)) = w0 at *
  generalize hz : w.heap.size = z at *
  have hcp : ∀ W, w0.grownBy W none → Calls Tryz.prog 151 #[.slice ro N rc] W fun e w' => ∃ rs, e = .returned (.slice (some ⟨W.heap.size, 0, none⟩) N N) ∧ Rw w' W.heap.size (some ⟨W.heap.size, 0, none⟩) N N rs ∧ ds rs = ds l ∧ (∀ r ∈ rs, Own w' (W.heap.size + 1) r) ∧ W.grownBy w' none := fun W hW => copy_any W ro N rc l (ha0.grown hW) hn hb
  have hzn : some z ≠ some (z + 1) := by simp
  go_region_held3 (fun w' => w'.cell? ⟨z, 0, none⟩ = some (.int .i64 BS) ∧ w'.cell? ⟨z, 1, none⟩ = some (.slice ro N rc)) (first | exact ⟨q0, q1⟩ | exact ⟨b0, b1⟩ | exact ⟨(setCell_grown _ _ _ _).cell ((setCell_grown _ _ _ _).cell q0 hzn) hzn, (setCell_grown _ _ _ _).cell ((setCell_grown _ _ _ _).cell q1 hzn) hzn⟩)
    ((go_at_call 151; refine (hcp _ (grown_drewN w0 1 none)).mono ?_; rintro e w2 ⟨rs, rfl, hR, hD, hO, hg2⟩; have hgd : w0.grownBy w2 none := grown_trans (grown_drewN w0 1 none) hg2 (by simp); have q0 := hgd.cell b0 (by simp); have q1 := hgd.cell b1 (by simp); have k3 := (hgd.block (z + 1) (by omega) (by simp)).trans k2; have d0 := cell_of (i := 0) (v := .int .i64 0) k3 rfl; have d1 := cell_of (i := 1) (v := .slice none 0 0) k3 rfl; have df := frozen_of k3))
  have hsd : (w0.drewN 1).heap.size = z + 2 := s2
  rw [hsd] at hR hO
  have q7 := setCell_grown w2 (z + 1) 0 (.int .i64 BS)
  have q8 := setCell_grown (w2.setCell ⟨z + 1, 0, none⟩ (.int .i64 BS)) (z + 1) 1 (.slice (some ⟨z + 2, 0, none⟩) N N)
  have q9 := grown_trans q7 q8 (fun k hk => Or.inl hk)
  have y0 : ((w2.setCell ⟨z + 1, 0, none⟩ (.int .i64 BS)).setCell ⟨z + 1, 1, none⟩ (.slice (some ⟨z + 2, 0, none⟩) N N)).cell? ⟨z + 1, 0, none⟩ = some (.int .i64 BS) := by rw [World.cell?_setCell_other _ _ _ _ (by simp)]; exact World.cell?_setCell_same _ _ _ d0
  have y1 : ((w2.setCell ⟨z + 1, 0, none⟩ (.int .i64 BS)).setCell ⟨z + 1, 1, none⟩ (.slice (some ⟨z + 2, 0, none⟩) N N)).cell? ⟨z + 1, 1, none⟩ = some (.slice (some ⟨z + 2, 0, none⟩) N N) := World.cell?_setCell_same (u := .slice none 0 0) _ _ _ (by rw [World.cell?_setCell_other _ _ _ _ (by simp)]; exact d1)
  have hR6 := hR.kept q9 (by right; simp [blk])
  have hO6 : ∀ r ∈ rs, Own ((w2.setCell ⟨z + 1, 0, none⟩ (.int .i64 BS)).setCell ⟨z + 1, 1, none⟩ (.slice (some ⟨z + 2, 0, none⟩) N N)) (z + 2 + 1) r := fun r hr => (hO r hr).kept q9 (fun k hk => by simp; omega)
  have hG6 := grown_trans (grown_trans hG0 hgd (by simp)) q9 (fun k hk => Or.inr (by cases hk; omega))
  clear q7 q8 q9 hR hO d0 d1 df q0 q1 b0 b1 k2 k3 hg2 hgd
  generalize ((w2.setCell ⟨z + 1, 0, none⟩ (.int .i64 BS)).setCell ⟨z + 1, 1, none⟩ (.slice (some ⟨z + 2, 0, none⟩) N N)) = w6 at *
  go_wp2_with fail
  refine bodyPost_ret (v := .agg #[.int .i64 BS, .slice (some ⟨z + 2, 0, none⟩) N N]) (by simp [results, Tryz.results124, go_sem, y0, y1]) rfl ?_
  exact ⟨z + 2, z + 2 + 1, rs, rfl, by omega, by omega, hR6, hD, hO6, by omega, hG6⟩
end Go.Proofs.YtlghcboenkglnaaGreatDoor.Rec

/-
  Appends with room: bytes behind bytes, noughts behind bytes: the block and its room stay.
-/
namespace Go.Proofs.YtlghcboenkglnaaGreatDoor.Rec
open Go.Proofs.YtlghcboenkglnaaGreatDoor
open Go.RowKit
set_option linter.unusedVariables false

section
variable {P : Program} (w : World)

/-- 'append(s, x...)' with room, s the call's own. -/
theorem wpList_append_room {ops : Array Oper} {rest : List Oper} {o : Oper} {a : Act} {Q : Exit → Act → World → Prop} (hgd : o.guard = none) (s x : Operand) (t : TypeId)
    (ho : o.op = .call { callee := .builtin .append, args := #[s, x], argTypes := #[t, t] })
    (base : Nat) (e : TypeId) (ht : P.underlying t = some (.slice e)) (hinfo : (P.info? e).map (fun i => (i.zero, i.size, i.bytes)) = some (some (.int .u8 0), 1, 1))
    {g n cap : Nat} {l : List UInt8} (hs : a.eval s = .slice (some ⟨g, 0, none⟩) n cap) (hown : Ow w base e (some ⟨g, 0, none⟩) n cap l)
    {xo : Option Addr} {m c : Nat} {k : List UInt8} (hx : a.eval x = .slice xo m c) (hb : Bs w xo m c k) (hroom : n + m ≤ cap)
    (h : ∀ w', Ow w' base e (some ⟨g, 0, none⟩) (n + m) cap (l ++ k) → w.grownBy w' (some g) → wpList P ops Q rest (a.put o.dst (.slice (some ⟨g, 0, none⟩) (n + m) cap)) w') : wpList P ops Q (o :: rest) a w := by
  obtain ⟨i, hi, hz, hz1, hz2⟩ := info_parts hinfo
  cases xo with
  | none =>
    obtain rfl := hb.nil rfl
    obtain rfl : m = 0 := Nat.le_zero.1 hb.room
    obtain rfl : k = [] := List.eq_nil_of_length_eq_zero hb.len
    refine wpList_append_own_none hgd s x t ho base e i 1 ht hi _ n _ hs hown.row hx ?_
    have := h w (by simpa using hown) (grown_refl _ _)
    simpa using this
  | some ad =>
    refine wpList_append_own_spare w hgd s x t ho base e i 1 ht hi hz1 g n cap (l.map bv) hs hown.row ad m c (k.map bv) hx (by simp [hb.len]) (hb.cells ad rfl) (bv_one k) hroom ?_
    intro w' hown' hgrow
    rw [← List.map_append] at hown'
    exact h w' ⟨by simp [hown.len, hb.len], hown'⟩ hgrow
/-- Noughts behind bytes, with room. -/
theorem run_append_zeros (base : Nat) (t ti ty e : TypeId) (i : TypeInfo) (ht : P.underlying t = some (.slice e)) (hti : P.underlying ti = some (.int .i64)) (hi : P.info? e = some i) (hz : i.zero = some (.int .u8 0)) (hsize : i.size = 1) (hby : i.bytes = 1)
    (g n cap : Nat) (l : List UInt8) (hown : Ow w base e (some ⟨g, 0, none⟩) n cap l) (hroom : n + 4 ≤ cap) :
    ∃ w', (Builtin.append_ #[t, ti] ty #[.slice (some ⟨g, 0, none⟩) n cap, .int .i64 4]).run P w = .ok (.slice (some ⟨g, 0, none⟩) (n + 4) cap) w' ∧
      Ow w' base e (some ⟨g, 0, none⟩) (n + 4) cap (l ++ [0, 0, 0, 0]) ∧ w.grownBy w' (some g) := by
  rcases hown.row.2 with ⟨h0, _⟩ | ⟨g', cap', cur, hv, hbg, hg, hnc, hcm, hcs, htake⟩
  · cases h0
  · cases hv
    have hcs' : cur.size = cap := by omega
    have hst := run_storeCells_at P g n e [.int .u8 0, .int .u8 0, .int .u8 0, .int .u8 0] 0 cur w hg (by simp; omega) (by simp [Value.oneCell'])
    have hzc : Builtin.zeroCells (Value.int .u8 0).cells 4 = #[.int .u8 0, .int .u8 0, .int .u8 0, .int .u8 0] := by kernel_rfl
    have hw4 : IntKind.i64.wrap 4 = 4 := by decide +kernel
    simp only [Nat.add_zero] at hst
    have hzv : (zeroValue e).run P w = .ok (.int .u8 0) w := by simp [zeroValue, typeInfo, hi, hz]
    have hai : (asIntOf (Value.int .i64 4)).run P w = .ok (.i64, 4) w := rfl
    have hr : (Builtin.append_ #[t, ti] ty #[.slice (some ⟨g, 0, none⟩) n cap, .int .i64 4]).run P w = .ok (.slice (some ⟨g, 0, none⟩) (n + 4) cap) (w.setRow g (cur.toList.take n ++ [Value.int .u8 0, Value.int .u8 0, Value.int .u8 0, Value.int .u8 0] ++ cur.toList.drop (n + 4)).toArray) := by
      simp [Builtin.append_, run_underlying ht, run_underlying hti, sizeOf, typeInfo, hi, hsize, hby, hroom, Addr.add_lit, asInt, hai, hw4, hzv, hzc, hst]
    refine ⟨_, hr, ⟨by simp [hown.len], ?_⟩, ⟨rfl, rfl, rfl, by simp, fun k _ hk => setRow_other w g k _ (fun e => hk (by simp [e]))⟩⟩
    refine ⟨by simp [hown.len], .inr ⟨g, cap, _, rfl, hbg, setRow_heap w g cur _ e _ hg, by omega, hcm, ?_, ?_⟩⟩
    · simp only [List.size_toArray, List.length_append, List.length_take, List.length_drop, Array.length_toList]
      simp
      omega
    · have htk : cur.toList.take n = l.map bv := by simpa using htake
      rw [htk]
      have : (n + 4) * 1 = (l.map bv ++ [Value.int .u8 0, .int .u8 0, .int .u8 0, .int .u8 0]).length := by simp [hown.len]
      rw [this]
      exact (List.take_left ..).trans (by simp [bv])
theorem wpList_append_zeros {ops : Array Oper} {rest : List Oper} {o : Oper} {a : Act} {Q : Exit → Act → World → Prop} (hgd : o.guard = none) (s : Operand) (t ti : TypeId)
    (ho : o.op = .call { callee := .builtin .append, args := #[s, .const (.int .i64 4)], argTypes := #[t, ti] })
    (base : Nat) (e : TypeId) (ht : P.underlying t = some (.slice e)) (hti : P.underlying ti = some (.int .i64)) (hinfo : (P.info? e).map (fun i => (i.zero, i.size, i.bytes)) = some (some (.int .u8 0), 1, 1))
    {g n cap : Nat} {l : List UInt8} (hs : a.eval s = .slice (some ⟨g, 0, none⟩) n cap) (hown : Ow w base e (some ⟨g, 0, none⟩) n cap l) (hroom : n + 4 ≤ cap)
    (h : ∀ w', Ow w' base e (some ⟨g, 0, none⟩) (n + 4) cap (l ++ [0, 0, 0, 0]) → w.grownBy w' (some g) → wpList P ops Q rest (a.put o.dst (.slice (some ⟨g, 0, none⟩) (n + 4) cap)) w') : wpList P ops Q (o :: rest) a w := by
  obtain ⟨i, hi, hz, hz1, hz2⟩ := info_parts hinfo
  refine wpList_plain hgd fun _ hK => ?_
  obtain ⟨w', hr, h2, h3⟩ := run_append_zeros (P := P) w base t ti o.type e i ht hti hi hz hz1 hz2 g n cap l hown hroom
  have hev : a.eval (.const (.int .i64 4)) = .int .i64 4 := rfl
  unfold Oper.wp execOp
  simp only [ho, resolve, invoke, builtin, Sem.run_bind, Sem.run_pure, Result.andThen_ok, List.map_toArray, List.map_cons, List.map_nil, hs, hev, hr]
  exact hK _ _ (h w' h2 h3)
end
end Go.Proofs.YtlghcboenkglnaaGreatDoor.Rec
