/-
  Copy: the walk.
-/
import Derived.Test.YtlfgikhjcimppabM6
import Derived.Test.YtlfgikhjcimppabD1
namespace Go.Proofs.Ytlfgikhjcimppab
open Go.RowKit
set_option linter.unusedVariables false

/-- A record in memory of its own, from a block on. -/
structure Own (w : World) (base : Nat) (r : Rc) : Prop where
  rk : Rk w r
  kin : ∀ a, r.ko = some a → base ≤ a.block ∧ a.block < w.heap.size
  vin : ∀ a, r.vo = some a → base ≤ a.block ∧ a.block < w.heap.size
  kfz : ∀ a, r.ko = some a → ∀ i, w.frozen? ⟨a.block, i, none⟩ = false
  vfz : ∀ a, r.vo = some a → ∀ i, w.frozen? ⟨a.block, i, none⟩ = false
theorem Own.kept {w w' : World} {base : Nat} {r : Rc} {row : Option Nat} (h : Own w base r) (hg : w.grownBy w' row) (hr : ∀ k, base ≤ k → row ≠ some k) : Own w' base r :=
  ⟨⟨h.rk.low, h.rk.high, h.rk.key.kept hg (fun a ha e => hr _ (h.kin a ha).1 e.symm), h.rk.value.kept hg (fun a ha e => hr _ (h.vin a ha).1 e.symm), h.rk.kb, h.rk.vb⟩,
    fun a ha => ⟨(h.kin a ha).1, Nat.lt_of_lt_of_le (h.kin a ha).2 hg.size⟩, fun a ha => ⟨(h.vin a ha).1, Nat.lt_of_lt_of_le (h.vin a ha).2 hg.size⟩,
    fun a ha i => frozen_grown hg (h.kin a ha).2 (hr _ (h.kin a ha).1) (h.kfz a ha i), fun a ha i => frozen_grown hg (h.vin a ha).2 (hr _ (h.vin a ha).1) (h.vfz a ha i)⟩
set_option maxRecDepth 100000 in
set_option maxHeartbeats 4000000 in
theorem copy_any (w : World) (ao : Option Addr) (n cap : Nat) (l : List Rc) (ha : Rs w ao n cap l) (hn : n ≤ 100000) (hb : ∀ r ∈ l, r.kn ≤ 1048576 ∧ r.vn ≤ 1048576) :
    Calls Try.prog 34 #[.slice ao n cap] w fun e w' => ∃ rs, e = .returned (.slice (some ⟨w.heap.size, 0, none⟩) n n) ∧ Rw w' w.heap.size (some ⟨w.heap.size, 0, none⟩) n n rs ∧ ds rs = ds l ∧ (∀ r ∈ rs, Own w' (w.heap.size + 1) r) ∧ w.grownBy w' none := by
  have hlen := ha.len
  go_enter Try.func34, Try.ntmps34
  go_wp2_with (at_make; refine wpList_make_recs _ rfl _ _ rfl n rfl rfl hn ?_)
  intro cur w1 hg1h hcs hg1
  have ha1 := ha.grown hg1
  have hsz1 : w.heap.size < w1.heap.size := by rcases Nat.lt_or_ge w.heap.size w1.heap.size with h | h; exact h; rw [Array.getElem?_eq_none h] at hg1h; cases hg1h
  go_wp2_with (refine wpList_copy_recs _ rfl (.tmp 9) (.tmp 10) rfl w.heap.size n cur hg1h hcs rfl _ _ l rfl ha1 hn ?_)
  intro w2 hR2 hg2
  have hG2 : w.grownBy w2 none := grown_trans hg1 hg2 (fun k hk => Or.inr (by cases hk; exact Nat.le_refl _))
  have hsz2 : w.heap.size < w2.heap.size := Nat.lt_of_lt_of_le hsz1 hg2.size
  clear hg1h hcs hg1 hg2 ha1 hsz1
  go_wp2_with fail
  go_loopw [4, 5, 14] (fun _ _ i' wr => ∃ (i : Nat) (fs : List Rc), i ≤ n ∧ i' = .int .i64 i ∧ fs.length = i ∧ Rw wr w.heap.size (some ⟨w.heap.size, 0, none⟩) n n (fs ++ l.drop i) ∧ Hid (ds fs = ds (l.take i)) ∧ (∀ r ∈ fs, Own wr (w.heap.size + 1) r) ∧ w.grownBy wr none ∧ w.heap.size < wr.heap.size) (fun _ _ i' _ => n - (intOf i').toNat)
  case atStart => exact ⟨0, [], Nat.zero_le _, rfl, rfl, by simpa using hR2, (by simp : ds [] = ds (l.take 0)), fun r hr => (by cases hr), hG2, hsz2⟩
  case round =>
    obtain ⟨i, fs, hi, rfl, hfl, hR, hD, hO, hG, hsz⟩ := hrel
    by_cases hlt : i < n
    · have h1 : i < l.length := by omega
      have h2 : i < (fs ++ l.drop i).length := by simp; omega
      have hd : decide ((i : Int) < (n : Int)) = true := by simp; omega
      have hgi : (fs ++ l.drop i)[i] = l[i] := by
        rw [List.getElem_append_right (by omega)]
        simp [hfl]
      obtain ⟨c0, c1, c2⟩ := hR.cells h2
      rw [hgi] at c0 c1 c2
      have hkk : ∀ W, w.grownBy W none → Rk W l[i] := fun W hW => (ha.grown hW).shows _ (List.getElem_mem h1)
      have hbb := hb _ (List.getElem_mem h1)
      have hds : Hid (ds (l.take (i + 1)) = ds (l.take i) ++ [(l[i]).d]) := by show _ = _; unfold ds; rw [List.take_succ_eq_append_getElem h1, List.map_append]; rfl
      have hdr : Hid (l.drop i = l[i] :: l.drop (i + 1)) := List.drop_eq_getElem_cons h1
      have hnk : n - i ≤ n := by omega
      generalize l[i] = x at *
      have i1 : (0 : Int) ≤ (i : Int) := by omega
      have i2 : (i : Int) < (n : Int) := by omega
      go_wp2_with fail
      have ga := alloc_grown wr (.cells #[.int .i64 x.t, .slice x.ko x.kn x.kc, .slice x.vo x.vn x.vc] 37)
      have k3 := heap_alloc_new wr (.cells #[.int .i64 x.t, .slice x.ko x.kn x.kc, .slice x.vo x.vn x.vc] 37)
      have b1 := cell_of (i := 1) (v := .slice x.ko x.kn x.kc) k3 rfl
      have b2 := cell_of (i := 2) (v := .slice x.vo x.vn x.vc) k3 rfl
      have hG3 := grown_trans hG ga (by simp)
      have hR3 := hR.kept ga (by right; simp [blk])
      have hO3 : ∀ r ∈ fs, Own (wr.alloc (.cells #[.int .i64 x.t, .slice x.ko x.kn x.kc, .slice x.vo x.vn x.vc] 37)) (w.heap.size + 1) r := fun r hr => (hO r hr).kept ga (fun _ _ => by simp)
      have hsz3 : w.heap.size < (wr.alloc (.cells #[.int .i64 x.t, .slice x.ko x.kn x.kc, .slice x.vo x.vn x.vc] 37)).heap.size := Nat.lt_of_lt_of_le hsz ga.size
      have hzn : some wr.heap.size ≠ some w.heap.size := by simp; omega
      clear ga k3 hR hO hG c0 c1 c2
      generalize wr.alloc (.cells #[.int .i64 x.t, .slice x.ko x.kn x.kc, .slice x.vo x.vn x.vc] 37) = w3 at *
      generalize wr.heap.size = zb at *
      generalize hg0 : w.heap.size = g0 at *
      have hfk : ∀ W, w3.grownBy W none → Calls Try.prog 23 #[.slice x.ko x.kn x.kc] W fun e w' => ∃ g, e = .returned (.slice (some ⟨g, 0, none⟩) x.kn x.kn) ∧ Ow w' W.heap.size 5 (some ⟨g, 0, none⟩) x.kn x.kn x.k ∧ W.grownBy w' none := fun W hW => fresh_any W _ _ _ x.k (hkk W (grown_trans hG3 hW (by simp))).key (by omega)
      have hfv : ∀ W, w3.grownBy W none → Calls Try.prog 23 #[.slice x.vo x.vn x.vc] W fun e w' => ∃ g, e = .returned (.slice (some ⟨g, 0, none⟩) x.vn x.vn) ∧ Ow w' W.heap.size 5 (some ⟨g, 0, none⟩) x.vn x.vn x.v ∧ W.grownBy w' none := fun W hW => fresh_any W _ _ _ x.v (hkk W (grown_trans hG3 hW (by simp))).value (by omega)
      go_region_held3 (fun w' => w'.cell? ⟨zb, 1, none⟩ = some (.slice x.ko x.kn x.kc) ∧ w'.cell? ⟨zb, 2, none⟩ = some (.slice x.vo x.vn x.vc)) (first | exact ⟨r1, r2⟩ | exact ⟨q1, q2⟩ | exact ⟨b1, b2⟩ | exact ⟨(setCell_grown _ _ _ _).cell r1 hzn, (setCell_grown _ _ _ _).cell r2 hzn⟩ | exact ⟨(setCell_grown _ _ _ _).cell ((setCell_grown _ _ _ _).cell r1 hzn) hzn, (setCell_grown _ _ _ _).cell ((setCell_grown _ _ _ _).cell r2 hzn) hzn⟩) (first
        | (go_at_call 23; refine (hfv _ hgd).mono ?_; rintro e w5 ⟨g5, rfl, ho5, hg5⟩; have r1 := hg5.cell q1 (by simp); have r2 := hg5.cell q2 (by simp); have hR5 := (hR3.kept hgd (by right; simp [blk])).kept hg5 (by right; simp [blk]); have u0 := hR5.cells h2; have u1 := u0.2.1; have u2 := u0.2.2; have uf := hR5.there)
        | (go_at_call 23; refine (hfk _ (grown_drewN w3 1 none)).mono ?_; rintro e w4 ⟨g4, rfl, ho4, hg4⟩; have hgd : w3.grownBy w4 none := grown_trans (grown_drewN w3 1 none) hg4 (by simp); have q1 := hgd.cell b1 (by simp); have q2 := hgd.cell b2 (by simp)))
      have hgk := (ho4.from_base g4 rfl)
      have hgv := (ho5.from_base g5 rfl)
      have hd3 : w3.heap.size ≤ g4 := hgk.1
      have hd4 := hgd.size
      have hd5 := hg5.size
      have hG5 := grown_trans (grown_trans hG3 hgd (by simp)) hg5 (by simp)
      have q7 := setCell_grown w5 g0 (i * 3 + 1) (.slice (some ⟨g4, 0, none⟩) x.kn x.kn)
      have q8 := setCell_grown (w5.setCell ⟨g0, i * 3 + 1, none⟩ (.slice (some ⟨g4, 0, none⟩) x.kn x.kn)) g0 (i * 3 + 2) (.slice (some ⟨g5, 0, none⟩) x.vn x.vn)
      have q9 := grown_trans q7 q8 (fun k hk => Or.inl hk)
      have hx := hkk _ hG5
      have hR6 := hR5.set h2 ⟨x.t, some ⟨g4, 0, none⟩, x.kn, x.kn, x.k, some ⟨g5, 0, none⟩, x.vn, x.vn, x.v⟩ (by rw [hgi])
      have hset : (fs ++ l.drop i).set i ⟨x.t, some ⟨g4, 0, none⟩, x.kn, x.kn, x.k, some ⟨g5, 0, none⟩, x.vn, x.vn, x.v⟩ = (fs ++ [⟨x.t, some ⟨g4, 0, none⟩, x.kn, x.kn, x.k, some ⟨g5, 0, none⟩, x.vn, x.vn, x.v⟩]) ++ l.drop (i + 1) := by
        rw [hdr.out, List.set_append_right _ _ (by omega), hfl, Nat.sub_self, List.set_cons_zero]
        simp
      rw [hset] at hR6
      have hrow : ∀ k, g0 + 1 ≤ k → some g0 ≠ some k := fun k hk => by simp; omega
      have hO6 : ∀ r ∈ fs ++ [(⟨x.t, some ⟨g4, 0, none⟩, x.kn, x.kn, x.k, some ⟨g5, 0, none⟩, x.vn, x.vn, x.v⟩ : Rc)], Own ((w5.setCell ⟨g0, i * 3 + 1, none⟩ (.slice (some ⟨g4, 0, none⟩) x.kn x.kn)).setCell ⟨g0, i * 3 + 2, none⟩ (.slice (some ⟨g5, 0, none⟩) x.vn x.vn)) (g0 + 1) r := fun r hr => by
        rcases List.mem_append.1 hr with hr | hr
        · exact (((hO3 r hr).kept hgd (fun _ _ => by simp)).kept hg5 (fun _ _ => by simp)).kept q9 hrow
        · obtain rfl : r = _ := by simpa using hr
          refine Own.kept (w := w5) ⟨⟨hx.low, hx.high, (ho4.grown hg5).shows, ho5.shows, by show x.kn ≤ _; omega, by show x.vn ≤ _; omega⟩, fun a ha => ?_, fun a ha => ?_, fun a ha i => ?_, fun a ha i => ?_⟩ q9 hrow
          · cases ha; exact ⟨by show g0 + 1 ≤ g4; omega, by show g4 < _; omega⟩
          · cases ha; exact ⟨by show g0 + 1 ≤ g5; omega, by show g5 < _; omega⟩
          · cases ha; exact (ho4.grown hg5).there i
          · cases ha; exact ho5.there i
      have hG6 : w.grownBy ((w5.setCell ⟨g0, i * 3 + 1, none⟩ (.slice (some ⟨g4, 0, none⟩) x.kn x.kn)).setCell ⟨g0, i * 3 + 2, none⟩ (.slice (some ⟨g5, 0, none⟩) x.vn x.vn)) none := grown_trans hG5 q9 (fun k hk => Or.inr (by cases hk; rw [hg0]; exact Nat.le_refl _))
      have hs6 : g0 < ((w5.setCell ⟨g0, i * 3 + 1, none⟩ (.slice (some ⟨g4, 0, none⟩) x.kn x.kn)).setCell ⟨g0, i * 3 + 2, none⟩ (.slice (some ⟨g5, 0, none⟩) x.vn x.vn)).heap.size := by have := q9.size; omega
      have hD6 : Hid (ds (fs ++ [(⟨x.t, some ⟨g4, 0, none⟩, x.kn, x.kn, x.k, some ⟨g5, 0, none⟩, x.vn, x.vn, x.v⟩ : Rc)]) = ds (l.take (i + 1))) := by
        show _ = _
        rw [hds.out, ← hD.out]
        unfold ds
        rw [List.map_append]
        rfl
      clear hR5 hO3 hR3 hG3 hG5 q7 q8 q9 r1 r2 q1 q2 b1 b2 u0 u1 u2 uf ho4 ho5 hg4 hg5 hgd hfk hfv hkk hset hdr hds hD hx
      generalize (w5.setCell ⟨g0, i * 3 + 1, none⟩ (.slice (some ⟨g4, 0, none⟩) x.kn x.kn)).setCell ⟨g0, i * 3 + 2, none⟩ (.slice (some ⟨g5, 0, none⟩) x.vn x.vn) = w6 at *
      subst hg0
      go_wp2
      go_roundw
      case rel => exact ⟨i + 1, _, by omega, by go_num, by simp [hfl], hR6, hD6, hO6, hG6, hs6⟩
      case measure => simp [intOf]; omega
    · obtain rfl : i = n := by omega
      have hd : decide ((i : Int) < (i : Int)) = false := by simp
      have hdn : l.drop i = [] := List.drop_eq_nil_of_le (by omega)
      rw [hdn, List.append_nil] at hR
      go_wp2
      go_ret
      exact ⟨fs, rfl, hR, by rw [hD.out, List.take_of_length_le (by omega)], hO, hG⟩
end Go.Proofs.Ytlfgikhjcimppab
