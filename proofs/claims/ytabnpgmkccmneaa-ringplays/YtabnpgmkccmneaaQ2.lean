/-
  Copy: the walk.
-/
import Derived.Test.YtabnpgmkccmneaaQ1
import Derived.Deep.RegionHeld3
namespace Go.Proofs.Ytabnpgmkccmneaa
open Go.RowKit
set_option linter.unusedVariables false

theorem mk_run (n : Nat) (hn : n ≤ 1000) (w : World) : (Instr.makeSlice 30 (.int .i64 (n : Int)) (.int .i64 (n : Int))).run Try.prog w = .ok (.slice (some ⟨w.heap.size, 0, none⟩) n n) (w.alloc (.cells (List.replicate n (Value.int .i64 0)).toArray 3)) := by
  obtain ⟨i, hi, hz, hzs, hz2⟩ := info_parts Ri.info
  have hr := run_make (P := Try.prog) w 30 3 i (.int .i64 0) Try.underlying30 hi hz .i64 .i64 n n (by omega) (by omega) (by rw [hz2]; omega) (by omega)
  rw [hr]
  simp only [Int.toNat_natCast]
  congr 3
  rw [hzs, Nat.mul_one]
  apply Array.ext
  · simp [size_madeCells]
  · intro j h1 h2
    simp [madeCells, Value.cells, Nat.mod_one]

theorem hd_of {w : World} {b g bnd f c : Nat} {t : TypeId} (h : w.heap[b]? = some (.cells #[.slice (some ⟨g, 0, none⟩) bnd bnd, .int .i64 (f : Int), .int .i64 (c : Int)] t (0, 0))) : Hd w b g bnd f c :=
  ⟨by simp [World.cell?, h], by simp [World.cell?, h], by simp [World.cell?, h], fun i => by simp [World.frozen?, h]⟩

theorem rm_whole (Z l : List Value) (bnd : Nat) (hZ : Z.length = bnd) (hp : 0 < bnd) (hl : l.length ≤ bnd) : Rm (splice Z 0 l) bnd 0 l := by
  refine ⟨by rw [length_splice _ _ _ (by omega)]; exact hZ, hp, hp, hl, fun i hi => ?_⟩
  rw [Nat.zero_add, Nat.mod_eq_of_lt (by omega), getElem?_splice _ _ _ _ (by omega), if_pos (by omega)]
  simp

theorem copy_run (w : World) (g bnd o : Nat) (l : List Value) (hg : Ro w g 3 (List.replicate bnd (.int .i64 0))) (ho : Ro w o 3 l) (hl : l.length ≤ bnd) (h1 : ∀ v ∈ l, v.oneCell' = true) :
    ∃ w', (Builtin.copy_ #[30, 30] 3 #[.slice (some ⟨g, 0, none⟩) bnd bnd, .slice (some ⟨o, 0, none⟩) l.length l.length]).run Try.prog w = .ok (.int .i64 l.length) w' ∧ Ro w' g 3 (splice (List.replicate bnd (.int .i64 0)) 0 l) ∧ Chg w w' (fun k => k = g) := by
  have hr := run_copy_row Try.prog w 30 30 3 3 g 0 bnd bnd ⟨o, 0, none⟩ l.length l.length (List.replicate bnd (Value.int .i64 0)).toArray 3 l Try.underlying30 Ri.size1 hg (Nat.min_eq_left hl).symm
    (fun j v hv => by rw [Addr.add_lit, Nat.zero_add, ho.cell]; exact hv) (by simpa using hl) h1
  refine ⟨_, hr, ?_, rfl, rfl, rfl, by simp [World.setRow], fun j hj hne => setRow_other w g j _ hne⟩
  have h9 := setRow_heap w g _ ((List.replicate bnd (Value.int .i64 0)).toArray.toList.take 0 ++ l ++ (List.replicate bnd (Value.int .i64 0)).toArray.toList.drop (0 + l.length)).toArray 3 _ hg
  unfold Ro splice
  rw [h9]
  simp

set_option maxRecDepth 100000 in
set_option maxHeartbeats 1000000 in
theorem copy_any (w : World) (b g bnd f : Nat) (l : List Value) (h : Rg w 3 b g bnd f l) :
    Calls Try.prog 9 #[.pointer (some ⟨b, 0, none⟩)] w fun e w' => ∃ b' g', e = .returned (.pointer (some ⟨b', 0, none⟩)) ∧ Rg w' 3 b' g' bnd 0 l ∧ w.heap.size ≤ b' ∧ w.heap.size ≤ g' ∧ w.grownBy w' none := by
  have h0 := h.c0
  have h2 := h.c2
  have hpos := h.pos
  have htop := h.top
  have hmk := mk_run bnd (by omega)
  have hbl := h.lt
  go_enter Try.func9, Try.ntmps9
  go_wp2_with fail
  refine (Ri.there_yes _ b g bnd f l h).mono ?_
  rintro e w1 ⟨rfl, rfl⟩
  have g1 := World.grownBy_alloc w1 (.cells (Array.replicate bnd (.int .i64 0)) 3) none
  have g2 := grown_trans g1 (World.grownBy_alloc (w1.alloc (.cells (Array.replicate bnd (.int .i64 0)) 3)) (.cells #[.slice (some ⟨w1.heap.size, 0, none⟩) bnd bnd, .int .i64 0, .int .i64 l.length] 69) none) (by simp)
  have p0 : (w1.alloc (.cells (Array.replicate bnd (.int .i64 0)) 3)).drew.cell? ⟨b, 0, none⟩ = _ := g1.cell h0 (by simp)
  have p2 : (w1.alloc (.cells (Array.replicate bnd (.int .i64 0)) 3)).drew.cell? ⟨b, 2, none⟩ = _ := g1.cell h2 (by simp)
  have q0 : ((w1.alloc (.cells (Array.replicate bnd (.int .i64 0)) 3)).alloc (.cells #[.slice (some ⟨w1.heap.size, 0, none⟩) bnd bnd, .int .i64 0, .int .i64 l.length] 69)).drew.cell? ⟨b, 0, none⟩ = _ := g2.cell h0 (by simp)
  have q2 : ((w1.alloc (.cells (Array.replicate bnd (.int .i64 0)) 3)).alloc (.cells #[.slice (some ⟨w1.heap.size, 0, none⟩) bnd bnd, .int .i64 0, .int .i64 l.length] 69)).drew.cell? ⟨b, 2, none⟩ = _ := g2.cell h2 (by simp)
  go_wp2_with fail
  go_region_held3 (fun w' => w'.cell? ⟨b, 0, none⟩ = some (.slice (some ⟨g, 0, none⟩) bnd bnd) ∧ w'.cell? ⟨b, 2, none⟩ = some (.int .i64 l.length)) (first | exact ⟨h0, h2⟩ | exact ⟨p0, p2⟩ | exact ⟨q0, q2⟩) (fail)
  clear p0 p2 q0 q2 g1
  have g3 : w1.grownBy (World.drew ((w1.alloc (.cells (Array.replicate bnd (.int .i64 0)) 3)).alloc (.cells #[.slice (some ⟨w1.heap.size, 0, none⟩) bnd bnd, .int .i64 0, .int .i64 l.length] 69))) none := grown_trans g2 (grown_drewN _ 1 none) (by simp)
  have hd3 : Hd (World.drew ((w1.alloc (.cells (Array.replicate bnd (.int .i64 0)) 3)).alloc (.cells #[.slice (some ⟨w1.heap.size, 0, none⟩) bnd bnd, .int .i64 0, .int .i64 l.length] 69))) (w1.heap.size + 1) w1.heap.size bnd 0 l.length := by
    have hsz : (w1.alloc (.cells (Array.replicate bnd (.int .i64 0)) 3)).heap.size = w1.heap.size + 1 := by simp
    have hb : (World.drew ((w1.alloc (.cells (Array.replicate bnd (.int .i64 0)) 3)).alloc (.cells #[.slice (some ⟨w1.heap.size, 0, none⟩) bnd bnd, .int .i64 0, .int .i64 l.length] 69))).heap[w1.heap.size + 1]? = some (.cells #[.slice (some ⟨w1.heap.size, 0, none⟩) bnd bnd, .int .i64 0, .int .i64 l.length] 69 (0, 0)) := by
      rw [← hsz]; exact heap_alloc_new _ _
    exact hd_of hb
  have hro3 : Ro (World.drew ((w1.alloc (.cells (Array.replicate bnd (.int .i64 0)) 3)).alloc (.cells #[.slice (some ⟨w1.heap.size, 0, none⟩) bnd bnd, .int .i64 0, .int .i64 l.length] 69))) w1.heap.size 3 (List.replicate bnd (.int .i64 0)) := by
    have h9 : Ro (w1.alloc (.cells (Array.replicate bnd (.int .i64 0)) 3)) w1.heap.size 3 (List.replicate bnd (.int .i64 0)) := by
      unfold Ro
      rw [heap_alloc_new]
      simp
    exact (h9.grown (World.grownBy_alloc _ _ none)).grown (grown_drewN _ 1 none)
  have hs3 : w1.heap.size + 2 ≤ (World.drew ((w1.alloc (.cells (Array.replicate bnd (.int .i64 0)) 3)).alloc (.cells #[.slice (some ⟨w1.heap.size, 0, none⟩) bnd bnd, .int .i64 0, .int .i64 l.length] 69))).heap.size := by simp [World.drew]
  generalize (World.drew ((w1.alloc (.cells (Array.replicate bnd (.int .i64 0)) 3)).alloc (.cells #[.slice (some ⟨w1.heap.size, 0, none⟩) bnd bnd, .int .i64 0, .int .i64 l.length] 69))) = w3 at *
  have hr3 := h.grown g3
  clear h h0 h2 g2 hmk
  have k0 := hd3.c0
  have k2 := hr3.c2
  have hlen := hr3.len
  have hbne : b ≠ w1.heap.size := by have := hbl; omega
  go_wp2_with fail
  go_region_held3 (fun w' => w'.cell? ⟨w1.heap.size + 1, 0, none⟩ = some (.slice (some ⟨w1.heap.size, 0, none⟩) bnd bnd) ∧ w'.cell? ⟨b, 2, none⟩ = some (.int .i64 l.length)) (first | exact ⟨k0, k2⟩ | exact ⟨m0, m2⟩ | exact ⟨n0, n2⟩)
    ((go_at_call 30; refine (Ri.begin_any _ b g bnd f l.length l (hr3.grown (grown_drewN w3 1 none)) (Nat.le_refl _)).mono ?_; rintro e w4 ⟨o, rfl, hro4, ho4, hg4⟩; have hg34 : w3.grownBy w4 none := grown_trans (grown_drewN w3 1 none) hg4 (by simp); have m0 := hg34.cell k0 (by simp); have m2 := hg34.cell k2 (by simp); rw [List.take_length] at hro4; obtain ⟨w5, hcp, hro5, hc5⟩ := copy_run w4 w1.heap.size bnd o l (hro3.grown hg34) hro4 hlen hr3.one; have n0 := hc5.cell m0 (by show w1.heap.size + 1 ≠ w1.heap.size; omega); have n2 := hc5.cell m2 hbne))
  have hd5 := (hd3.chg (Chg.of_grown hg34 (fun _ => False)) (fun e => e)).chg hc5 (by omega)
  have hC : Chg w1 w5 (fun k => k = w1.heap.size) := ((Chg.of_grown g3 _).trans (Chg.of_grown hg34 _)).trans hc5
  have hone := hr3.one
  clear hr3 hd3 hro3 k0 k2 m0 m2 n0 n2 hro4 hcp hc5 hg34 hg4
  go_wp2
  go_ret
  have hG : w1.grownBy w5 none := hC.grown (fun k hk e => by omega)
  exact ⟨w1.heap.size + 1, w1.heap.size, rfl, ⟨hd5.c0, hd5.c1, hd5.c2, hd5.fz, ⟨_, hro5, rm_whole _ _ _ (by simp) hpos hlen⟩, htop, hone, by omega⟩, by omega, Nat.le_refl _, hG⟩
end Go.Proofs.Ytabnpgmkccmneaa
