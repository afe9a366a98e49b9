/-
  cut, of bytes that are no batch's: the walk.
-/
import Derived.Test.YtlghcboenkglnaaGreatDoorRecF3
import Derived.Test.YtlghcboenkglnaaGreatDoorZam
namespace Go.Proofs.YtlghcboenkglnaaGreatDoor.Rec
open Go.Proofs.YtlghcboenkglnaaGreatDoor
open Go.RowKit
set_option linter.unusedVariables false

set_option maxRecDepth 100000 in
set_option maxHeartbeats 2000000 in
/-- Behind the panic: the deferred closure turns it into an answer. -/
theorem leaves_no {tmps : Array Value} (w W : World) (z : Nat) (x e : Int) (y : Value) (h2 : tmps[2]? = some (.pointer (some ⟨z, 0, none⟩))) (h3 : tmps[3]? = some (.pointer (some ⟨z + 1, 0, none⟩))) (hz : w.heap.size ≤ z)
    (c0 : W.cell? ⟨z, 0, none⟩ = some (.int .i64 x)) (c1 : W.cell? ⟨z, 1, none⟩ = some y) (c2 : W.cell? ⟨z + 1, 0, none⟩ = some (.int .i64 e)) (fb : ∀ i, W.frozen? ⟨z, i, none⟩ = false) (fe : ∀ i, W.frozen? ⟨z + 1, i, none⟩ = false) (hG : w.grownBy W none) :
    Leaves Tryz.prog Tryz.f165 tmps (fun e w' => e = .returned (.tuple #[.agg #[.int .i64 0, .slice none 0 0], .int .i64 152]) ∧ w.grownBy w' none) [{ target := .fn (.func 180) #[.pointer (some ⟨z, 0, none⟩), .pointer (some ⟨z + 1, 0, none⟩)], args := #[] }] (.panicking oops) W := by
  refine leaves_cons (f := 180) (args := #[.pointer (some ⟨z, 0, none⟩), .pointer (some ⟨z + 1, 0, none⟩)]) (by simp) (by simp [go_sem]) ?_
  refine (catch_panicking z (z + 1) x y e 30 (.int .i64 152) [] W c0 c1 c2 fb fe (by omega)).mono ?_
  rintro e' u' w'' ⟨rfl, rfl, hw''⟩
  have q1 := setCell_grown W z 0 (.int .i64 0)
  have q2 := setCell_grown (W.setCell ⟨z, 0, none⟩ (.int .i64 0)) z 1 (.slice none 0 0)
  have q3 := setCell_grown ((W.setCell ⟨z, 0, none⟩ (.int .i64 0)).setCell ⟨z, 1, none⟩ (.slice none 0 0)) (z + 1) 0 (.int .i64 152)
  have hG3 : w.grownBy w'' none := by
    rw [hw'']
    exact grown_trans (grown_trans (grown_trans hG q1 (fun k hk => Or.inr (by cases hk; omega))) q2 (fun k hk => Or.inr (by cases hk; omega))) q3 (fun k hk => Or.inr (by cases hk; omega))
  have y0 : w''.cell? ⟨z, 0, none⟩ = some (.int .i64 0) := by
    rw [hw'', World.cell?_setCell_other _ _ _ _ (by simp), World.cell?_setCell_other _ _ _ _ (by simp)]
    exact World.cell?_setCell_same _ _ _ c0
  have y1 : w''.cell? ⟨z, 1, none⟩ = some (.slice none 0 0) := by
    rw [hw'', World.cell?_setCell_other _ _ _ _ (by simp)]
    exact World.cell?_setCell_same (u := y) _ _ _ (by rw [World.cell?_setCell_other _ _ _ _ (by simp)]; exact c1)
  have y2 : w''.cell? ⟨z + 1, 0, none⟩ = some (.int .i64 152) := by
    rw [hw'']
    exact World.cell?_setCell_same (u := .int .i64 e) _ _ _ (by rw [World.cell?_setCell_other _ _ _ _ (by simp), World.cell?_setCell_other _ _ _ _ (by simp)]; exact c2)
  clear hw''
  simp only [settle]
  exact ⟨.tuple #[.agg #[.int .i64 0, .slice none 0 0], .int .i64 152], by simp [results, Tryz.results165, go_sem, y0, y1, y2, h2, h3], rfl, hG3⟩
set_option maxRecDepth 100000 in
set_option maxHeartbeats 8000000 in
theorem cut_sum (w : World) (bo : Option Addr) (bn bc : Nat) (B : List UInt8) (hb : Bs w bo bn bc B) (h32 : 32 ≤ bn) (htop : bn ≤ 65536) (hbc : bc ≤ 9223372036854775807) (hsum : sAt B ≠ sm (B.drop 8)) :
    Calls Tryz.prog 165 #[.slice bo bn bc] w fun e w' => e = .returned (.tuple #[.agg #[.int .i64 0, .slice none 0 0], .int .i64 152]) ∧ w.grownBy w' none := by
  have hmf : ∀ (fn : Fn) (first cap : Array Value) (w : World), (Instr.makeFunc fn first cap).run Tryz.prog w = .ok (.func fn first cap) w := fun _ _ _ _ => rfl
  go_enter_defers Tryz.func165, Tryz.ntmps165
  go_wp2_with fail
  have g1 := alloc_grown w (.cells #[.int .i64 0, .slice none 0 0] 54)
  have g2 := alloc_grown (w.alloc (.cells #[.int .i64 0, .slice none 0 0] 54)) (.cells #[.int .i64 0] 30)
  have hG0 := grown_trans g1 g2 (by simp)
  have k1 := heap_alloc_new w (.cells #[.int .i64 0, .slice none 0 0] 54)
  have k2 := heap_alloc_new (w.alloc (.cells #[.int .i64 0, .slice none 0 0] 54)) (.cells #[.int .i64 0] 30)
  have s1 : (w.alloc (.cells #[.int .i64 0, .slice none 0 0] 54)).heap.size = w.heap.size + 1 := by simp
  have s2 : ((w.alloc (.cells #[.int .i64 0, .slice none 0 0] 54)).alloc (.cells #[.int .i64 0] 30)).heap.size = w.heap.size + 2 := by simp
  rw [s1] at k2
  have k1' := (g2.block w.heap.size (by rw [s1]; omega) (by simp)).trans k1
  have hb0 := hb.grown hG0
  have hbz : ∀ b, bo = some b → b.block < w.heap.size := fun b hb' => by obtain ⟨b1, o1, e1, hl⟩ := hb.addr (by omega); rw [hb'] at e1; obtain rfl := Option.some.inj e1; exact hl
  clear g1 g2 k1 hb s1
  generalize ((w.alloc (.cells #[.int .i64 0, .slice none 0 0] 54)).alloc (.cells #[.int .i64 0] 30)) = w0 at *
  have hup : ∀ {W W' : World} {row : Nat}, w.grownBy W none → W.grownBy W' (some row) → w.heap.size ≤ row → w.grownBy W' none := fun h1 h2 h3 => grown_trans h1 h2 (fun k hk => Or.inr (by cases hk; exact h3))
  obtain ⟨z, hz⟩ : ∃ z, Hid (z = w.heap.size) := ⟨w.heap.size, (rfl : _ = _)⟩
  rw [← hz.out] at k1' k2 s2 hbz hup ⊢
  refine (new_far _ bo bn bc B hb0 (by omega)).mono ?_
  rintro e w1 ⟨rb, g, rfl, hR, hrb, hgb, hg1⟩
  rw [s2] at hrb hgb
  have hG1 := grown_trans hG0 hg1 (by simp)
  have hz1 := (hg1.block z (by omega) (by simp)).trans k1'
  have hz2 := (hg1.block (z + 1) (by omega) (by simp)).trans k2
  have hsz1 := hg1.size
  have hrbl : rb < w1.heap.size := World.block_lt_of_cell? w1 _ hR.c0
  go_wp2_with fail
  have g2 := alloc_grown w1 (.cells #[.slice bo bn bc, .pointer (some ⟨rb, 0, none⟩)] 276)
  have k3 := heap_alloc_new w1 (.cells #[.slice bo bn bc, .pointer (some ⟨rb, 0, none⟩)] 276)
  have hC2 : Ct (w1.alloc (.cells #[.slice bo bn bc, .pointer (some ⟨rb, 0, none⟩)] 276)) bo bn bc rb g B 0 :=
    Ct.grown ⟨hb0.grown hg1, ⟨0, bn, bn, by simpa using hR, by omega⟩, fun a ha => by have := hbz a ha; omega, hrbl, by omega⟩ g2
  have hK2 : Kc (w1.alloc (.cells #[.slice bo bn bc, .pointer (some ⟨rb, 0, none⟩)] 276)) z w1.heap.size bo bn bc rb (.int .i64 0) (.slice none 0 0) (.int .i64 0) := by
    have y1 := (g2.block z (by omega) (by simp)).trans hz1
    have y2 := (g2.block (z + 1) (by omega) (by simp)).trans hz2
    have := g2.size
    exact ⟨cell_of y1 rfl, cell_of y1 rfl, cell_of y2 rfl, cell_of k3 rfl, cell_of k3 rfl, frozen_of y1, frozen_of y2, by omega, by simp⟩
  have hG2 := grown_trans hG1 g2 (by simp)
  have hzc : z + 2 ≤ w1.heap.size ∧ rb < w1.heap.size := by omega
  obtain ⟨hzc1, hzc2⟩ := hzc
  clear g2 k3 hz1 hz2 hR hG1 hg1 hb0 k1' k2 hG0 s2 hsz1
  generalize w1.alloc (.cells #[.slice bo bn bc, .pointer (some ⟨rb, 0, none⟩)] 276) = w2 at *
  generalize w1.heap.size = zc at *
  have na : some z ≠ some rb := by simp; omega
  have nb : some (z + 1) ≠ some rb := by simp; omega
  have nc : some zc ≠ some rb := by simp; omega
  have hrbz : z ≤ rb := by omega
  refine (passC_yes _ bo bn bc rb g B 0 4 hC2 (by omega) (by omega)).mono ?_
  rintro e w3 ⟨po, pc, rfl, -, -, -, hC3, hg3⟩
  have hK3 := hK2.kept hg3 na nb nc
  have hG3 := hup hG2 hg3 hrbz
  clear hK2 hC2 hg3 hG2
  rw [Nat.zero_add] at hC3
  obtain ⟨bb, oo, rfl, hbb⟩ := hC3.bytes.addr (by omega)
  have hbr := hC3.bytes.room
  go_wp2_with fail
  refine wp_region_any (by kernel_rfl) ?_
  change wpAny _ _ _ _ _ _ _ (World.drew _)
  have hd0 := grown_drew w3 none
  refine reg4_no (by kernel_rfl) (hK3.kept hd0 (by simp) (by simp) (by simp)) (hC3.grown hd0) nc h32 hbr hbc hsum rfl rfl rfl ?_
  intro a' w' hroom hdf t2 t3 hg
  have hKw := (hK3.kept hd0 (by simp) (by simp) (by simp)).kept hg na nb nc
  have hGw := hup (grown_trans hG3 hd0 (by simp)) hg hrbz
  show Leaves _ _ _ _ a'.defers _ _
  rw [hdf]
  exact leaves_no w w' z _ _ _ t2 t3 (by rw [hz.out]; exact Nat.le_refl _) hKw.b0 hKw.b1 hKw.e0 hKw.fb hKw.fe hGw
end Go.Proofs.YtlghcboenkglnaaGreatDoor.Rec
