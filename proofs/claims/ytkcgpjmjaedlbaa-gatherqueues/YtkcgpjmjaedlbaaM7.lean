/-
  spoil: records that were answered are written over: the walk.
-/
import Derived.Test.YtkcgpjmjaedlbaaM6
namespace Go.Proofs.Ytkcgpjmjaedlbaa
open Go.RowKit
set_option linter.unusedVariables false

/-- Bytes behind a row, that may be written. -/
def Wb (W : World) (g H : Nat) (ao : Option Addr) (n : Nat) : Prop := ∀ i, i < n → ∃ b o z, ao = some ⟨b, o, none⟩ ∧ (g < b ∧ b < H) ∧ W.cell? ⟨b, o + i, none⟩ = some (.int .u8 z) ∧ W.frozen? ⟨b, o + i, none⟩ = false
/-- Records in a row, that may be written. -/
structure Sp (W : World) (g H n : Nat) (rs : List Rc) : Prop where
  len : rs.length = n
  top : g < H
  t : ∀ j, j < n → ∃ z, W.cell? ⟨g, j * 3, none⟩ = some (.int .i64 z)
  k : ∀ j r, rs[j]? = some r → W.cell? ⟨g, j * 3 + 1, none⟩ = some (.slice r.ko r.kn r.kc)
  v : ∀ j r, rs[j]? = some r → W.cell? ⟨g, j * 3 + 2, none⟩ = some (.slice r.vo r.vn r.vc)
  fz : ∀ i, W.frozen? ⟨g, i, none⟩ = false
  kb : ∀ r ∈ rs, Wb W g H r.ko r.kn
  vb : ∀ r ∈ rs, Wb W g H r.vo r.vn

theorem Wb.byte {W : World} {g H : Nat} {ao : Option Addr} {n : Nat} (h : Wb W g H ao n) {b q : Nat} {z z' : Int} (hc : W.cell? ⟨b, q, none⟩ = some (.int .u8 z)) : Wb (W.setCell ⟨b, q, none⟩ (.int .u8 z')) g H ao n := by
  intro i hi
  obtain ⟨b2, o2, z2, h1, h2, h3, h4⟩ := h i hi
  by_cases e : (⟨b, q, none⟩ : Addr) = ⟨b2, o2 + i, none⟩
  · refine ⟨b2, o2, z', h1, h2, ?_, by rw [World.frozen?_setCell]; exact h4⟩
    rw [← e]
    exact World.cell?_setCell_same _ _ _ hc
  · exact ⟨b2, o2, z2, h1, h2, by rw [World.cell?_setCell_other _ _ _ _ e]; exact h3, by rw [World.frozen?_setCell]; exact h4⟩
theorem Wb.time {W : World} {g H : Nat} {ao : Option Addr} {n q : Nat} (h : Wb W g H ao n) (u : Value) : Wb (W.setCell ⟨g, q, none⟩ u) g H ao n := by
  intro i hi
  obtain ⟨b2, o2, z2, h1, h2, h3, h4⟩ := h i hi
  exact ⟨b2, o2, z2, h1, h2, by rw [World.cell?_setCell_other _ _ _ _ (by intro e9; simp only [Addr.mk.injEq] at e9; omega)]; exact h3, by rw [World.frozen?_setCell]; exact h4⟩
theorem Sp.byte {W : World} {g H n : Nat} {rs : List Rc} (h : Sp W g H n rs) {b q : Nat} {z : Int} (z' : Int) (hb : g < b) (hc : W.cell? ⟨b, q, none⟩ = some (.int .u8 z)) : Sp (W.setCell ⟨b, q, none⟩ (.int .u8 z')) g H n rs := by
  have ho : ∀ i, (W.setCell ⟨b, q, none⟩ (.int .u8 z')).cell? ⟨g, i, none⟩ = W.cell? ⟨g, i, none⟩ := fun i => World.cell?_setCell_other _ _ _ _ (by intro e9; simp only [Addr.mk.injEq] at e9; omega)
  refine ⟨h.len, h.top, fun j hj => by rw [ho]; exact h.t j hj, fun j r hr => by rw [ho]; exact h.k j r hr, fun j r hr => by rw [ho]; exact h.v j r hr, fun i => by rw [World.frozen?_setCell]; exact h.fz i, fun r hr => (h.kb r hr).byte hc, fun r hr => (h.vb r hr).byte hc⟩
theorem Sp.time {W : World} {g H n : Nat} {rs : List Rc} (h : Sp W g H n rs) {j : Nat} (hj : j < n) (z : Int) : Sp (W.setCell ⟨g, j * 3, none⟩ (.int .i64 z)) g H n rs := by
  refine ⟨h.len, h.top, fun i hi => ?_, fun i r hr => ?_, fun i r hr => ?_, fun i => by rw [World.frozen?_setCell]; exact h.fz i, fun r hr => (h.kb r hr).time _, fun r hr => (h.vb r hr).time _⟩
  · by_cases e : j = i
    · subst e
      obtain ⟨z0, h0⟩ := h.t j hj
      exact ⟨z, World.cell?_setCell_same _ _ _ h0⟩
    · obtain ⟨z0, h0⟩ := h.t i hi
      exact ⟨z0, by rw [World.cell?_setCell_other _ _ _ _ (by intro e9; simp only [Addr.mk.injEq] at e9; omega)]; exact h0⟩
  · rw [World.cell?_setCell_other _ _ _ _ (by intro e9; simp only [Addr.mk.injEq] at e9; omega)]; exact h.k i r hr
  · rw [World.cell?_setCell_other _ _ _ _ (by intro e9; simp only [Addr.mk.injEq] at e9; omega)]; exact h.v i r hr

theorem chg_set {S : Nat → Prop} {w W : World} (h : Chg w W S) {b q : Nat} (v : Value) (hb : S b) : Chg w (W.setCell ⟨b, q, none⟩ v) S :=
  h.trans ((setCell_chg W b q v).mono fun k _ e => by rw [show k = b from e]; exact hb)

theorem Rw.sp {w : World} {g H n c : Nat} {rs : List Rc} (h : Rw w g (some ⟨g, 0, none⟩) n c rs) (hO : ∀ r ∈ rs, Own w (g + 1) r) (hg : g < H) (hH : ∀ r ∈ rs, (∀ a, r.ko = some a → a.block < H) ∧ ∀ a, r.vo = some a → a.block < H) : Sp w g H n rs := by
  have hl := h.len
  have bytes : ∀ (ao : Option Addr) (m c : Nat) (l : List UInt8), Bs w ao m c l → (∀ a, ao = some a → g + 1 ≤ a.block ∧ a.block < H) → (∀ a, ao = some a → ∀ i, w.frozen? ⟨a.block, i, none⟩ = false) → Wb w g H ao m := by
    intro ao m c l hb hin hfz i hi
    obtain ⟨b, o, rfl, _⟩ := hb.addr (by omega)
    have hil : i < l.length := by rw [hb.len]; exact hi
    exact ⟨b, o, _, rfl, hin _ rfl, hb.at hil, hfz _ rfl _⟩
  refine ⟨hl, hg, fun j hj => ⟨_, (h.cells (j := j) (by omega)).1⟩, fun j r hr => ?_, fun j r hr => ?_, h.there, fun r hr => bytes _ _ _ _ (hO r hr).rk.key (fun a ha => ⟨((hO r hr).kin a ha).1, (hH r hr).1 a ha⟩) (hO r hr).kfz, fun r hr => bytes _ _ _ _ (hO r hr).rk.value (fun a ha => ⟨((hO r hr).vin a ha).1, (hH r hr).2 a ha⟩) (hO r hr).vfz⟩
  · obtain ⟨hj, e⟩ := List.getElem?_eq_some_iff.1 hr
    rw [← e]
    exact (h.cells hj).2.1
  · obtain ⟨hj, e⟩ := List.getElem?_eq_some_iff.1 hr
    rw [← e]
    exact (h.cells hj).2.2

set_option maxRecDepth 100000 in
theorem spoil_nil (w : World) (ao : Option Addr) (c : Nat) : Calls Try.prog 21 #[.slice ao 0 c] w fun e w' => e = .returned (.bool true) ∧ w' = w := by
  go_enter Try.func21, Try.ntmps21
  go_wp2_with fail
  go_loop [3, 4, 5] (fun i' _ _ => i' = .int .i64 0) (fun _ _ _ => 0)
  case atStart => rfl
  case round =>
    subst hrel
    go_wp2
    go_ret
    exact ⟨rfl, rfl⟩

set_option maxRecDepth 100000 in
set_option maxHeartbeats 8000000 in
theorem spoil_any (w : World) (g H n c : Nat) (rs : List Rc) (h : Sp w g H n rs) (hn : n ≤ 100000) (hb : ∀ r ∈ rs, r.kn ≤ 140737488355328 ∧ r.vn ≤ 140737488355328) :
    Calls Try.prog 21 #[.slice (some ⟨g, 0, none⟩) n c] w fun e w' => e = .returned (.bool true) ∧ Chg w w' (fun k => g ≤ k ∧ k < H) := by
  go_enter Try.func21, Try.ntmps21
  go_wp2_with fail
  go_loopw [3, 4, 5] (fun i' _ _ wr => ∃ i : Nat, i ≤ n ∧ i' = .int .i64 i ∧ Sp wr g H n rs ∧ Chg w wr (fun k => g ≤ k ∧ k < H)) (fun i' _ _ _ => n - (intOf i').toNat)
  case atStart => exact ⟨0, Nat.zero_le _, rfl, h, Chg.refl _ _⟩
  case round =>
    obtain ⟨i, hi, rfl, hS, hB⟩ := hrel
    by_cases hlt : i < n
    · have h1 : i < rs.length := by rw [h.len]; exact hlt
      obtain ⟨r, hr⟩ : ∃ r, rs[i]? = some r := ⟨_, List.getElem?_eq_getElem h1⟩
      have hrm : r ∈ rs := List.mem_of_getElem? hr
      have hd : decide ((i : Int) < (n : Int)) = true := by simp; omega
      obtain ⟨b1, b2⟩ := hb r hrm
      have i1 : (0 : Int) ≤ (i : Int) := by omega
      have i2 : (i : Int) < (n : Int) := by omega
      have hck : ∀ W, Sp W g H n rs → W.cell? ⟨g, i * 3 + 1, none⟩ = some (.slice r.ko r.kn r.kc) := fun W hW => hW.k i r hr
      have hcv : ∀ W, Sp W g H n rs → W.cell? ⟨g, i * 3 + 2, none⟩ = some (.slice r.vo r.vn r.vc) := fun W hW => hW.v i r hr
      go_wp2_with fail
      go_loopw [4] (fun k' wr => ∃ k : Nat, k ≤ r.kn ∧ k' = .int .i64 k ∧ Sp wr g H n rs ∧ Chg w wr (fun k => g ≤ k ∧ k < H)) (fun k' _ => r.kn - (intOf k').toNat)
      case atStart => exact ⟨0, Nat.zero_le _, rfl, hS, hB⟩
      case round =>
        obtain ⟨k, hk, rfl, hS2, hB2⟩ := hrel
        have a1 := hck _ hS2
        by_cases hlk : k < r.kn
        · have hd2 : decide ((k : Int) < (r.kn : Int)) = true := by simp; omega
          obtain ⟨kb, ko, z, hko, hgb, hcz, hfz⟩ := hS2.kb r hrm k hlk
          rw [hko] at a1
          have k1 : (0 : Int) ≤ (k : Int) := by omega
          have k2 : (k : Int) < (r.kn : Int) := by omega
          go_wp2
          go_roundw
          case rel => exact ⟨k + 1, by omega, by go_num, hS2.byte _ hgb.1 hcz, chg_set hB2 _ ⟨by omega, hgb.2⟩⟩
          case measure => simp [intOf]; omega
        · obtain rfl : k = r.kn := by omega
          have hd2 : decide ((r.kn : Int) < (r.kn : Int)) = false := by simp
          go_wp2_with fail
          go_loopw [5] (fun k' wr => ∃ k : Nat, k ≤ r.vn ∧ k' = .int .i64 k ∧ Sp wr g H n rs ∧ Chg w wr (fun k => g ≤ k ∧ k < H)) (fun k' _ => r.vn - (intOf k').toNat)
          case atStart => exact ⟨0, Nat.zero_le _, rfl, hS2, hB2⟩
          case round =>
            obtain ⟨k, hk, rfl, hS3, hB3⟩ := hrel
            have a2 := hcv _ hS3
            by_cases hlk : k < r.vn
            · have hd3 : decide ((k : Int) < (r.vn : Int)) = true := by simp; omega
              obtain ⟨kb, ko, z, hko, hgb, hcz, hfz⟩ := hS3.vb r hrm k hlk
              rw [hko] at a2
              have k1 : (0 : Int) ≤ (k : Int) := by omega
              have k2 : (k : Int) < (r.vn : Int) := by omega
              go_wp2
              go_roundw
              case rel => exact ⟨k + 1, by omega, by go_num, hS3.byte _ hgb.1 hcz, chg_set hB3 _ ⟨by omega, hgb.2⟩⟩
              case measure => simp [intOf]; omega
            · obtain rfl : k = r.vn := by omega
              have hd3 : decide ((r.vn : Int) < (r.vn : Int)) = false := by simp
              obtain ⟨zt, hzt⟩ := hS3.t i hlt
              have hfz := hS3.fz (i * 3)
              go_wp2
              go_roundw
              case rel => exact ⟨i + 1, by omega, by go_num, hS3.time hlt _, chg_set hB3 _ ⟨Nat.le_refl _, h.top⟩⟩
              case measure => simp [intOf]; omega
    · obtain rfl : i = n := by omega
      have hd : decide ((i : Int) < (i : Int)) = false := by simp
      go_wp2
      go_ret
      exact ⟨rfl, hB⟩
end Go.Proofs.Ytkcgpjmjaedlbaa
