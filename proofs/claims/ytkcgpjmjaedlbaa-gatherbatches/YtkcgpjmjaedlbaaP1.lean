/-
  spoil of a list that was lent: numbers become other numbers of their kind, and nothing else.
-/
import Derived.Test.YtkcgpjmjaedlbaaN2
namespace Go.Proofs.Ytkcgpjmjaedlbaa
open Go.RowKit
set_option linter.unusedVariables false

/-- Bytes are bytes, numbers numbers, slices the same. -/
structure Ty (A B : World) : Prop where
  u8 : ∀ a z, A.cell? a = some (.int .u8 z) → ∃ z', B.cell? a = some (.int .u8 z')
  i64 : ∀ a z, A.cell? a = some (.int .i64 z) → ∃ z', B.cell? a = some (.int .i64 z')
  sl : ∀ a o n c, A.cell? a = some (.slice o n c) → B.cell? a = some (.slice o n c)
  fz : ∀ a, B.frozen? a = A.frozen? a
theorem Ty.refl (A : World) : Ty A A := ⟨fun _ z h => ⟨z, h⟩, fun _ z h => ⟨z, h⟩, fun _ _ _ _ h => h, fun _ => rfl⟩
theorem Ty.trans {A B C : World} (h : Ty A B) (k : Ty B C) : Ty A C :=
  ⟨fun a z e => by obtain ⟨z', e'⟩ := h.u8 a z e; exact k.u8 a z' e', fun a z e => by obtain ⟨z', e'⟩ := h.i64 a z e; exact k.i64 a z' e', fun a o n c e => k.sl a o n c (h.sl a o n c e), fun a => (k.fz a).trans (h.fz a)⟩
theorem Ty.set8 (B : World) {p : Addr} {z : Int} (hp : B.cell? p = some (.int .u8 z)) (z' : Int) : Ty B (B.setCell p (.int .u8 z')) := by
  refine ⟨fun a y e => ?_, fun a y e => ?_, fun a o n c e => ?_, fun a => World.frozen?_setCell _ _ _ _⟩
  · by_cases h : p = a
    · subst h; exact ⟨z', World.cell?_setCell_same _ _ _ hp⟩
    · exact ⟨y, by rw [World.cell?_setCell_other _ _ _ _ h]; exact e⟩
  · have h : p ≠ a := fun h => by subst h; rw [hp] at e; cases e
    exact ⟨y, by rw [World.cell?_setCell_other _ _ _ _ h]; exact e⟩
  · have h : p ≠ a := fun h => by subst h; rw [hp] at e; cases e
    rw [World.cell?_setCell_other _ _ _ _ h]; exact e
theorem Ty.set64 (B : World) {p : Addr} {z : Int} (hp : B.cell? p = some (.int .i64 z)) (z' : Int) : Ty B (B.setCell p (.int .i64 z')) := by
  refine ⟨fun a y e => ?_, fun a y e => ?_, fun a o n c e => ?_, fun a => World.frozen?_setCell _ _ _ _⟩
  · have h : p ≠ a := fun h => by subst h; rw [hp] at e; cases e
    exact ⟨y, by rw [World.cell?_setCell_other _ _ _ _ h]; exact e⟩
  · by_cases h : p = a
    · subst h; exact ⟨z', World.cell?_setCell_same _ _ _ hp⟩
    · exact ⟨y, by rw [World.cell?_setCell_other _ _ _ _ h]; exact e⟩
  · have h : p ≠ a := fun h => by subst h; rw [hp] at e; cases e
    rw [World.cell?_setCell_other _ _ _ _ h]; exact e
theorem Ty.byte {A B : World} (h : Ty A B) {p : Addr} {z : Int} (hp : B.cell? p = some (.int .u8 z)) (z' : Int) : Ty A (B.setCell p (.int .u8 z')) := h.trans (Ty.set8 B hp z')
theorem Ty.time {A B : World} (h : Ty A B) {p : Addr} {z : Int} (hp : B.cell? p = some (.int .i64 z)) (z' : Int) : Ty A (B.setCell p (.int .i64 z')) := h.trans (Ty.set64 B hp z')
/-- Bytes from lo on, below H, that may be written. -/
def Wq (W : World) (lo H : Nat) (ao : Option Addr) (n : Nat) : Prop := ∀ i, i < n → ∃ b o z, ao = some ⟨b, o, none⟩ ∧ (lo ≤ b ∧ b < H) ∧ W.cell? ⟨b, o + i, none⟩ = some (.int .u8 z) ∧ W.frozen? ⟨b, o + i, none⟩ = false
theorem Wq.ty {A B : World} {lo H n : Nat} {ao : Option Addr} (h : Wq A lo H ao n) (k : Ty A B) : Wq B lo H ao n := fun i hi => by
  obtain ⟨b, o, z, h1, h2, h3, h4⟩ := h i hi
  obtain ⟨z', h5⟩ := k.u8 _ _ h3
  exact ⟨b, o, z', h1, h2, h5, (k.fz _).trans h4⟩
/-- Records in a row, that may be written. -/
structure Sq (W : World) (lo g H n : Nat) (rs : List Rc) : Prop where
  len : rs.length = n
  top : lo ≤ g ∧ g < H
  t : ∀ j, j < n → ∃ z, W.cell? ⟨g, j * 3, none⟩ = some (.int .i64 z)
  k : ∀ j r, rs[j]? = some r → W.cell? ⟨g, j * 3 + 1, none⟩ = some (.slice r.ko r.kn r.kc)
  v : ∀ j r, rs[j]? = some r → W.cell? ⟨g, j * 3 + 2, none⟩ = some (.slice r.vo r.vn r.vc)
  fz : ∀ i, W.frozen? ⟨g, i, none⟩ = false
  kb : ∀ r ∈ rs, Wq W lo H r.ko r.kn
  vb : ∀ r ∈ rs, Wq W lo H r.vo r.vn
theorem Sq.ty {A B : World} {lo g H n : Nat} {rs : List Rc} (h : Sq A lo g H n rs) (k : Ty A B) : Sq B lo g H n rs :=
  ⟨h.len, h.top, fun j hj => by obtain ⟨z, hz⟩ := h.t j hj; exact k.i64 _ _ hz, fun j r hr => k.sl _ _ _ _ (h.k j r hr), fun j r hr => k.sl _ _ _ _ (h.v j r hr), fun i => (k.fz _).trans (h.fz i), fun r hr => (h.kb r hr).ty k, fun r hr => (h.vb r hr).ty k⟩
theorem Lt.sq {w : World} {lo hi g n c : Nat} {rs : List Rc} (h : Lt w lo hi g n c rs) : Sq w lo g hi n rs := by
  have hl := h.len
  have hR := h.shows
  have bytes : ∀ (ao : Option Addr) (m c : Nat) (l : List UInt8), Bs w ao m c l → (∀ a, ao = some a → lo ≤ a.block ∧ a.block < hi) → (∀ a, ao = some a → ∀ i, w.frozen? ⟨a.block, i, none⟩ = false) → Wq w lo hi ao m := by
    intro ao m c l hb hin hfz i hi
    obtain ⟨b, o, rfl, _⟩ := hb.addr (by omega)
    have hil : i < l.length := by rw [hb.len]; exact hi
    exact ⟨b, o, _, rfl, hin _ rfl, hb.at hil, hfz _ rfl _⟩
  have cs : ∀ j r, rs[j]? = some r → _ := fun j r hr => hR.cells g 0 rfl j r hr
  simp only [Nat.zero_add] at cs
  refine ⟨hl, h.gin, fun j hj => ?_, fun j r hr => (cs j r hr).2.1, fun j r hr => (cs j r hr).2.2, h.row.there, fun r hr => bytes _ _ _ _ (h.rk r hr).key (h.kin r hr) (fun a ha => (h.kfz r hr a ha).2), fun r hr => bytes _ _ _ _ (h.rk r hr).value (h.vin r hr) (fun a ha => (h.vfz r hr a ha).2)⟩
  obtain ⟨r, hr⟩ : ∃ r, rs[j]? = some r := ⟨_, List.getElem?_eq_getElem (by omega)⟩
  exact ⟨_, (cs j r hr).1⟩

set_option maxRecDepth 100000 in
set_option maxHeartbeats 8000000 in
theorem spoil_ty (w : World) (lo g H n c : Nat) (rs : List Rc) (h : Sq w lo g H n rs) (hn : n ≤ 100000) (hb : ∀ r ∈ rs, r.kn ≤ 140737488355328 ∧ r.vn ≤ 140737488355328) :
    Calls Try.prog 21 #[.slice (some ⟨g, 0, none⟩) n c] w fun e w' => e = .returned (.bool true) ∧ Chg w w' (fun k => lo ≤ k ∧ k < H) ∧ Ty w w' := by
  go_enter Try.func21, Try.ntmps21
  go_wp2_with fail
  go_loopw [3, 4, 5] (fun i' _ _ wr => ∃ i : Nat, i ≤ n ∧ i' = .int .i64 i ∧ Chg w wr (fun k => lo ≤ k ∧ k < H) ∧ Ty w wr) (fun i' _ _ _ => n - (intOf i').toNat)
  case atStart => exact ⟨0, Nat.zero_le _, rfl, Chg.refl _ _, Ty.refl _⟩
  case round =>
    obtain ⟨i, hi, rfl, hB, hS⟩ := hrel
    by_cases hlt : i < n
    · have h1 : i < rs.length := by rw [h.len]; exact hlt
      obtain ⟨r, hr⟩ : ∃ r, rs[i]? = some r := ⟨_, List.getElem?_eq_getElem h1⟩
      have hrm : r ∈ rs := List.mem_of_getElem? hr
      have hd : decide ((i : Int) < (n : Int)) = true := by simp; omega
      obtain ⟨b1, b2⟩ := hb r hrm
      have i1 : (0 : Int) ≤ (i : Int) := by omega
      have i2 : (i : Int) < (n : Int) := by omega
      have hck : ∀ W, Ty w W → W.cell? ⟨g, i * 3 + 1, none⟩ = some (.slice r.ko r.kn r.kc) := fun W hW => hW.sl _ _ _ _ (h.k i r hr)
      have hcv : ∀ W, Ty w W → W.cell? ⟨g, i * 3 + 2, none⟩ = some (.slice r.vo r.vn r.vc) := fun W hW => hW.sl _ _ _ _ (h.v i r hr)
      go_wp2_with fail
      go_loopw [4] (fun k' wr => ∃ k : Nat, k ≤ r.kn ∧ k' = .int .i64 k ∧ Chg w wr (fun k => lo ≤ k ∧ k < H) ∧ Ty w wr) (fun k' _ => r.kn - (intOf k').toNat)
      case atStart => exact ⟨0, Nat.zero_le _, rfl, hB, hS⟩
      case round =>
        obtain ⟨k, hk, rfl, hB2, hS2⟩ := hrel
        have a1 := hck _ hS2
        by_cases hlk : k < r.kn
        · have hd2 : decide ((k : Int) < (r.kn : Int)) = true := by simp; omega
          obtain ⟨kb, ko, z, hko, hgb, hcz, hfz⟩ := (h.kb r hrm).ty hS2 k hlk
          rw [hko] at a1
          have k1 : (0 : Int) ≤ (k : Int) := by omega
          have k2 : (k : Int) < (r.kn : Int) := by omega
          go_wp2
          go_roundw
          case rel => exact ⟨k + 1, by omega, by go_num, chg_set hB2 _ hgb, hS2.byte hcz _⟩
          case measure => simp [intOf]; omega
        · obtain rfl : k = r.kn := by omega
          have hd2 : decide ((r.kn : Int) < (r.kn : Int)) = false := by simp
          go_wp2_with fail
          go_loopw [5] (fun k' wr => ∃ k : Nat, k ≤ r.vn ∧ k' = .int .i64 k ∧ Chg w wr (fun k => lo ≤ k ∧ k < H) ∧ Ty w wr) (fun k' _ => r.vn - (intOf k').toNat)
          case atStart => exact ⟨0, Nat.zero_le _, rfl, hB2, hS2⟩
          case round =>
            obtain ⟨k, hk, rfl, hB3, hS3⟩ := hrel
            have a2 := hcv _ hS3
            by_cases hlk : k < r.vn
            · have hd3 : decide ((k : Int) < (r.vn : Int)) = true := by simp; omega
              obtain ⟨kb, ko, z, hko, hgb, hcz, hfz⟩ := (h.vb r hrm).ty hS3 k hlk
              rw [hko] at a2
              have k1 : (0 : Int) ≤ (k : Int) := by omega
              have k2 : (k : Int) < (r.vn : Int) := by omega
              go_wp2
              go_roundw
              case rel => exact ⟨k + 1, by omega, by go_num, chg_set hB3 _ hgb, hS3.byte hcz _⟩
              case measure => simp [intOf]; omega
            · obtain rfl : k = r.vn := by omega
              have hd3 : decide ((r.vn : Int) < (r.vn : Int)) = false := by simp
              obtain ⟨zt0, hzt0⟩ := h.t i hlt
              obtain ⟨zt, hzt⟩ := hS3.i64 _ _ hzt0
              have hfz := (hS3.fz ⟨g, i * 3, none⟩).trans (h.fz (i * 3))
              go_wp2
              go_roundw
              case rel => exact ⟨i + 1, by omega, by go_num, chg_set hB3 _ h.top, hS3.time hzt _⟩
              case measure => simp [intOf]; omega
    · obtain rfl : i = n := by omega
      have hd : decide ((i : Int) < (i : Int)) = false := by simp
      go_wp2
      go_ret
      exact ⟨rfl, hB, hS⟩
end Go.Proofs.Ytkcgpjmjaedlbaa
