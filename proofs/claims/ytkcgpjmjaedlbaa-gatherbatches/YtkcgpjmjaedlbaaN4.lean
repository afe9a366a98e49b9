/-
  What is handed on, as the round has it; spoil, with what it keeps.
-/
import Derived.Test.YtkcgpjmjaedlbaaN2
namespace Go.Proofs.Ytkcgpjmjaedlbaa
open Go.RowKit Go.Shelf
set_option linter.unusedVariables false

set_option maxRecDepth 100000 in
set_option maxHeartbeats 8000000 in
theorem spoil_kept (w : World) (g H n c : Nat) (rs : List Rc) (h : Sp w g H n rs) (hn : n ≤ 100000) (hb : ∀ r ∈ rs, r.kn ≤ 140737488355328 ∧ r.vn ≤ 140737488355328) :
    Calls Try.prog 21 #[.slice (some ⟨g, 0, none⟩) n c] w fun e w' => e = .returned (.bool true) ∧ Chg w w' (fun k => g ≤ k ∧ k < H) ∧ KeepsOthers w w' := by
  go_enter Try.func21, Try.ntmps21
  go_wp2_with fail
  go_loopw [3, 4, 5] (fun i' _ _ wr => ∃ i : Nat, i ≤ n ∧ i' = .int .i64 i ∧ Sp wr g H n rs ∧ (Chg w wr (fun k => g ≤ k ∧ k < H) ∧ KeepsOthers w wr)) (fun i' _ _ _ => n - (intOf i').toNat)
  case atStart => exact ⟨0, Nat.zero_le _, rfl, h, ⟨Chg.refl _ _, KeepsOthers.refl _⟩⟩
  case round =>
    obtain ⟨i, hi, rfl, hS, hB⟩ := hrel
    by_cases hlt : i < n
    · have h1 : i < rs.length := by rw [h.len]; exact hlt
      obtain ⟨r, hr⟩ : ∃ r, rs[i]? = some r := ⟨_, List.getElem?_eq_getElem h1⟩
      have hrm : r ∈ rs := List.mem_of_getElem? hr
      have hd : decide ((i : Int) < (n : Int)) = true := by simp; omega
      obtain ⟨b1, b2⟩ := hb r hrm
      have i1 : (0 : Int) ≤ (i : Int) := by omega
      have i2 : (i : Int) < (n : Int) := by omega
      have hck : ∀ W, Sp W g H n rs → W.cell? ⟨g, i * 3 + 1, none⟩ = some (.slice r.ko r.kn r.kc) := fun W hW => hW.k i r hr
      have hcv : ∀ W, Sp W g H n rs → W.cell? ⟨g, i * 3 + 2, none⟩ = some (.slice r.vo r.vn r.vc) := fun W hW => hW.v i r hr
      go_wp2_with fail
      go_loopw [4] (fun k' wr => ∃ k : Nat, k ≤ r.kn ∧ k' = .int .i64 k ∧ Sp wr g H n rs ∧ (Chg w wr (fun k => g ≤ k ∧ k < H) ∧ KeepsOthers w wr)) (fun k' _ => r.kn - (intOf k').toNat)
      case atStart => exact ⟨0, Nat.zero_le _, rfl, hS, hB⟩
      case round =>
        obtain ⟨k, hk, rfl, hS2, hB2⟩ := hrel
        have a1 := hck _ hS2
        by_cases hlk : k < r.kn
        · have hd2 : decide ((k : Int) < (r.kn : Int)) = true := by simp; omega
          obtain ⟨kb, ko, z, hko, hgb, hcz, hfz⟩ := hS2.kb r hrm k hlk
          rw [hko] at a1
          have k1 : (0 : Int) ≤ (k : Int) := by omega
          have k2 : (k : Int) < (r.kn : Int) := by omega
          go_wp2
          go_roundw
          case rel => exact ⟨k + 1, by omega, by go_num, hS2.byte _ hgb.1 hcz, ⟨chg_set hB2.1 _ ⟨by omega, hgb.2⟩, hB2.2.trans (KeepsOthers.setCell _ _ _)⟩⟩
          case measure => simp [intOf]; omega
        · obtain rfl : k = r.kn := by omega
          have hd2 : decide ((r.kn : Int) < (r.kn : Int)) = false := by simp
          go_wp2_with fail
          go_loopw [5] (fun k' wr => ∃ k : Nat, k ≤ r.vn ∧ k' = .int .i64 k ∧ Sp wr g H n rs ∧ (Chg w wr (fun k => g ≤ k ∧ k < H) ∧ KeepsOthers w wr)) (fun k' _ => r.vn - (intOf k').toNat)
          case atStart => exact ⟨0, Nat.zero_le _, rfl, hS2, hB2⟩
          case round =>
            obtain ⟨k, hk, rfl, hS3, hB3⟩ := hrel
            have a2 := hcv _ hS3
            by_cases hlk : k < r.vn
            · have hd3 : decide ((k : Int) < (r.vn : Int)) = true := by simp; omega
              obtain ⟨kb, ko, z, hko, hgb, hcz, hfz⟩ := hS3.vb r hrm k hlk
              rw [hko] at a2
              have k1 : (0 : Int) ≤ (k : Int) := by omega
              have k2 : (k : Int) < (r.vn : Int) := by omega
              go_wp2
              go_roundw
              case rel => exact ⟨k + 1, by omega, by go_num, hS3.byte _ hgb.1 hcz, ⟨chg_set hB3.1 _ ⟨by omega, hgb.2⟩, hB3.2.trans (KeepsOthers.setCell _ _ _)⟩⟩
              case measure => simp [intOf]; omega
            · obtain rfl : k = r.vn := by omega
              have hd3 : decide ((r.vn : Int) < (r.vn : Int)) = false := by simp
              obtain ⟨zt, hzt⟩ := hS3.t i hlt
              have hfz := hS3.fz (i * 3)
              go_wp2
              go_roundw
              case rel => exact ⟨i + 1, by omega, by go_num, hS3.time hlt _, ⟨chg_set hB3.1 _ ⟨Nat.le_refl _, h.top⟩, hB3.2.trans (KeepsOthers.setCell _ _ _)⟩⟩
              case measure => simp [intOf]; omega
    · obtain rfl : i = n := by omega
      have hd : decide ((i : Int) < (i : Int)) = false := by simp
      go_wp2
      go_ret
      exact ⟨rfl, hB⟩
/-- Cells stay as they are. -/
structure Cs (A B : World) : Prop where
  size : A.heap.size ≤ B.heap.size
  same : ∀ (k : Nat) (o : Obj), A.heap[k]? = some o → o.isCells = true → B.heap[k]? = some o
theorem Cs.cell {A B : World} (h : Cs A B) {a : Addr} {v : Value} (hc : A.cell? a = some v) : B.cell? a = some v := by
  obtain ⟨o, ho, hoc⟩ := cells_of_cell hc
  rw [World.cell?_of_block ((h.same _ _ ho hoc).trans ho.symm)]
  exact hc
theorem Cs.frozen {A B : World} (h : Cs A B) {b i j : Nat} {v : Value} {f : Bool} (hc : A.cell? ⟨b, i, none⟩ = some v) (hf : A.frozen? ⟨b, j, none⟩ = f) : B.frozen? ⟨b, j, none⟩ = f := by
  obtain ⟨o, ho, hoc⟩ := cells_of_cell hc
  rw [World.frozen?_of_block (a := ⟨b, j, none⟩) ((h.same _ _ ho hoc).trans ho.symm)]
  exact hf
theorem Cs.of_row {A B : World} {row : Option Nat} (hg : A.grownBy B row) (hr : ∀ q, row = some q → ∃ o : Obj, A.heap[q]? = some o ∧ o.isCells = false) : Cs A B :=
  ⟨hg.size, fun k o hk hoc => heap_kept hg hk (fun e => by
    obtain ⟨o', ho, hc⟩ := hr k e.symm
    rw [hk] at ho
    cases ho
    rw [hoc] at hc
    cases hc)⟩
theorem Bs.cs {A B : World} (e : Cs A B) {ao : Option Addr} {n cap : Nat} {l : List UInt8} (h : Bs A ao n cap l) : Bs B ao n cap l :=
  ⟨h.len, h.room, h.top, h.nil, fun a ha j u hu => e.cell (h.cells a ha j u hu)⟩
theorem Rs.cs {A B : World} (e : Cs A B) {o : Option Addr} {n c : Nat} {l : List Rc} (h : Rs A o n c l) : Rs B o n c l :=
  ⟨h.len, h.room, h.top, h.nil, fun a ha hn => by obtain ⟨b, o, h1, h2⟩ := h.place a ha hn; exact ⟨b, o, h1, Nat.lt_of_lt_of_le h2 e.size⟩,
    fun b o ha j r hr => by
      obtain ⟨h1, h2, h3⟩ := h.cells b o ha j r hr
      exact ⟨e.cell h1, e.cell h2, e.cell h3⟩,
    fun r hr => by
      have hk := h.shows r hr
      exact ⟨hk.low, hk.high, hk.key.cs e, hk.value.cs e, hk.kb, hk.vb⟩⟩
theorem Wb.cs {A B : World} (e : Cs A B) {g H n : Nat} {ao : Option Addr} (h : Wb A g H ao n) : Wb B g H ao n := fun i hi => by
  obtain ⟨b, o, z, h1, h2, h3, h4⟩ := h i hi
  exact ⟨b, o, z, h1, h2, e.cell h3, e.frozen h3 h4⟩
theorem Sp.cs {A B : World} (e : Cs A B) {g H n : Nat} {rs : List Rc} (h : Sp A g H n rs) (hn : 0 < n) : Sp B g H n rs := by
  obtain ⟨z, hz⟩ := h.t 0 hn
  exact ⟨h.len, h.top, fun j hj => by obtain ⟨z, hz⟩ := h.t j hj; exact ⟨z, e.cell hz⟩, fun j r hr => e.cell (h.k j r hr), fun j r hr => e.cell (h.v j r hr), fun i => e.frozen hz (h.fz i), fun r hr => (h.kb r hr).cs e, fun r hr => (h.vb r hr).cs e⟩

/-- Records that are handed on: they may be read, and written; what is written lies from B on. -/
structure Hand (B : Nat) (y : Rl) (W : World) : Prop where
  ex : ∃ g H, y.o = some ⟨g, 0, none⟩ ∧ B ≤ g ∧ (0 < y.n → Sp W g H y.n y.l)
  c : y.c = y.n
  rs : Rs W y.o y.n y.n y.l
theorem Hand.cs {A V : World} (e : Cs A V) {B : Nat} {y : Rl} (h : Hand B y A) : Hand B y V := by
  obtain ⟨g, H, h1, h2, h3⟩ := h.ex
  exact ⟨⟨g, H, h1, h2, fun hn => (h3 hn).cs e hn⟩, h.c, h.rs.cs e⟩
theorem Hand.of {W : World} {B g : Nat} {y : Rl} (h1 : y.o = some ⟨g, 0, none⟩) (h2 : y.c = y.n) (h3 : B ≤ g) (h4 : Rw W g (some ⟨g, 0, none⟩) y.n y.n y.l) (h5 : ∀ r ∈ y.l, Own W (g + 1) r) : Hand B y W := by
  refine ⟨⟨g, W.heap.size, h1, h3, fun _ => h4.sp h5 (h4.from_base g rfl).2 (fun r hr => ⟨fun a ha => ((h5 r hr).kin a ha).2, fun a ha => ((h5 r hr).vin a ha).2⟩)⟩, h2, ?_⟩
  rw [h1]
  exact h4.shows (fun r hr => (h5 r hr).rk)
theorem Hand.spoil {W : World} {B : Nat} {y : Rl} (h : Hand B y W) (hn : y.n ≤ 100000) :
    Calls Try.prog 21 #[.slice y.o y.n y.c] W fun e w' => e = .returned (.bool true) ∧ Chg W w' (fun k => B ≤ k) ∧ KeepsOthers W w' := by
  obtain ⟨g, H, h1, h2, h3⟩ := h.ex
  rw [h1]
  by_cases h0 : y.n = 0
  · rw [h0]
    refine (spoil_nil W _ _).mono ?_
    rintro e w' ⟨rfl, hw⟩
    subst hw
    exact ⟨rfl, Chg.refl _ _, KeepsOthers.refl _⟩
  · refine (spoil_kept W g H y.n y.c y.l (h3 (by omega)) hn (fun r hr => ⟨(h.rs.shows r hr).kb, (h.rs.shows r hr).vb⟩)).mono ?_
    rintro e w' ⟨rfl, hb, hk⟩
    exact ⟨rfl, hb.mono fun k _ hk => by omega, hk⟩
end Go.Proofs.Ytkcgpjmjaedlbaa
