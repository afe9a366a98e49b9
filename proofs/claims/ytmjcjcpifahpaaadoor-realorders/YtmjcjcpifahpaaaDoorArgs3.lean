/-
  An argument that is a struct of two floats, eight bytes and a text, opened.
-/
import Derived.Test.YtmjcjcpifahpaaaDoorArgs
import Derived.Test.YtmjcjcpifahpaaaDoorVD
namespace Go.Proofs.YtmjcjcpifahpaaaDoor
open Go.ChangeShapes Go.WideShapes Go.ChangeAt Go.RowKit
set_option linter.unusedVariables false

section
variable {H : Type} {enc : TypeId × Value → H} {P : Program} {W : World} {base : Nat}

theorem text_shape {t : TypeId} {v : Value} {fuel : Nat} {y : DataW H × List MemPlace} (ht : P.underlying t = some .string) (h : DataW.trod enc P W base (fun _ => true) true fuel t [v] = some y) : ∃ L : List UInt8, v = .string (sb L) ∧ y.1 = .lit (.string L) := by
  cases fuel with
  | zero => simp [DataW.trod] at h
  | succ n =>
    simp only [DataW.trod, ht] at h
    cases v <;> simp at h
    rename_i s
    obtain ⟨h1, h2⟩ := h
    exact ⟨s.data.toList, rfl, by rw [← h2]⟩
theorem byte_shape {t : TypeId} {v : Value} {fuel : Nat} {y : DataW H × List MemPlace} (ht : P.underlying t = some (.int .u8)) (h : DataW.trod enc P W base (fun _ => true) true fuel t [v] = some y) : ∃ n : Nat, v = .int .u8 (n : Int) ∧ n < 256 := by
  obtain ⟨z, k, _, hw⟩ := DataW.trod_int ht h
  simp only [List.cons.injEq, and_true] at k
  have h2 : 0 ≤ z ∧ z ≤ 255 := by simpa [Lit.wf, IntKind.min, IntKind.max, IntKind.signed, IntKind.bits] using hw
  exact ⟨z.toNat, by rw [k]; congr 1; omega, by omega⟩
theorem float_shape2 {t : TypeId} {v : Value} {fuel : Nat} {y : DataW H × List MemPlace} (ht : P.underlying t = some (.float .f64)) (h : DataW.trod enc P W base (fun _ => true) true fuel t [v] = some y) : ∃ x : Nat, v = .float .f64 x ∧ x < 18446744073709551616 := by
  cases fuel with
  | zero => simp [DataW.trod] at h
  | succ n =>
    simp only [DataW.trod, ht] at h
    cases v <;> simp at h
    rename_i k b
    obtain ⟨⟨h1, h2⟩, _⟩ := h
    subst h1
    exact ⟨b, rfl, by simpa [Lit.wf] using h2⟩
theorem open_four {t e : TypeId} {f0 f1 f2 f3 : Field} {cs : List Value} {fuel : Nat} {d : DataW H} {p : List MemPlace} (ht : P.underlying t = some (.struct #[f0, f1, f2, f3])) (hc : P.cellsOf t = 11)
    (o0 : f0.offset = 0) (o1 : f1.offset = 1) (o2 : f2.offset = 2) (o3 : f3.offset = 10) (c0 : P.cellsOf f0.type = 1) (c1 : P.cellsOf f1.type = 1) (c2 : P.cellsOf f2.type = 8) (c3 : P.cellsOf f3.type = 1)
    (u0 : P.underlying f0.type = some (.float .f64)) (u1 : P.underlying f1.type = some (.float .f64)) (u2 : P.underlying f2.type = some (.array 8 e)) (ue : P.underlying e = some (.int .u8)) (ce : P.cellsOf e = 1) (u3 : P.underlying f3.type = some .string)
    (h : DataW.trod enc P W base (fun _ => true) true fuel t cs = some (d, p)) (hw : ∀ k ∈ d.weights P t, k ≤ reachBytes) :
    ∃ (x y : Nat) (F : Nat → Nat) (L : List UInt8), cs = [.float .f64 x, .float .f64 y, .int .u8 ((F 0 : Nat) : Int), .int .u8 ((F 1 : Nat) : Int), .int .u8 ((F 2 : Nat) : Int), .int .u8 ((F 3 : Nat) : Int), .int .u8 ((F 4 : Nat) : Int), .int .u8 ((F 5 : Nat) : Int), .int .u8 ((F 6 : Nat) : Int), .int .u8 ((F 7 : Nat) : Int), .string (sb L)] ∧
      x < 18446744073709551616 ∧ y < 18446744073709551616 ∧ (∀ i, i < 8 → F i < 256) ∧ L.length ≤ reachBytes := by
  obtain ⟨xs, k, hk, hxy, hlen, hxl, hf⟩ := DataW.trod_struct ht h
  rw [hc] at hlen
  match cs, hlen with
  | [v0, v1, b0, b1, b2, b3, b4, b5, b6, b7, v3], _ =>
    match xs, hxl with
    | [y0, y1, y2, y3], _ =>
      have g0 := hf 0 f0 rfl
      have g1 := hf 1 f1 rfl
      have g2 := hf 2 f2 rfl
      have g3 := hf 3 f3 rfl
      simp [o0, o1, o2, o3, c0, c1, c2, c3] at g0 g1 g2 g3
      obtain ⟨x, rfl, hx⟩ := float_shape2 u0 g0
      obtain ⟨y, rfl, hy⟩ := float_shape2 u1 g1
      obtain ⟨L, rfl, hL⟩ := text_shape u3 g3
      obtain ⟨ys, m, _, _, _, hyl, he⟩ := DataW.trod_array u2 g2
      rw [ce] at he
      have item : ∀ i (v : Value), i < 8 → [b0, b1, b2, b3, b4, b5, b6, b7][i]? = some v → ∃ n : Nat, v = .int .u8 (n : Int) ∧ n < 256 := by
        intro i v hi hv
        have h9 := he i hi
        have h8 : ([b0, b1, b2, b3, b4, b5, b6, b7].drop (i * 1)).take 1 = [v] := by
          match i, hi, hv with
          | 0, _, hv => cases hv; rfl
          | 1, _, hv => cases hv; rfl
          | 2, _, hv => cases hv; rfl
          | 3, _, hv => cases hv; rfl
          | 4, _, hv => cases hv; rfl
          | 5, _, hv => cases hv; rfl
          | 6, _, hv => cases hv; rfl
          | 7, _, hv => cases hv; rfl
        rw [h8, List.getElem?_eq_getElem (by omega)] at h9
        exact byte_shape ue h9
      obtain ⟨n0, rfl, k0⟩ := item 0 b0 (by omega) rfl
      obtain ⟨n1, rfl, k1⟩ := item 1 b1 (by omega) rfl
      obtain ⟨n2, rfl, k2⟩ := item 2 b2 (by omega) rfl
      obtain ⟨n3, rfl, k3⟩ := item 3 b3 (by omega) rfl
      obtain ⟨n4, rfl, k4⟩ := item 4 b4 (by omega) rfl
      obtain ⟨n5, rfl, k5⟩ := item 5 b5 (by omega) rfl
      obtain ⟨n6, rfl, k6⟩ := item 6 b6 (by omega) rfl
      obtain ⟨n7, rfl, k7⟩ := item 7 b7 (by omega) rfl
      refine ⟨x, y, fun i => [n0, n1, n2, n3, n4, n5, n6, n7].getD i 0, L, rfl, hx, hy, fun i hi => ?_, ?_⟩
      · match i, hi with
        | 0, _ => exact k0
        | 1, _ => exact k1
        | 2, _ => exact k2
        | 3, _ => exact k3
        | 4, _ => exact k4
        | 5, _ => exact k5
        | 6, _ => exact k6
        | 7, _ => exact k7
      · refine hw L.length ?_
        have hd : d = .agg [y0.1, y1.1, y2.1, y3.1] := by have := congrArg Prod.fst hxy; simpa using this
        rw [hd, hL]
        simp only [DataW.weights, ht, List.map_cons, List.map_nil, DataW.weightsEach, List.mem_append]
        exact Or.inr (Or.inr (Or.inr (Or.inl (List.mem_singleton.2 rfl))))
end
end Go.Proofs.YtmjcjcpifahpaaaDoor
