import Derived.Test.YtgkeflgfnagnjaaZaw
import Derived.Lib.SlBytesConst
import Derived.BigQuiet
import Derived.Deep.QuietTactic
/-
  stops: the law's same; its example.
-/
namespace Go.Proofs.Ytgkeflgfnagnjaa
open Go.RowKit Go.Maps
set_option linter.unusedVariables false
set_option maxRecDepth 100000

theorem take_snocO {α : Type} {l : List α} {j : Nat} {x : α} (h : l[j]? = some x) : l.take (j + 1) = l.take j ++ [x] := by
  obtain ⟨hj, rfl⟩ := List.getElem?_eq_some_iff.1 h
  rw [List.take_succ_eq_append_getElem hj]
theorem Is'.ip {w : World} {o : Option Addr} {n c : Nat} {l : List Int} (h : Is' w o n c l) : Ip w o n l := ⟨h.len, fun i x hx => by
  cases o with
  | none => have := h.nil rfl; have := h.len; have := (List.getElem?_eq_some_iff.1 hx).1; omega
  | some a =>
    obtain ⟨b, i', rfl⟩ := h.pl a rfl
    exact ⟨b, i', rfl, h.k b i' rfl i x hx⟩⟩
set_option maxHeartbeats 2000000 in
theorem sames_any (w : World) (o o2 : Option Addr) (n n2 c c2 : Nat) (l l2 : List Int) (hl : Ip w o n l) (hl2 : Ip w o2 n2 l2) (hn9 : n ≤ 4611686018427387904) : Calls Try.prog 17 #[.slice o n c, .slice o2 n2 c2] w fun e w' => e = .returned (.bool (decide (l = l2))) ∧ w.grownBy w' none := by
  have hlen : HidO (l.length = n) := hl.len
  have hlen2 : HidO (l2.length = n2) := hl2.len
  obtain ⟨B, hB⟩ : ∃ B, decide (l = l2) = B := ⟨_, rfl⟩
  rw [hB]
  replace hB : HidO _ := hB
  go_enter Try.func17, Try.ntmps17
  by_cases hn : n = n2
  · have e1 : ((n : Int) == (n2 : Int)) = true := by simp; omega
    obtain rfl := hn
    go_wp2_with fail
    go_loopw [5] (fun v5 wr => ∃ j : Nat, v5 = .int .i64 j ∧ j ≤ n ∧ HidO (l.take j = l2.take j) ∧ w.grownBy wr none) (fun v5 _ => n - (intOf v5).toNat)
    case atStart => exact ⟨0, rfl, Nat.zero_le _, by show _ = _; simp, grown_refl _ _⟩
    case round =>
      obtain ⟨j, rfl, hj, hz, hg⟩ := hrel
      by_cases hlt : j < n
      · have d2 : decide ((j : Int) < (n : Int)) = true := by simp; omega
        have d3 : decide (j < n) = true := by simpa using hlt
        obtain ⟨x, hx⟩ : ∃ x, l[j]? = some x := ⟨_, List.getElem?_eq_getElem (by have := hlen.out; omega)⟩
        obtain ⟨y, hy⟩ : ∃ y, l2[j]? = some y := ⟨_, List.getElem?_eq_getElem (by have := hlen2.out; omega)⟩
        obtain ⟨g, f, rfl, q0⟩ := (hl.grown hg).k j x hx
        obtain ⟨g2, f2, rfl, q1⟩ := (hl2.grown hg).k j y hy
        have i1 : (0 : Int) ≤ (j : Int) := by omega
        have i2 : (j : Int) < (n : Int) := by omega
        have hx1 : HidO (l.take (j + 1) = l.take j ++ [x]) := take_snocO hx
        have hy1 : HidO (l2.take (j + 1) = l2.take j ++ [y]) := take_snocO hy
        clear hx hy
        by_cases hxy : x = y
        · have e2 : (x == y) = true := by simpa using hxy
          have hz2 : HidO (l.take (j + 1) = l2.take (j + 1)) := by show _ = _; rw [hx1.out, hy1.out, hz.out, hxy]
          clear hxy hz hx1 hy1
          go_wp2_with fail
          go_quiet (fail)
          have hgq := fun k => grown_trans hg (grown_drewN wr k none) (by simp)
          go_wp2
          go_roundw
          case rel => exact ⟨j + 1, by go_num, by omega, hz2, hgq _⟩
          case measure => simp [intOf]; omega
        · have e2 : (x == y) = false := by simpa using hxy
          have hBf : HidO (B = false) := by
            show _ = _
            rw [← hB.out]
            simp only [decide_eq_false_iff_not]
            intro e
            subst e
            have h1 := hx1.out
            rw [hy1.out] at h1
            simp at h1
            exact hxy h1.symm
          clear hxy hz hx1 hy1
          go_wp2_with fail
          go_quiet (fail)
          go_wp2
          go_ret
          exact ⟨by rw [hBf.out]; rfl, grown_trans hg (grown_drewN wr _ none) (by simp)⟩
      · have d2 : decide ((j : Int) < (n : Int)) = false := by simp; omega
        have d3 : decide (j < n) = false := by simpa using hlt
        have hBt : HidO (B = true) := by
          show _ = _
          rw [← hB.out]
          have h1 := hz.out
          rw [List.take_of_length_le (by have := hlen.out; omega), List.take_of_length_le (by have := hlen2.out; omega)] at h1
          simpa using h1
        clear hz
        go_wp2
        go_ret
        exact ⟨by rw [hBt.out]; rfl, hg⟩
  · have e1 : ((n : Int) == (n2 : Int)) = false := by simp; omega
    have hBf : HidO (B = false) := by
      show _ = _
      rw [← hB.out]
      simp only [decide_eq_false_iff_not]
      intro e
      have h1 := hlen.out
      have h2 := hlen2.out
      rw [e] at h1
      omega
    clear hn
    go_wp2
    go_ret
    exact ⟨by rw [hBf.out]; rfl, grown_refl _ _⟩
end Go.Proofs.Ytgkeflgfnagnjaa

/-
  stops: the law's example.
-/
namespace Go.Proofs.Ytgkeflgfnagnjaa
open Go.RowKit Go.Maps
set_option linter.unusedVariables false
set_option maxRecDepth 100000

abbrev nA : ByteArray := ⟨#[97]⟩
abbrev nB : ByteArray := ⟨#[98]⟩
def kX (z y : Nat) : List Ox := [⟨1, nA, none, 0, 0, []⟩, ⟨4, ⟨#[]⟩, none, 0, 0, []⟩, ⟨2, nA, some ⟨z, 0, none⟩, 1, 1, [120]⟩, ⟨3, nA, none, 0, 0, []⟩, ⟨2, nA, some ⟨y, 0, none⟩, 2, 2, [121, 122]⟩, ⟨1, nB, none, 0, 0, []⟩]
def kL : List Rf := [⟨nA, [120, 121, 122], 1, true, true⟩, ⟨nB, [], 0, true, false⟩]
theorem kX_L (z y : Nat) : (ops (kX z y)).1 = kL := by kernel_rfl
theorem kL_U : unsF kL = [(false, 2), (true, 0)] := by kernel_rfl
theorem k_cV : cntV (unsF kL) = 6 := by rw [kL_U]; decide
theorem k_cE : cntE (unsF kL) = 0 := by rw [kL_U]; decide
theorem k_aE : atE 5 kL = 0 := by unfold atE; rw [kL_U]; decide
theorem k_aV : atV 5 kL = [2, 1] := by unfold atV; rw [k_aE, kL_U]; decide
theorem k_nE : nmE [7, 5, 9] kL = 0 := by unfold nmE; rw [k_cE]; decide
theorem k_nV : nmV [7, 5, 9] kL = 3 := by unfold nmV; rw [k_cE, kL_U]; decide
theorem bs_ofO {w : World} {b : Nat} {l : List UInt8} {e : TypeId} {m : Nat × Nat} {n : Nat} (h : w.heap[b]? = some (.cells (l.map bv).toArray e m)) (hn : l.length = n) (hs : n ≤ 1000) : Bs w (some ⟨b, 0, none⟩) n n l :=
  ⟨hn, Nat.le_refl _, by unfold maxLen; omega, fun e => (by cases e), fun a ha j u hu => by
    cases ha
    rw [Addr.add_lit, Nat.zero_add]
    exact cellOf h (by simpa using hu)⟩
/-- A row of numbers that was just made. -/
theorem is_ofO {w : World} {b : Nat} {l : List Int} {e : TypeId} {m : Nat × Nat} {n : Nat} (h : w.heap[b]? = some (.cells (l.map iv).toArray e m)) (hn : l.length = n) (hs : n ≤ 1000) : Is' w (some ⟨b, 0, none⟩) n n l :=
  ⟨hn, Nat.le_refl _, by unfold maxLen; omega, fun a e => by cases e; exact ⟨b, 0, rfl⟩, fun e => (by cases e), fun b' i' e j x hx => by
    cases e
    rw [Nat.zero_add]
    exact cellOf h (by simp [hx, iv])⟩

set_option maxHeartbeats 4000000 in
theorem known_any (w : World) : Calls Try.prog 9 #[] w fun e w' => e = .returned (.bool true) ∧ w.grownBy w' none := by
  have kcA := Lib.run_convert_bytes_const (P := Try.prog) w 56 5 #[.int .u8 120] 1 1 Try.underlying56 Try.underlying5
  have kcB := Lib.run_convert_bytes_const (P := Try.prog) (w.alloc (.cells #[.int .u8 120] 5 (1, 2))) 56 5 #[.int .u8 121, .int .u8 122] 2 2 Try.underlying56 Try.underlying5
  rw [World.size_alloc] at kcB
  have g1 := aGrown w (.cells #[.int .u8 120] 5 (1, 2))
  have k1 := heap_alloc_new w (.cells #[.int .u8 120] 5 (1, 2))
  have g2 := aGrown (w.alloc (.cells #[.int .u8 120] 5 (1, 2))) (.cells #[.int .u8 121, .int .u8 122] 5 (2, 3))
  have k2 := heap_alloc_new (w.alloc (.cells #[.int .u8 120] 5 (1, 2))) (.cells #[.int .u8 121, .int .u8 122] 5 (2, 3))
  have g3 := aGrown ((w.alloc (.cells #[.int .u8 120] 5 (1, 2))).alloc (.cells #[.int .u8 121, .int .u8 122] 5 (2, 3))) (.cells #[.int .i64 1, .string nA, .slice none 0 0, .int .i64 4, .string ⟨#[]⟩, .slice none 0 0, .int .i64 2, .string nA, .slice (some ⟨w.heap.size, 0, none⟩) 1 1, .int .i64 3, .string nA, .slice none 0 0, .int .i64 2, .string nA, .slice (some ⟨w.heap.size + 1, 0, none⟩) 2 2, .int .i64 1, .string nB, .slice none 0 0] 71)
  have k3 := heap_alloc_new ((w.alloc (.cells #[.int .u8 120] 5 (1, 2))).alloc (.cells #[.int .u8 121, .int .u8 122] 5 (2, 3))) (.cells #[.int .i64 1, .string nA, .slice none 0 0, .int .i64 4, .string ⟨#[]⟩, .slice none 0 0, .int .i64 2, .string nA, .slice (some ⟨w.heap.size, 0, none⟩) 1 1, .int .i64 3, .string nA, .slice none 0 0, .int .i64 2, .string nA, .slice (some ⟨w.heap.size + 1, 0, none⟩) 2 2, .int .i64 1, .string nB, .slice none 0 0] 71)
  rw [World.size_alloc] at k2
  rw [World.size_alloc, World.size_alloc] at k3
  have hG := grown_trans (grown_trans g1 g2 (by simp)) g3 (by simp)
  have b1 := (bs_ofO (l := [120]) k1 rfl (by decide)).grown (grown_trans g2 g3 (by simp))
  have b2 := (bs_ofO (l := [121, 122]) k2 rfl (by decide)).grown g3
  have hX : Oc (((w.alloc (.cells #[.int .u8 120] 5 (1, 2))).alloc (.cells #[.int .u8 121, .int .u8 122] 5 (2, 3))).alloc (.cells #[.int .i64 1, .string nA, .slice none 0 0, .int .i64 4, .string ⟨#[]⟩, .slice none 0 0, .int .i64 2, .string nA, .slice (some ⟨w.heap.size, 0, none⟩) 1 1, .int .i64 3, .string nA, .slice none 0 0, .int .i64 2, .string nA, .slice (some ⟨w.heap.size + 1, 0, none⟩) 2 2, .int .i64 1, .string nB, .slice none 0 0] 71)) (some ⟨w.heap.size + 1 + 1, 0, none⟩) 6 (kX w.heap.size (w.heap.size + 1)) := ⟨rfl, fun _ => ⟨_, _, rfl, fun j u hu => by
    match j, hu with
    | 0, hu => cases hu; exact ⟨cellOf k3 rfl, cellOf k3 rfl, cellOf k3 rfl⟩
    | 1, hu => cases hu; exact ⟨cellOf k3 rfl, cellOf k3 rfl, cellOf k3 rfl⟩
    | 2, hu => cases hu; exact ⟨cellOf k3 rfl, cellOf k3 rfl, cellOf k3 rfl⟩
    | 3, hu => cases hu; exact ⟨cellOf k3 rfl, cellOf k3 rfl, cellOf k3 rfl⟩
    | 4, hu => cases hu; exact ⟨cellOf k3 rfl, cellOf k3 rfl, cellOf k3 rfl⟩
    | 5, hu => cases hu; exact ⟨cellOf k3 rfl, cellOf k3 rfl, cellOf k3 rfl⟩⟩, fun u hu => by
    simp only [kX, List.mem_cons, List.not_mem_nil, or_false] at hu
    rcases hu with rfl | rfl | rfl | rfl | rfl | rfl
    · exact Bs.empty _
    · exact Bs.empty _
    · exact b1
    · exact Bs.empty _
    · exact b2
    · exact Bs.empty _⟩
  have hbo := both_any _ 6 6 _ hX (by decide) (fun u hu => by
    simp only [kX, List.mem_cons, List.not_mem_nil, or_false] at hu
    rcases hu with rfl | rfl | rfl | rfl | rfl | rfl <;> simp)
  rw [kX_L] at hbo
  obtain ⟨st, hst⟩ : ∃ st, (ops (kX w.heap.size (w.heap.size + 1))).2 = st := ⟨_, rfl⟩
  rw [hst] at hbo
  clear hX b1 b2 k1 k2 k3 g1 g2 g3 hst
  go_enter Try.func9, Try.ntmps9
  go_wp2_with fail
  clear kcA kcB
  generalize ((w.alloc (.cells #[.int .u8 120] 5 (1, 2))).alloc (.cells #[.int .u8 121, .int .u8 122] 5 (2, 3))).alloc (.cells #[.int .i64 1, .string nA, .slice none 0 0, .int .i64 4, .string ⟨#[]⟩, .slice none 0 0, .int .i64 2, .string nA, .slice (some ⟨w.heap.size, 0, none⟩) 1 1, .int .i64 3, .string nA, .slice none 0 0, .int .i64 2, .string nA, .slice (some ⟨w.heap.size + 1, 0, none⟩) 2 2, .int .i64 1, .string nB, .slice none 0 0] 71) = w3 at *
  refine hbo.mono ?_
  rintro e w4 ⟨b, rb, T, U, rfl, hB⟩
  have hG4 := grown_trans hG hB.gr (by simp)
  have hct := count_p hB.p (by decide)
  rw [k_cV, k_cE] at hct
  clear hbo hG
  go_wp2_with fail
  refine hct.mono ?_
  rintro e w5 ⟨rfl, hg5⟩
  have hB5 := hB.grown hg5
  have hat := at_p hB5.p (by decide) 5
  rw [k_aE, k_aV] at hat
  clear hct hB
  go_wp2_with fail
  refine hat.mono ?_
  rintro e w6 ⟨ao, cap, rfl, hV6, hg6⟩
  have hB6 := hB5.grown hg6
  have hG6 := grown_trans (grown_trans hG4 hg5 (by simp)) hg6 (by simp)
  have ga := aGrown w6 (.cells #[.slice ao 2 cap] 35)
  have ka := heap_alloc_new w6 (.cells #[.slice ao 2 cap] 35)
  have gb := aGrown (w6.alloc (.cells #[.slice ao 2 cap] 35)) (.cells #[.int .i64 7, .int .i64 5, .int .i64 9] 3)
  have kb := heap_alloc_new (w6.alloc (.cells #[.slice ao 2 cap] 35)) (.cells #[.int .i64 7, .int .i64 5, .int .i64 9] 3)
  rw [World.size_alloc] at kb
  have gab := grown_trans ga gb (by simp)
  have h79 := is_ofO (l := [7, 5, 9]) kb rfl (by decide)
  have hnb := number_p (hB6.p.grown gab) (by decide) _ 3 3 [7, 5, 9] h79 (fun a e => by cases e; exact (Array.getElem?_eq_some_iff.1 kb).1) (by decide) (by decide)
  rw [k_nE, k_nV] at hnb
  have c0 := gb.cell (cellOf (i := 0) (v := .slice ao 2 cap) ka rfl) (by simp)
  clear hat hB5 h79 kb ka hg5 hg6
  go_wp2_with fail
  generalize (w6.alloc (.cells #[.slice ao 2 cap] 35)).alloc (.cells #[.int .i64 7, .int .i64 5, .int .i64 9] 3) = w7 at *
  refine hnb.mono ?_
  rintro e w8 ⟨rfl, hg8⟩
  have hG8 := grown_trans (grown_trans hG6 gab (by simp)) hg8 (by simp)
  have c8 := hg8.cell c0 (by simp)
  have hB8 := (hB6.grown gab).grown hg8
  have gc := aGrown w8 (.cells #[.int .i64 2, .int .i64 1] 3)
  have kc := heap_alloc_new w8 (.cells #[.int .i64 2, .int .i64 1] 3)
  have h21 := is_ofO (l := [2, 1]) kc rfl (by decide)
  have hI6 : Is' w6 ao 2 cap [2, 1] := Is'.of_vo hV6
  have hsm := sames_any _ _ _ 2 2 cap 2 [2, 1] [2, 1] ((((hI6.grownO gab).grownO hg8).grownO gc).ip) h21.ip (by decide)
  have hdt : decide ([2, 1] = ([2, 1] : List Int)) = true := rfl
  rw [hdt] at hsm
  clear hnb hB6 hI6 hV6 h21 kc hg8 gab c0 hdt
  go_wp2_with fail
  generalize w8.alloc (.cells #[.int .i64 2, .int .i64 1] 3) = w9 at *
  refine hsm.mono ?_
  rintro e w10 ⟨rfl, hg10⟩
  obtain ⟨ro, rc, fo, fn, fc, r0, _⟩ := ((hB8.grown gc).grown hg10).r.cells
  have hG10 := grown_trans (grown_trans hG8 gc (by simp)) hg10 (by simp)
  clear hsm hB8 hG8 gc hg10 c8
  go_wp2
  go_ret
  exact ⟨rfl, hG10⟩
end Go.Proofs.Ytgkeflgfnagnjaa
