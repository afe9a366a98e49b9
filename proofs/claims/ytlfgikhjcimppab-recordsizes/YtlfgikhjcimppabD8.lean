/-
  known: the walk.
-/
import Derived.Test.YtlfgikhjcimppabD7
import Derived.Lib.SlBytesConst
namespace Go.Proofs.Ytlfgikhjcimppab
open Go.RowKit
set_option linter.unusedVariables false

theorem cell_of' {w : World} {b i : Nat} {c : Array Value} {e : TypeId} {m : Nat × Nat} {v : Value} (h : w.heap[b]? = some (.cells c e m)) (hi : c[i]? = some v) : w.cell? ⟨b, i, none⟩ = some v := by
  obtain ⟨m1, m2⟩ := m
  simp [World.cell?, h, hi]
theorem bs_of {w : World} {b : Nat} {l : List UInt8} {e : TypeId} {m : Nat × Nat} {n : Nat} (h : w.heap[b]? = some (.cells (l.map bv).toArray e m)) (hn : l.length = n) (hs : n ≤ 1000) : Bs w (some ⟨b, 0, none⟩) n n l :=
  ⟨hn, Nat.le_refl _, by unfold maxLen; omega, fun e => (by cases e), fun a ha j u hu => by
    cases ha
    rw [Addr.add_lit, Nat.zero_add]
    exact cell_of' h (by simpa using hu)⟩
/-- The record of 'known'. -/
def kr (z : Nat) : Rc := ⟨5, some ⟨z, 0, none⟩, 1, 1, [97], some ⟨z + 1, 0, none⟩, 2, 2, [98, 99]⟩
theorem kr_meas (z : Nat) : (measR 7 [kr z]).2 = 0 := by simp [measR, fitsR, mayR, mayB, szs, offB, kr]
theorem kr_szs (z : Nat) : szs [kr z] = 15 := by simp [szs, kr]
theorem kr_small (z : Nat) : Small [kr z] := ⟨by simp, fun r hr => by obtain rfl : r = kr z := (by simpa using hr); simp [kr]⟩
theorem kr_len (z : Nat) : ∀ r ∈ [kr z], r.k.length = r.kn ∧ r.v.length = r.vn := fun r hr => by obtain rfl : r = kr z := (by simpa using hr); simp [kr]
/-- The blocks of 'known'. -/
theorem kr_shown (w : World) (z s : Nat) (h0 : w.heap[z]? = some (.cells #[.int .u8 97] 5 (1, 2))) (h1 : w.heap[z + 1]? = some (.cells #[.int .u8 98, .int .u8 99] 5 (2, 3))) (hs : w.heap[s]? = some (.cells #[.int .i64 5, .slice (some ⟨z, 0, none⟩) 1 1, .slice (some ⟨z + 1, 0, none⟩) 2 2] 37 (0, 0))) : Rs w (some ⟨s, 0, none⟩) 1 1 [kr z] := by
  have hl : s < w.heap.size := by rcases Nat.lt_or_ge s w.heap.size with h | h; exact h; rw [Array.getElem?_eq_none h] at hs; cases hs
  refine ⟨rfl, Nat.le_refl _, by omega, fun e => (by cases e), fun a ha _ => ⟨s, 0, (Option.some.inj ha).symm, hl⟩, fun b o hb j r hr => ?_, fun r hr => ?_⟩
  · cases hb
    match j, hr with
    | 0, hr =>
      simp at hr
      subst hr
      exact ⟨cell_of (i := 0) hs rfl, cell_of (i := 1) hs rfl, cell_of (i := 2) hs rfl⟩
  · obtain rfl : r = kr z := by simpa using hr
    exact ⟨by simp [kr], by simp [kr], bs_of (l := [97]) h0 rfl (by simp [kr]), bs_of (l := [98, 99]) h1 rfl (by simp [kr]), by simp [kr], by simp [kr]⟩
set_option maxRecDepth 100000 in
set_option maxHeartbeats 4000000 in
theorem known_any (w : World) : Calls Try.prog 5 #[] w fun e w' => e = .returned (.bool true) ∧ w.grownBy w' none := by
  have kc := fun (w : World) (C : Array Value) (n c : Nat) => Lib.run_convert_bytes_const (P := Try.prog) w 23 5 C n c Try.underlying23 Try.underlying5
  have kc2 := kc (w.alloc (.cells #[.int .u8 97] 5 (1, 2))) #[.int .u8 98, .int .u8 99] 2 2
  rw [World.size_alloc] at kc2
  simp only [List.size_toArray, List.length_cons, List.length_nil] at kc2
  go_enter Try.func5, Try.ntmps5
  go_wp2_with fail
  clear kc kc2
  have s1 : (w.alloc (.cells #[.int .u8 97] 5 (1, 2))).heap.size = w.heap.size + 1 := by simp
  have s2 : ((w.alloc (.cells #[.int .u8 97] 5 (1, 2))).alloc (.cells #[.int .u8 98, .int .u8 99] 5 (2, 3))).heap.size = w.heap.size + 1 + 1 := by simp
  have s3 : (((w.alloc (.cells #[.int .u8 97] 5 (1, 2))).alloc (.cells #[.int .u8 98, .int .u8 99] 5 (2, 3))).alloc (.cells #[.int .i64 5, .slice (some ⟨w.heap.size, 0, none⟩) 1 1, .slice (some ⟨w.heap.size + 1, 0, none⟩) 2 2] 37)).heap.size = w.heap.size + 1 + 1 + 1 := by simp
  have g1 := alloc_grown w (.cells #[.int .u8 97] 5 (1, 2))
  have g2 := alloc_grown (w.alloc (.cells #[.int .u8 97] 5 (1, 2))) (.cells #[.int .u8 98, .int .u8 99] 5 (2, 3))
  have g3 := alloc_grown ((w.alloc (.cells #[.int .u8 97] 5 (1, 2))).alloc (.cells #[.int .u8 98, .int .u8 99] 5 (2, 3))) (.cells #[.int .i64 5, .slice (some ⟨w.heap.size, 0, none⟩) 1 1, .slice (some ⟨w.heap.size + 1, 0, none⟩) 2 2] 37)
  have g4 := alloc_grown (((w.alloc (.cells #[.int .u8 97] 5 (1, 2))).alloc (.cells #[.int .u8 98, .int .u8 99] 5 (2, 3))).alloc (.cells #[.int .i64 5, .slice (some ⟨w.heap.size, 0, none⟩) 1 1, .slice (some ⟨w.heap.size + 1, 0, none⟩) 2 2] 37)) (.cells #[.int .i64 5, .slice (some ⟨w.heap.size, 0, none⟩) 1 1, .slice (some ⟨w.heap.size + 1, 0, none⟩) 2 2] 37)
  have k1 := heap_alloc_new w (.cells #[.int .u8 97] 5 (1, 2))
  have k2 := heap_alloc_new (w.alloc (.cells #[.int .u8 97] 5 (1, 2))) (.cells #[.int .u8 98, .int .u8 99] 5 (2, 3))
  have k3 := heap_alloc_new ((w.alloc (.cells #[.int .u8 97] 5 (1, 2))).alloc (.cells #[.int .u8 98, .int .u8 99] 5 (2, 3))) (.cells #[.int .i64 5, .slice (some ⟨w.heap.size, 0, none⟩) 1 1, .slice (some ⟨w.heap.size + 1, 0, none⟩) 2 2] 37)
  have k4 := heap_alloc_new (((w.alloc (.cells #[.int .u8 97] 5 (1, 2))).alloc (.cells #[.int .u8 98, .int .u8 99] 5 (2, 3))).alloc (.cells #[.int .i64 5, .slice (some ⟨w.heap.size, 0, none⟩) 1 1, .slice (some ⟨w.heap.size + 1, 0, none⟩) 2 2] 37)) (.cells #[.int .i64 5, .slice (some ⟨w.heap.size, 0, none⟩) 1 1, .slice (some ⟨w.heap.size + 1, 0, none⟩) 2 2] 37)
  rw [s1] at k2
  rw [s2] at k3
  rw [s3] at k4
  have m1 := (g4.block _ (by rw [s3]; omega) (by simp)).trans ((g3.block _ (by rw [s2]; omega) (by simp)).trans ((g2.block _ (by rw [s1]; omega) (by simp)).trans k1))
  have m2 := (g4.block _ (by rw [s3]; omega) (by simp)).trans ((g3.block _ (by rw [s2]; omega) (by simp)).trans k2)
  have m3 := (g4.block _ (by rw [s3]; omega) (by simp)).trans k3
  have hG4 := grown_trans (grown_trans (grown_trans g1 g2 (by simp)) g3 (by simp)) g4 (by simp)
  have hsz4 : ((((w.alloc (.cells #[.int .u8 97] 5 (1, 2))).alloc (.cells #[.int .u8 98, .int .u8 99] 5 (2, 3))).alloc (.cells #[.int .i64 5, .slice (some ⟨w.heap.size, 0, none⟩) 1 1, .slice (some ⟨w.heap.size + 1, 0, none⟩) 2 2] 37)).alloc (.cells #[.int .i64 5, .slice (some ⟨w.heap.size, 0, none⟩) 1 1, .slice (some ⟨w.heap.size + 1, 0, none⟩) 2 2] 37)).heap.size = w.heap.size + 4 := by simp
  clear g1 g2 g3 g4 k1 k2 k3 s1 s2 s3
  generalize hz : w.heap.size = z at *
  generalize (((w.alloc (.cells #[.int .u8 97] 5 (1, 2))).alloc (.cells #[.int .u8 98, .int .u8 99] 5 (2, 3))).alloc (.cells #[.int .i64 5, .slice (some ⟨z, 0, none⟩) 1 1, .slice (some ⟨z + 1, 0, none⟩) 2 2] 37)).alloc (.cells #[.int .i64 5, .slice (some ⟨z, 0, none⟩) 1 1, .slice (some ⟨z + 1, 0, none⟩) 2 2] 37) = w4 at *
  have hRs := kr_shown w4 z (z + 1 + 1 + 1) m1 m2 k4
  refine (put_ok w4 7 _ 1 1 [kr z] hRs (kr_small z) (kr_meas z)).mono ?_
  rintro e w5 ⟨gb, rfl, ho5, hg5⟩
  rw [kr_szs] at ho5 ⊢
  rw [show (20 + 15 : Nat) = 35 from rfl] at ho5 ⊢
  obtain ⟨hgood, hWh, hbA, hcA⟩ := bat_whole (kr_len z) (kr_meas z)
  have hcA : cAt (batB 7 [kr z]) = 1 := hcA
  have hlen : (batB 7 [kr z]).length = 35 := by rw [bat_len hgood, kr_szs]
  have htk : ((batB 7 [kr z]).drop 0).take 35 = batB 7 [kr z] := by rw [List.drop_zero]; exact List.take_of_length_le (by omega)
  have hE : extR ((batB 7 [kr z]).drop 0) = (35, 0) := by
    have h9 := ext_bat (kr_len z) (kr_meas z) []
    rw [List.append_nil, kr_szs] at h9
    rw [List.drop_zero]
    exact h9
  rw [kr_szs] at hWh
  have hread := read_yes w5 gb 0 35 35 0 35 (batB 7 [kr z]) ho5.shows (by omega) (by omega) (by omega) hE (by omega) (by rw [htk]; exact hWh)
  rw [htk, hbA, hcA] at hread
  have hpos := pos_bat 7 hgood
  have hsays := bat_says 7 hgood (j := 0) (by simp)
  have hb0 : w5.cell? ⟨gb, 0, none⟩ = some (.int .u8 31) := by
    have h9 := ho5.shows.at (j := 0) (by omega)
    have h8 : (batB 7 [kr z])[0]'(by omega) = 31 := by simp [batB, low, kr_szs, List.range_succ]
    rw [h8] at h9
    simpa using h9
  generalize batB 7 [kr z] = BT at *
  have m1' := (hg5.block _ (by omega) (by simp)).trans m1
  have m2' := (hg5.block _ (by omega) (by simp)).trans m2
  have m3' := (hg5.block _ (by omega) (by simp)).trans m3
  have hG5 := grown_trans hG4 hg5 (by simp)
  have hs5 := hg5.size
  clear hg5 hRs m1 m2 m3 k4 hG4
  go_wp2_with fail
  refine hread.mono ?_
  rintro e w6 ⟨g6, base6, rs, rfl, hgg, hlt6, hR6, hSay, hO6, hg6⟩
  have hRs6 := hR6.shows (fun r hr => (hO6 r hr).rk)
  have hrl : rs.length = 1 := hR6.len
  have hds : ds rs = ds [kr z] := by
    match rs, hrl with
    | [r], _ =>
      have h9 := hSay 0 r.d rfl
      have h8 : posAt BT 0 = 20 + szs ([kr z].take 0) := hpos 0 (by omega)
      rw [h8] at h9
      obtain ⟨e1, e2, e3⟩ := h9
      obtain ⟨f1, f2, f3, f4, f5⟩ := hsays
      rw [f1] at e1
      rw [f2] at e2
      rw [f2, f3] at e3
      have f4' := e2.trans f4
      have f5' := e3.trans f5
      show [r.d] = [(kr z).d]
      exact congrArg (fun d => [d]) (Prod.ext e1 (Prod.ext f4' f5'))
  have hsame : sameAllB rs [kr z] = true := decide_eq_true hds
  have v1 := (hg6.block _ (by omega) (by simp)).trans m1'
  have v2 := (hg6.block _ (by omega) (by simp)).trans m2'
  have v3 := (hg6.block _ (by omega) (by simp)).trans m3'
  have hG6 := grown_trans hG5 hg6 (by simp)
  have hs6 := hg6.size
  have hb6 := hg6.cell hb0 (by simp)
  have gx := alloc_grown w6 (.cells #[.int .i64 7, .slice (some ⟨g6, 0, none⟩) 1 1] 34)
  have gy := alloc_grown (w6.alloc (.cells #[.int .i64 7, .slice (some ⟨g6, 0, none⟩) 1 1] 34)) (.cells #[.int .i64 5, .slice (some ⟨z, 0, none⟩) 1 1, .slice (some ⟨z + 1, 0, none⟩) 2 2] 37)
  have sx : (w6.alloc (.cells #[.int .i64 7, .slice (some ⟨g6, 0, none⟩) 1 1] 34)).heap.size = w6.heap.size + 1 := by simp
  have ky := heap_alloc_new (w6.alloc (.cells #[.int .i64 7, .slice (some ⟨g6, 0, none⟩) 1 1] 34)) (.cells #[.int .i64 5, .slice (some ⟨z, 0, none⟩) 1 1, .slice (some ⟨z + 1, 0, none⟩) 2 2] 37)
  rw [sx] at ky
  have n1 := (gy.block _ (by rw [sx]; omega) (by simp)).trans ((gx.block _ (by omega) (by simp)).trans v1)
  have n2 := (gy.block _ (by rw [sx]; omega) (by simp)).trans ((gx.block _ (by omega) (by simp)).trans v2)
  have hRB := kr_shown _ z (w6.heap.size + 1) n1 n2 ky
  have hRA := (hRs6.grown gx).grown gy
  have hG8 := grown_trans (grown_trans hG6 gx (by simp)) gy (by simp)
  have hb8 := gy.cell (gx.cell hb6 (by simp)) (by simp)
  have t0 := cell_of (i := 0) (v := .int .i64 5) v3 rfl
  have t1 := cell_of (i := 1) (v := .slice (some ⟨z, 0, none⟩) 1 1) v3 rfl
  have t2 := cell_of (i := 2) (v := .slice (some ⟨z + 1, 0, none⟩) 2 2) v3 rfl
  have tx0 : ∀ o, (w6.alloc o).cell? ⟨z + 1 + 1, 0, none⟩ = some (.int .i64 5) := fun o => (alloc_grown w6 o).cell t0 (by simp)
  have tx1 : ∀ o, (w6.alloc o).cell? ⟨z + 1 + 1, 1, none⟩ = some (.slice (some ⟨z, 0, none⟩) 1 1) := fun o => (alloc_grown w6 o).cell t1 (by simp)
  have tx2 : ∀ o, (w6.alloc o).cell? ⟨z + 1 + 1, 2, none⟩ = some (.slice (some ⟨z + 1, 0, none⟩) 2 2) := fun o => (alloc_grown w6 o).cell t2 (by simp)
  have hne : ¬ z + 1 + 1 = w6.heap.size := by omega
  have hne2 : ¬ w6.heap.size = z + 1 + 1 := by omega
  have hsb := sameBatch_any _ 7 7 _ _ _ _ _ _ rs [kr z] hRA hRB
  rw [hsame] at hsb
  clear gx gy sx ky n1 n2 hRA hRB hread hWh hE htk hlen hgood hpos hsays hSay hO6 hR6 hRs6 hg6 m1' m2' m3' v1 v2 ho5
  go_wp2_with fail
  refine hsb.mono ?_
  rintro e w9 ⟨rfl, hg9⟩
  have hb9 := hg9.cell hb8 (by simp)
  have hG9 := grown_trans hG8 hg9 (by simp)
  clear hsb hg9 hG8 hb8
  go_wp2
  go_ret
  exact ⟨rfl, hG9⟩
end Go.Proofs.Ytlfgikhjcimppab
