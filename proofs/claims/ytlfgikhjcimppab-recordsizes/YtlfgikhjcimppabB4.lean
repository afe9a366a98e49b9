/-
  appendRecord: the walk.
-/
import Derived.Test.YtlfgikhjcimppabB3
import Derived.Test.YtlfgikhjcimppabM4
namespace Go.Proofs.Ytlfgikhjcimppab
open Go.RowKit
set_option linter.unusedVariables false

/-- A number of eight bytes, as it is put. -/
def i8 (t : Int) : List UInt8 := low (t % 18446744073709551616).toNat 8
/-- A record's bytes. -/
def rby (r : Rc) : List UInt8 := i8 r.t ++ low r.kn 2 ++ low r.vn 2 ++ r.k ++ r.v
theorem i8_len (t : Int) : (i8 t).length = 8 := low_length _ _
theorem wrapU64 (z : Int) : IntKind.u64.wrap z = (((z % 18446744073709551616).toNat : Nat) : Int) := by
  rw [IntKind.wrap_u64]; omega
set_option maxRecDepth 100000 in
set_option maxHeartbeats 4000000 in
theorem appendRecord_any (w : World) (base g n cap : Nat) (l : List UInt8) (r : Rc) (ho : Ow w base 5 (some ⟨g, 0, none⟩) n cap l) (hk : ∀ W, w.grownBy W (some g) → Rk W r) (hroom : n + 12 + r.kn + r.vn ≤ cap) (h1 : r.kn ≤ 65535) (h2 : r.vn ≤ 65535) :
    Calls Try.prog 18 #[.slice (some ⟨g, 0, none⟩) n cap, .agg #[.int .i64 r.t, .slice r.ko r.kn r.kc, .slice r.vo r.vn r.vc]] w fun e w' => e = .returned (.slice (some ⟨g, 0, none⟩) (n + (12 + r.kn + r.vn) : Nat) cap) ∧ Ow w' base 5 (some ⟨g, 0, none⟩) (n + (12 + r.kn + r.vn)) cap (l ++ rby r) ∧ w.grownBy w' (some g) := by
  have hgl := (ho.from_base g rfl).2
  have hbase := (ho.from_base g rfl).1
  have hg0 := alloc_grown w (.cells #[.int .i64 r.t, .slice r.ko r.kn r.kc, .slice r.vo r.vn r.vc] 37)
  have b0 : (w.alloc (.cells #[.int .i64 r.t, .slice r.ko r.kn r.kc, .slice r.vo r.vn r.vc] 37)).cell? ⟨w.heap.size, 0, none⟩ = some (.int .i64 r.t) := by simp
  have b1 : (w.alloc (.cells #[.int .i64 r.t, .slice r.ko r.kn r.kc, .slice r.vo r.vn r.vc] 37)).cell? ⟨w.heap.size, 1, none⟩ = some (.slice r.ko r.kn r.kc) := by simp
  have b2 : (w.alloc (.cells #[.int .i64 r.t, .slice r.ko r.kn r.kc, .slice r.vo r.vn r.vc] 37)).cell? ⟨w.heap.size, 2, none⟩ = some (.slice r.vo r.vn r.vc) := by simp
  have hne : w.heap.size ≠ g := by omega
  have hhs : w.heap.size < (w.alloc (.cells #[.int .i64 r.t, .slice r.ko r.kn r.kc, .slice r.vo r.vn r.vc] 37)).heap.size := by simp
  have ho0 := ho.grown hg0
  have hG0 := grown_any hg0 (some g)
  clear ho hg0
  go_enter Try.func18, Try.ntmps18
  go_wp2_with fail
  generalize w.alloc (.cells #[.int .i64 r.t, .slice r.ko r.kn r.kc, .slice r.vo r.vn r.vc] 37) = w0 at *
  generalize w.heap.size = h0 at *
  have hrow : ∀ {W W' : World}, W.grownBy W' (some g) → ∀ i v, W.cell? ⟨h0, i, none⟩ = some v → W'.cell? ⟨h0, i, none⟩ = some v := fun hg i v h => hg.cell h (by simpa using hne)
  refine (appendI64_any _ none 0 0 r.t _ [] (wrapU64 r.t) (by omega) (Bs.empty _) (by omega)).mono ?_
  rintro e w1 ⟨ao1, c1, rfl, ho1, hg1⟩
  have hG1 := grown_trans hG0 (grown_any hg1 (some g)) (fun k hk => Or.inl hk)
  go_wp2_with (at_builtin; refine wpList_append_room _ rfl _ _ 23 rfl base 5 Try.underlying23 Try.info5 rfl (ho0.grown hg1) rfl ho1.shows (by omega) ?_)
  intro w2 ho2 hg2
  have hG2 := grown_trans hG1 hg2 (fun k hk => Or.inl hk)
  have c1' := hrow hg2 _ _ (hg1.cell b1 (by simp))
  have c2' := hrow hg2 _ _ (hg1.cell b2 (by simp))
  clear ho1 hg1 hg2 ho0 b0 b1 b2 hG1
  go_wp2_with fail
  refine (appendU16_any _ none 0 0 r.kn [] (Bs.empty _) (by omega) (by omega)).mono ?_
  rintro e w3 ⟨ao3, c3, rfl, ho3, hg3⟩
  have hG3 := grown_trans hG2 (grown_any hg3 (some g)) (fun k hk => Or.inl hk)
  go_wp2_with (at_builtin; refine wpList_append_room _ rfl _ _ 23 rfl base 5 Try.underlying23 Try.info5 rfl (ho2.grown hg3) rfl ho3.shows (by omega) ?_)
  intro w4 ho4 hg4
  have hG4 := grown_trans hG3 hg4 (fun k hk => Or.inl hk)
  have d1 := hrow hg4 _ _ (hg3.cell c1' (by simp))
  have d2 := hrow hg4 _ _ (hg3.cell c2' (by simp))
  clear ho3 hg3 hg4 ho2 c1' c2' hG3 hG2
  go_wp2_with fail
  refine (appendU16_any _ none 0 0 r.vn [] (Bs.empty _) (by omega) (by omega)).mono ?_
  rintro e w5 ⟨ao5, c5, rfl, ho5, hg5⟩
  have hG5 := grown_trans hG4 (grown_any hg5 (some g)) (fun k hk => Or.inl hk)
  go_wp2_with (at_builtin; refine wpList_append_room _ rfl _ _ 23 rfl base 5 Try.underlying23 Try.info5 rfl (ho4.grown hg5) rfl ho5.shows (by omega) ?_)
  intro w6 ho6 hg6
  have hG6 := grown_trans hG5 hg6 (fun k hk => Or.inl hk)
  have e1 := hrow hg6 _ _ (hg5.cell d1 (by simp))
  have e2 := hrow hg6 _ _ (hg5.cell d2 (by simp))
  have hk6 := (hk _ hG6).key
  clear ho5 hg5 hg6 ho4 d1 d2 hG5 hG4
  go_wp2_with (at_builtin; refine wpList_append_room _ rfl _ _ 23 rfl base 5 Try.underlying23 Try.info5 rfl ho6 rfl hk6 (by omega) ?_)
  intro w7 ho7 hg7
  have hG7 := grown_trans hG6 hg7 (fun k hk => Or.inl hk)
  have f2 := hrow hg7 _ _ e2
  have hv7 := (hk _ hG7).value
  clear ho6 hg7 e1 e2 hk6 hG6
  go_wp2_with (at_builtin; refine wpList_append_room _ rfl _ _ 23 rfl base 5 Try.underlying23 Try.info5 rfl ho7 rfl hv7 (by omega) ?_)
  intro w8 ho8 hg8
  have hG8 := grown_trans hG7 hg8 (fun k hk => Or.inl hk)
  clear ho7 hg8 f2 hv7 hG7
  go_wp2
  go_ret
  have hn : n + 8 + 2 + 2 + r.kn + r.vn = n + (12 + r.kn + r.vn) := by omega
  refine ⟨by rw [← hn]; rfl, ?_, hG8⟩
  rw [← hn]
  simpa [rby, i8, List.append_assoc] using ho8
/-- What stands behind the sum. -/
def bodyB (base : Int) (l : List Rc) : List UInt8 := i8 base ++ low l.length 4 ++ (l.map rby).flatten
/-- A batch's bytes. -/
def batB (base : Int) (l : List Rc) : List UInt8 := low (16 + szs l) 4 ++ low (sm (bodyB base l)) 4 ++ bodyB base l
theorem flat_rby {l : List Rc} {i : Nat} (h : i < l.length) : ((l.take (i + 1)).map rby).flatten = ((l.take i).map rby).flatten ++ rby l[i] := by
  rw [List.take_succ_eq_append_getElem h, List.map_append, List.flatten_append]
  simp
theorem fits_ok {l : List Rc} (h : (fitsR l).2 = 0) : l.all mayR = true ∧ l ≠ [] ∧ l.length ≤ 256 ∧ 20 + szs l ≤ 65536 ∧ (fitsR l).1 = 20 + szs l := by
  unfold fitsR at *
  split at h
  · simp at h
  · split at h
    · simp at h
    · rename_i h1 h2
      rw [if_neg h1, if_neg h2]
      simp only [not_or, Bool.not_eq_false] at h1 h2
      exact ⟨h1.1, h1.2, by omega, by omega, rfl⟩
theorem meas_ok {base : Int} {l : List Rc} (h : (measR base l).2 = 0) : (fitsR l).2 = 0 ∧ offB base l.length = true ∧ measR base l = fitsR l := by
  unfold measR at *
  split at h
  · simp at h
  · rename_i h1
    rw [if_neg h1]
    simp only [not_or, Bool.not_eq_false] at h1
    exact ⟨h, h1.2, rfl⟩
set_option maxRecDepth 100000 in
set_option maxHeartbeats 1000000 in
theorem put_not (w : World) (base : Int) (ao : Option Addr) (n cap : Nat) (l : List Rc) (ha : Rs w ao n cap l) (hs : Small l) (hm : (measR base l).2 ≠ 0) :
    Calls Try.prog 7 #[.agg #[.int .i64 base, .slice ao n cap]] w fun e w' => e = .returned (.tuple #[.slice none 0 0, .int .i64 (measR base l).2]) ∧ w.grownBy w' none := by
  have hg0 := alloc_grown w (.cells #[.int .i64 base, .slice ao n cap] 34)
  have hd : ((measR base l).2 != 0) = true := by simpa using hm
  go_enter Try.func7, Try.ntmps7
  go_wp2_with fail
  refine (measure_any _ base ao n cap l (ha.grown hg0) hs).mono ?_
  rintro e w2 ⟨rfl, hg2⟩
  go_wp2
  go_ret2
  exact ⟨rfl, grown_trans hg0 hg2 (by simp)⟩
end Go.Proofs.Ytlfgikhjcimppab
