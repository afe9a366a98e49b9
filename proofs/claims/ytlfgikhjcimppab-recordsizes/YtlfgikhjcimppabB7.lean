/-
  A record, cut out of bytes: the walk.
-/
import Derived.Test.YtlfgikhjcimppabB6
namespace Go.Proofs.Ytlfgikhjcimppab
open Go.RowKit
set_option linter.unusedVariables false

/-- What the bytes at a place say: time, and how many bytes key and value have. -/
def tAt (B : List UInt8) (i : Nat) : Int := wrap64 (val ((B.drop i).take 8) : Nat)
def kAt (B : List UInt8) (i : Nat) : Nat := val ((B.drop (i + 8)).take 2)
def vAt (B : List UInt8) (i : Nat) : Nat := val ((B.drop (i + 10)).take 2)
/-- A record that was cut out of B at a place. -/
structure Cut (w : World) (bo : Option Addr) (bc : Nat) (B : List UInt8) (i : Nat) (r : Rc) : Prop where
  t : r.t = tAt B i
  kn : r.kn = kAt B i
  vn : r.vn = vAt B i
  k : r.k = (B.drop (i + 12)).take r.kn
  v : r.v = (B.drop (i + 12 + r.kn)).take r.vn
  key : Bs w r.ko r.kn r.kc r.k
  value : Bs w r.vo r.vn r.vc r.v
  kb : r.kc ≤ bc
  vb : r.vc ≤ bc
  kin : ∀ a, r.ko = some a → ∃ b, bo = some b ∧ a.block = b.block
  vin : ∀ a, r.vo = some a → ∃ b, bo = some b ∧ a.block = b.block
theorem Cut.kept {w w' : World} {bo : Option Addr} {bc : Nat} {B : List UInt8} {i : Nat} {r : Rc} {row : Option Nat} (h : Cut w bo bc B i r) (hg : w.grownBy w' row) (hr : ∀ b, bo = some b → some b.block ≠ row) : Cut w' bo bc B i r :=
  ⟨h.t, h.kn, h.vn, h.k, h.v, h.key.kept hg (fun a ha => by obtain ⟨b, hb, e⟩ := h.kin a ha; rw [e]; exact hr b hb), h.value.kept hg (fun a ha => by obtain ⟨b, hb, e⟩ := h.vin a ha; rw [e]; exact hr b hb), h.kb, h.vb, h.kin, h.vin⟩
/-- The three blocks of 'record': the cutter's, the answer's, the record's. -/
structure Lc (w : World) (z : Nat) (bo : Option Addr) (bn bc rb : Nat) (x y u : Value) : Prop where
  c0 : w.cell? ⟨z, 0, none⟩ = some (.slice bo bn bc)
  c1 : w.cell? ⟨z, 1, none⟩ = some (.pointer (some ⟨rb, 0, none⟩))
  d0 : w.cell? ⟨z + 1, 0, none⟩ = some (.int .i64 0)
  d1 : w.cell? ⟨z + 1, 1, none⟩ = some (.slice none 0 0)
  d2 : w.cell? ⟨z + 1, 2, none⟩ = some (.slice none 0 0)
  e0 : w.cell? ⟨z + 1 + 1, 0, none⟩ = some x
  e1 : w.cell? ⟨z + 1 + 1, 1, none⟩ = some y
  e2 : w.cell? ⟨z + 1 + 1, 2, none⟩ = some u
  fd : ∀ i, w.frozen? ⟨z + 1, i, none⟩ = false
  fe : ∀ i, w.frozen? ⟨z + 1 + 1, i, none⟩ = false
  lt : z + 1 + 1 < w.heap.size
theorem cell_of {w : World} {b i : Nat} {c : Array Value} {e : TypeId} {v : Value} (h : w.heap[b]? = some (.cells c e (0, 0))) (hi : c[i]? = some v) : w.cell? ⟨b, i, none⟩ = some v := by simp [World.cell?, h, hi]
theorem frozen_of {w : World} {b : Nat} {c : Array Value} {e : TypeId} (h : w.heap[b]? = some (.cells c e (0, 0))) (i : Nat) : w.frozen? ⟨b, i, none⟩ = false := by simp [World.frozen?, h]
theorem frozen_kept {w w' : World} {g : Nat} {row : Option Nat} (hg : w.grownBy w' row) (hl : g < w.heap.size) (hr : row ≠ some g) {i : Nat} (h : w.frozen? ⟨g, i, none⟩ = false) : w'.frozen? ⟨g, i, none⟩ = false := by
  have := hg.block g hl (fun e => hr e.symm)
  simp only [World.frozen?] at *
  rw [this]
  exact h
theorem Lc.kept {w w' : World} {z : Nat} {bo : Option Addr} {bn bc rb : Nat} {x y u : Value} (h : Lc w z bo bn bc rb x y u) (hg : w.grownBy w' (some rb)) (hrb : rb < z) : Lc w' z bo bn bc rb x y u := by
  have hlt := h.lt
  have n0 : some z ≠ some rb := by simp; omega
  have n1 : some (z + 1) ≠ some rb := by simp; omega
  have n2 : some (z + 1 + 1) ≠ some rb := by simp; omega
  exact ⟨hg.cell h.c0 n0, hg.cell h.c1 n0, hg.cell h.d0 n1, hg.cell h.d1 n1, hg.cell h.d2 n1, hg.cell h.e0 n2, hg.cell h.e1 n2, hg.cell h.e2 n2, fun i => frozen_kept hg (by omega) (fun e => n1 e.symm) (h.fd i), fun i => frozen_kept hg hlt (fun e => n2 e.symm) (h.fe i), Nat.lt_of_lt_of_le hlt hg.size⟩
theorem Lc.set {w : World} {z : Nat} {bo : Option Addr} {bn bc rb : Nat} {x y u : Value} (h : Lc w z bo bn bc rb x y u) (v : Value) :
    Lc (w.setCell ⟨z + 1 + 1, 0, none⟩ v) z bo bn bc rb v y u ∧ Lc (w.setCell ⟨z + 1 + 1, 1, none⟩ v) z bo bn bc rb x v u ∧ Lc (w.setCell ⟨z + 1 + 1, 2, none⟩ v) z bo bn bc rb x y v := by
  have hlt := h.lt
  refine ⟨⟨?_, ?_, ?_, ?_, ?_, ?_, ?_, ?_, ?_, ?_, ?_⟩, ⟨?_, ?_, ?_, ?_, ?_, ?_, ?_, ?_, ?_, ?_, ?_⟩, ⟨?_, ?_, ?_, ?_, ?_, ?_, ?_, ?_, ?_, ?_, ?_⟩⟩
  all_goals first
    | (rw [World.cell?_setCell_other _ _ _ _ (by simp <;> omega)]; first | exact h.c0 | exact h.c1 | exact h.d0 | exact h.d1 | exact h.d2 | exact h.e0 | exact h.e1 | exact h.e2)
    | exact World.cell?_setCell_same _ _ _ h.e0
    | exact World.cell?_setCell_same _ _ _ h.e1
    | exact World.cell?_setCell_same _ _ _ h.e2
    | (intro i; simpa using h.fd i)
    | (intro i; simpa using h.fe i)
    | exact Nat.lt_of_lt_of_le hlt (setCell_grown _ _ _ _).size
theorem Ct.kept {w w' : World} {bo : Option Addr} {bn bc rb g : Nat} {B : List UInt8} {at' : Nat} {row : Option Nat} (h : Ct w bo bn bc rb g B at') (hg : w.grownBy w' row) (h1 : row ≠ some rb) (h2 : row ≠ some g) (h3 : ∀ b, bo = some b → some b.block ≠ row) : Ct w' bo bn bc rb g B at' := by
  obtain ⟨o, n, cap, hr, hn⟩ := h.rd
  exact ⟨h.bytes.kept hg h3, ⟨o, n, cap, hr.kept hg h1 h2 h.rbl, hn⟩, h.apart, Nat.lt_of_lt_of_le h.rbl hg.size, h.top⟩
set_option maxRecDepth 100000 in
set_option maxHeartbeats 4000000 in
theorem record_yes (w : World) (bo : Option Addr) (bn bc rb g : Nat) (B : List UInt8) (i : Nat) (h : Ct w bo bn bc rb g B i) (hpos : 0 < bn) (hk : i + 12 + kAt B i + vAt B i ≤ bn) :
    Calls Try.prog 47 #[.agg #[.slice bo bn bc, .pointer (some ⟨rb, 0, none⟩)]] w fun e w' => ∃ r : Rc, e = .returned (.agg #[.int .i64 r.t, .slice r.ko r.kn r.kc, .slice r.vo r.vn r.vc]) ∧ Cut w' bo bc B i r ∧ Ct w' bo bn bc rb g B (i + 12 + kAt B i + vAt B i) ∧ w.grownBy w' (some rb) := by
  have hrbl := h.rbl
  go_enter Try.func47, Try.ntmps47
  go_wp2_with fail
  have hg0 : w.grownBy (((w.alloc (.cells #[.slice bo bn bc, .pointer (some ⟨rb, 0, none⟩)] 91)).alloc (.cells #[.int .i64 0, .slice none 0 0, .slice none 0 0] 37)).alloc (.cells #[.int .i64 0, .slice none 0 0, .slice none 0 0] 37)) none := grown_trans (grown_trans (alloc_grown _ _) (alloc_grown _ _) (by simp)) (alloc_grown _ _) (by simp)
  have hL0 : Lc (((w.alloc (.cells #[.slice bo bn bc, .pointer (some ⟨rb, 0, none⟩)] 91)).alloc (.cells #[.int .i64 0, .slice none 0 0, .slice none 0 0] 37)).alloc (.cells #[.int .i64 0, .slice none 0 0, .slice none 0 0] 37)) w.heap.size bo bn bc rb (.int .i64 0) (.slice none 0 0) (.slice none 0 0) := by
    have s1 : (w.alloc (.cells #[.slice bo bn bc, .pointer (some ⟨rb, 0, none⟩)] 91)).heap.size = w.heap.size + 1 := by simp
    have s2 : ((w.alloc (.cells #[.slice bo bn bc, .pointer (some ⟨rb, 0, none⟩)] 91)).alloc (.cells #[.int .i64 0, .slice none 0 0, .slice none 0 0] 37)).heap.size = w.heap.size + 1 + 1 := by simp
    have g2 := alloc_grown ((w.alloc (.cells #[.slice bo bn bc, .pointer (some ⟨rb, 0, none⟩)] 91)).alloc (.cells #[.int .i64 0, .slice none 0 0, .slice none 0 0] 37)) (.cells #[.int .i64 0, .slice none 0 0, .slice none 0 0] 37)
    have g1 := grown_trans (alloc_grown (w.alloc (.cells #[.slice bo bn bc, .pointer (some ⟨rb, 0, none⟩)] 91)) (.cells #[.int .i64 0, .slice none 0 0, .slice none 0 0] 37)) g2 (by simp)
    have k1 := heap_alloc_new (w.alloc (.cells #[.slice bo bn bc, .pointer (some ⟨rb, 0, none⟩)] 91)) (.cells #[.int .i64 0, .slice none 0 0, .slice none 0 0] 37)
    have k2 := heap_alloc_new ((w.alloc (.cells #[.slice bo bn bc, .pointer (some ⟨rb, 0, none⟩)] 91)).alloc (.cells #[.int .i64 0, .slice none 0 0, .slice none 0 0] 37)) (.cells #[.int .i64 0, .slice none 0 0, .slice none 0 0] 37)
    rw [s1] at k1
    rw [s2] at k2
    have l1 : w.heap.size + 1 < ((w.alloc (.cells #[.slice bo bn bc, .pointer (some ⟨rb, 0, none⟩)] 91)).alloc (.cells #[.int .i64 0, .slice none 0 0, .slice none 0 0] 37)).heap.size := by rw [s2]; omega
    have k1' := (g2.block _ l1 (by simp)).trans k1
    refine ⟨g1.cell (by simp) (by simp), g1.cell (by simp) (by simp), ?_, ?_, ?_, ?_, ?_, ?_, fun i => ?_, fun i => ?_, ?_⟩
    · exact cell_of k1' rfl
    · exact cell_of k1' rfl
    · exact cell_of k1' rfl
    · exact cell_of k2 rfl
    · exact cell_of k2 rfl
    · exact cell_of k2 rfl
    · exact frozen_of k1' i
    · exact frozen_of k2 i
    · have := g2.size
      simp
  have hgz : g < w.heap.size := by obtain ⟨o, n, cap, hr, _⟩ := h.rd; exact hr.gl
  have hbz : ∀ b, bo = some b → b.block < w.heap.size := fun b hb => by obtain ⟨b1, o1, e1, hl⟩ := h.bytes.addr hpos; rw [hb] at e1; obtain rfl := Option.some.inj e1; exact hl
  have h0 := h.grown hg0
  generalize (((w.alloc (.cells #[.slice bo bn bc, .pointer (some ⟨rb, 0, none⟩)] 91)).alloc (.cells #[.int .i64 0, .slice none 0 0, .slice none 0 0] 37)).alloc (.cells #[.int .i64 0, .slice none 0 0, .slice none 0 0] 37)) = w0 at *
  have hlow : ∀ {W W' : World}, w.grownBy W (some rb) → W.grownBy W' (some (w.heap.size + 1 + 1)) → w.grownBy W' (some rb) := fun h1 h2 => grown_trans h1 h2 (fun k hk => Or.inr (by cases hk; omega))
  have hG0 := grown_any hg0 (some rb)
  generalize hz : w.heap.size = z at *
  clear h hg0
  refine (number8_yes _ bo bn bc rb g B i h0 (by omega)).mono ?_
  rintro e w1 ⟨rfl, hc1, hg1⟩
  have hL1 := hL0.kept hg1 hrbl
  have hG1 := grown_trans hG0 hg1 (fun k hk => Or.inl hk)
  clear hL0 hG0 hg1 h0
  obtain ⟨T, hT⟩ : ∃ T, Hid (T = tAt B i) := ⟨tAt B i, (rfl : _ = _)⟩
  rw [show wrap64 ((val ((B.drop i).take 8) : Nat) : Int) = T from hT.out.symm]
  have hfe := hL1.fe
  have e0 := hL1.e0
  go_wp2_with fail
  have hs2 := setCell_grown w1 (z + 1 + 1) 0 (.int .i64 T)
  have hL2 := (hL1.set (.int .i64 T)).1
  have hzr : some (z + 1 + 1) ≠ some rb := by simp; omega
  have hzg : some (z + 1 + 1) ≠ some g := by simp; omega
  have hzb : ∀ b, bo = some b → some b.block ≠ some (z + 1 + 1) := fun b hb => by have := hbz b hb; simp; omega
  have hc2 := hc1.kept hs2 hzr hzg hzb
  have hG2 := hlow hG1 hs2
  clear hL1 hc1 hs2 hG1 hfe e0
  generalize w1.setCell ⟨z + 1 + 1, 0, none⟩ (.int .i64 T) = w2 at *
  obtain ⟨KN, hKN⟩ : ∃ KN, Hid (KN = kAt B i) := ⟨kAt B i, (rfl : _ = _)⟩
  obtain ⟨VN, hVN⟩ : ∃ VN, Hid (VN = vAt B i) := ⟨vAt B i, (rfl : _ = _)⟩
  rw [← hKN.out, ← hVN.out] at hk
  have hkl : KN < 65536 := by
    rw [hKN.out]
    have h3 := val_lt ((B.drop (i + 8)).take 2)
    have h4 : 256 ^ ((B.drop (i + 8)).take 2).length ≤ 256 ^ 2 := Nat.pow_le_pow_right (by omega) (by simp; omega)
    exact Nat.lt_of_lt_of_le h3 h4
  have hvl : VN < 65536 := by
    rw [hVN.out]
    have h3 := val_lt ((B.drop (i + 10)).take 2)
    have h4 : 256 ^ ((B.drop (i + 10)).take 2).length ≤ 256 ^ 2 := Nat.pow_le_pow_right (by omega) (by simp; omega)
    exact Nat.lt_of_lt_of_le h3 h4
  have hn1 : ∀ W, Ct W bo bn bc rb g B (i + 8) → Calls Try.prog 56 #[.agg #[.slice bo bn bc, .pointer (some ⟨rb, 0, none⟩)]] W fun e w' => e = .returned (.int .u16 KN) ∧ Ct w' bo bn bc rb g B (i + 10) ∧ W.grownBy w' (some rb) := fun W hW => by
    rw [hKN.out]; exact number2_yes W bo bn bc rb g B (i + 8) hW (by omega)
  have hn2 : ∀ W, Ct W bo bn bc rb g B (i + 10) → Calls Try.prog 56 #[.agg #[.slice bo bn bc, .pointer (some ⟨rb, 0, none⟩)]] W fun e w' => e = .returned (.int .u16 VN) ∧ Ct w' bo bn bc rb g B (i + 12) ∧ W.grownBy w' (some rb) := fun W hW => by
    rw [hVN.out]; exact number2_yes W bo bn bc rb g B (i + 10) hW (by omega)
  have p0 := hL2.c0
  have p1 := hL2.c1
  have hwk : IntKind.i64.wrap (KN : Int) = (KN : Int) := IntWalk.i64_in _ (by omega)
  have hwv : IntKind.i64.wrap (VN : Int) = (VN : Int) := IntWalk.i64_in _ (by omega)
  go_region_held3 (fun w' => w'.cell? ⟨z, 0, none⟩ = some (.slice bo bn bc) ∧ w'.cell? ⟨z, 1, none⟩ = some (.pointer (some ⟨rb, 0, none⟩))) (first | exact ⟨r0, r1⟩ | exact ⟨q0, q1⟩ | exact ⟨p0, p1⟩) (first
    | (go_at_call 56; refine (hn2 _ hc3).mono ?_; rintro e w4 ⟨rfl, hc4, hg4⟩; have hL4 := hL3.kept hg4 hrbl; have r0 := hL4.c0; have r1 := hL4.c1)
    | (go_at_call 56; refine (hn1 _ (hc2.grown (grown_drewN w2 1 none))).mono ?_; rintro e w3 ⟨rfl, hc3, hg3⟩; have hL3 := (hL2.kept (grown_drewN w2 1 (some rb)) hrbl).kept hg3 hrbl; have q0 := hL3.c0; have q1 := hL3.c1))
  have hG4 := grown_trans (grown_trans (grown_trans hG2 (grown_drewN w2 1 (some rb)) (fun k hk => Or.inl hk)) hg3 (fun k hk => Or.inl hk)) hg4 (fun k hk => Or.inl hk)
  clear hL2 hL3 hc2 hc3 hg3 hg4 hG2 p0 p1 q0 q1 hn1 hn2 hwk hwv
  go_wp2_with fail
  refine (passC_yes _ bo bn bc rb g B (i + 12) KN hc4 (by omega) hpos).mono ?_
  rintro e w5 ⟨po, pc, rfl, hb5, hpo, hpc, hc5, hg5⟩
  have hL5 := hL4.kept hg5 hrbl
  have hG5 := grown_trans hG4 hg5 (fun k hk => Or.inl hk)
  have f5 := hL5.fe
  have g5 := hL5.e1
  have m0 := hL5.c0
  have m1 := hL5.c1
  clear hL4 hc4 hg5 hG4 r0 r1
  go_wp2_with fail
  have hs6 := setCell_grown w5 (z + 1 + 1) 1 (.slice po KN pc)
  have hL6 := (hL5.set (.slice po KN pc)).2.1
  have hc6 := hc5.kept hs6 hzr hzg hzb
  have hb6 := hb5.kept hs6 (fun a ha => by obtain ⟨b, hb, e⟩ := hpo a ha; rw [e]; exact hzb b hb)
  have hG6 := hlow hG5 hs6
  clear hL5 hc5 hs6 hb5 hG5 f5 g5 m0 m1
  generalize w5.setCell ⟨z + 1 + 1, 1, none⟩ (.slice po KN pc) = w6 at *
  refine (passC_yes _ bo bn bc rb g B (i + 12 + KN) VN hc6 (by omega) hpos).mono ?_
  rintro e w7 ⟨qo, qc, rfl, hb7, hqo, hqc, hc7, hg7⟩
  have hL7 := hL6.kept hg7 hrbl
  have hG7 := grown_trans hG6 hg7 (fun k hk => Or.inl hk)
  have hk7 := hb6.kept hg7 (fun a ha => by obtain ⟨b, hb, e⟩ := hpo a ha; rw [e]; have := hc7.apart b hb; simpa using this)
  have hs8 := setCell_grown w7 (z + 1 + 1) 2 (.slice qo VN qc)
  have hL8 := (hL7.set (.slice qo VN qc)).2.2
  have hc8 := hc7.kept hs8 hzr hzg hzb
  have hb8 := hb7.kept hs8 (fun a ha => by obtain ⟨b, hb, e⟩ := hqo a ha; rw [e]; exact hzb b hb)
  have hk8 := hk7.kept hs8 (fun a ha => by obtain ⟨b, hb, e⟩ := hpo a ha; rw [e]; exact hzb b hb)
  have hG8 := hlow hG7 hs8
  have f7 := hL7.fe
  have g7 := hL7.e2
  have m0 := hL7.e0
  have m1 := hL7.e1
  have m2 := hL7.d0
  have m3 := hL7.d1
  have m4 := hL7.d2
  have m5 := hL7.fd
  clear hL6 hc6 hb6 hG6 hg7 hb7 hk7 hG7
  go_wp2_with fail
  generalize w7.setCell ⟨z + 1 + 1, 2, none⟩ (.slice qo VN qc) = w8 at *
  have hz1 : ∀ i v (W : World), W.grownBy (W.setCell ⟨z + 1, i, none⟩ v) (some (z + 1)) := fun i v W => setCell_grown W (z + 1) i v
  have y1 : ((w8.setCell ⟨z + 1, 0, none⟩ (.int .i64 T)).setCell ⟨z + 1, 1, none⟩ (.slice po KN pc)).grownBy (((w8.setCell ⟨z + 1, 0, none⟩ (.int .i64 T)).setCell ⟨z + 1, 1, none⟩ (.slice po KN pc)).setCell ⟨z + 1, 2, none⟩ (.slice qo VN qc)) (some (z + 1)) := hz1 _ _ _
  have hg9 : w8.grownBy (((w8.setCell ⟨z + 1, 0, none⟩ (.int .i64 T)).setCell ⟨z + 1, 1, none⟩ (.slice po KN pc)).setCell ⟨z + 1, 2, none⟩ (.slice qo VN qc)) (some (z + 1)) := grown_trans (grown_trans (hz1 _ _ _) (hz1 _ _ _) (fun k hk => Or.inl hk)) y1 (fun k hk => Or.inl hk)
  have t0 : (((w8.setCell ⟨z + 1, 0, none⟩ (.int .i64 T)).setCell ⟨z + 1, 1, none⟩ (.slice po KN pc)).setCell ⟨z + 1, 2, none⟩ (.slice qo VN qc)).cell? ⟨z + 1, 0, none⟩ = some (.int .i64 T) := by
    rw [World.cell?_setCell_other _ _ _ _ (by simp), World.cell?_setCell_other _ _ _ _ (by simp), World.cell?_setCell_same _ _ _ hL8.d0]
  have t1 : (((w8.setCell ⟨z + 1, 0, none⟩ (.int .i64 T)).setCell ⟨z + 1, 1, none⟩ (.slice po KN pc)).setCell ⟨z + 1, 2, none⟩ (.slice qo VN qc)).cell? ⟨z + 1, 1, none⟩ = some (.slice po KN pc) := by
    rw [World.cell?_setCell_other _ _ _ _ (by simp)]
    exact World.cell?_setCell_same (u := .slice none 0 0) _ _ _ (by rw [World.cell?_setCell_other _ _ _ _ (by simp)]; exact hL8.d1)
  have t2 : (((w8.setCell ⟨z + 1, 0, none⟩ (.int .i64 T)).setCell ⟨z + 1, 1, none⟩ (.slice po KN pc)).setCell ⟨z + 1, 2, none⟩ (.slice qo VN qc)).cell? ⟨z + 1, 2, none⟩ = some (.slice qo VN qc) :=
    World.cell?_setCell_same (u := .slice none 0 0) _ _ _ (by rw [World.cell?_setCell_other _ _ _ _ (by simp), World.cell?_setCell_other _ _ _ _ (by simp)]; exact hL8.d2)
  have ur : some (z + 1) ≠ some rb := by simp; omega
  have ug : some (z + 1) ≠ some g := by simp; omega
  have ub : ∀ b, bo = some b → some b.block ≠ some (z + 1) := fun b hb => by have := hbz b hb; simp; omega
  have hc9 := hc8.kept hg9 ur ug ub
  have hb9 := hb8.kept hg9 (fun a ha => by obtain ⟨b, hb, e⟩ := hqo a ha; rw [e]; exact ub b hb)
  have hk9 := hk8.kept hg9 (fun a ha => by obtain ⟨b, hb, e⟩ := hpo a ha; rw [e]; exact ub b hb)
  have hG9 := grown_trans hG8 hg9 (fun k hk => Or.inr (by cases hk; omega))
  clear hL7 hL8 hc8 hb8 hk8 hG8 hg9 y1 hz1 hs8
  generalize (((w8.setCell ⟨z + 1, 0, none⟩ (.int .i64 T)).setCell ⟨z + 1, 1, none⟩ (.slice po KN pc)).setCell ⟨z + 1, 2, none⟩ (.slice qo VN qc)) = w9 at *
  refine bodyPost_ret (v := .agg #[.int .i64 T, .slice po KN pc, .slice qo VN qc]) (by simp [results, Try.results47, go_sem, t0, t1, t2]) rfl ?_
  refine ⟨⟨T, po, KN, pc, _, qo, VN, qc, _⟩, rfl, ⟨hT.out, hKN.out, hVN.out, rfl, rfl, hk9, hb9, hpc, hqc, hpo, hqo⟩, ?_, hG9⟩
  rw [← hKN.out, ← hVN.out]
  exact hc9
end Go.Proofs.Ytlfgikhjcimppab
