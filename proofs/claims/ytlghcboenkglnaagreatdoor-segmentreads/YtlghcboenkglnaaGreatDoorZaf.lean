import Derived.Test.YtlghcboenkglnaaGreatDoorZae
/-
  The cutter: need, the numbers: the walks.
-/
namespace Go.Proofs.YtlghcboenkglnaaGreatDoor.Rec
open Go.Proofs.YtlghcboenkglnaaGreatDoor
open Go.RowKit
set_option linter.unusedVariables false

/-- A cutter: the bytes B, of which 'at' are gone; its reader lies in block rb, with a copy in block g. -/
structure Ct (w : World) (bo : Option Addr) (bn bc rb g : Nat) (B : List UInt8) (at' : Nat) : Prop where
  bytes : Bs w bo bn bc B
  rd : ∃ o n cap, Rd w rb g o n cap (B.drop at') at' ∧ at' + n = bn
  apart : ∀ a, bo = some a → a.block ≠ rb
  rbl : rb < w.heap.size
  top : bn ≤ 1048576
theorem Rd.kept {w w' : World} {b g o n cap : Nat} {l : List UInt8} {at' : Nat} {row : Option Nat} (h : Rd w b g o n cap l at') (hg : w.grownBy w' row) (hb : row ≠ some b) (hgg : row ≠ some g) (hbl : b < w.heap.size) : Rd w' b g o n cap l at' := by
  refine ⟨hg.cell h.c0 (fun e => hb e.symm), hg.cell h.c1 (fun e => hb e.symm), hg.cell h.c2 (fun e => hb e.symm), fun i => ?_, h.bs.kept hg (fun a ha => by obtain rfl := Option.some.inj ha; exact fun e => hgg e.symm), h.ap, Nat.lt_of_lt_of_le h.gl hg.size, h.bd⟩
  have h9 := hg.block b hbl (fun e => hb e.symm)
  have := h.fz i
  simp only [World.frozen?] at *
  rw [h9]
  exact this
theorem Ct.grown {w w' : World} {bo : Option Addr} {bn bc rb g : Nat} {B : List UInt8} {at' : Nat} (h : Ct w bo bn bc rb g B at') (hg : w.grownBy w' none) : Ct w' bo bn bc rb g B at' := by
  obtain ⟨o, n, cap, hr, hn⟩ := h.rd
  exact ⟨h.bytes.grown hg, ⟨o, n, cap, hr.kept hg (by simp) (by simp) h.rbl, hn⟩, h.apart, Nat.lt_of_lt_of_le h.rbl hg.size, h.top⟩
theorem Ct.next {w w' : World} {bo : Option Addr} {bn bc rb g : Nat} {B : List UInt8} {at' k o' cap' : Nat} (h : Ct w bo bn bc rb g B at') (hk : at' + k ≤ bn) (hr : Rd w' rb g o' (bn - (at' + k)) cap' (B.drop (at' + k)) (at' + k)) (hg : w.grownBy w' (some rb)) : Ct w' bo bn bc rb g B (at' + k) :=
  ⟨h.bytes.kept hg (fun a ha e => h.apart a ha (Option.some.inj e)), ⟨o', _, cap', hr, by omega⟩, h.apart, Nat.lt_of_lt_of_le h.rbl hg.size, h.top⟩
set_option maxHeartbeats 400000 in
theorem need_yes (w : World) : Calls Tryz.prog 182 #[.bool true] w fun e w' => e = .returned (.tuple #[]) ∧ w' = w := by
  go_enter Tryz.func182, Tryz.ntmps182
  go_wp2
  go_end0
  exact ⟨rfl, rfl⟩
set_option maxRecDepth 100000 in
set_option maxHeartbeats 1000000 in
theorem number2_yes (w : World) (bo : Option Addr) (bn bc rb g : Nat) (B : List UInt8) (at' : Nat) (h : Ct w bo bn bc rb g B at') (hk : at' + 2 ≤ bn) :
    Calls Tryz.prog 203 #[.agg #[.slice bo bn bc, .pointer (some ⟨rb, 0, none⟩)]] w fun e w' => e = .returned (.int .u16 (val ((B.drop at').take 2))) ∧ Ct w' bo bn bc rb g B (at' + 2) ∧ w.grownBy w' (some rb) := by
  have hg0 := alloc_grown w (.cells #[.slice bo bn bc, .pointer (some ⟨rb, 0, none⟩)] 276)
  have h0 := h.grown hg0
  have hrbl := h.rbl
  have hG0 := grown_any hg0 (some rb)
  obtain ⟨o, n, cap, hr, hn⟩ := h0.rd
  have hn2 : n - 2 = bn - (at' + 2) := by omega
  have hv := val_lt8 (l := (B.drop at').take 2) (by simp; omega)
  go_enter Tryz.func203, Tryz.ntmps203
  go_wp2_with fail
  refine (u16_yes _ rb g o n cap _ at' hr (by omega)).mono ?_
  rintro e w1 ⟨rfl, o1, cap1, hr1, hg1⟩
  rw [List.drop_drop, hn2] at hr1
  have hc1 := h0.next hk hr1 hg1
  have hG1 := grown_trans hG0 hg1 (fun k hk => Or.inl hk)
  go_wp2_with fail
  refine (need_yes _).mono ?_
  rintro e w2 ⟨rfl, hw2⟩
  subst hw2
  go_wp2
  go_ret
  exact ⟨rfl, hc1, hG1⟩
set_option maxRecDepth 100000 in
set_option maxHeartbeats 1000000 in
theorem number4_yes (w : World) (bo : Option Addr) (bn bc rb g : Nat) (B : List UInt8) (at' : Nat) (h : Ct w bo bn bc rb g B at') (hk : at' + 4 ≤ bn) :
    Calls Tryz.prog 183 #[.agg #[.slice bo bn bc, .pointer (some ⟨rb, 0, none⟩)]] w fun e w' => e = .returned (.int .u32 (val ((B.drop at').take 4))) ∧ Ct w' bo bn bc rb g B (at' + 4) ∧ w.grownBy w' (some rb) := by
  have hg0 := alloc_grown w (.cells #[.slice bo bn bc, .pointer (some ⟨rb, 0, none⟩)] 276)
  have h0 := h.grown hg0
  have hrbl := h.rbl
  have hG0 := grown_any hg0 (some rb)
  obtain ⟨o, n, cap, hr, hn⟩ := h0.rd
  have hn2 : n - 4 = bn - (at' + 4) := by omega
  have hv := val_lt8 (l := (B.drop at').take 4) (by simp; omega)
  go_enter Tryz.func183, Tryz.ntmps183
  go_wp2_with fail
  refine (u32_yes _ rb g o n cap _ at' hr (by omega)).mono ?_
  rintro e w1 ⟨rfl, o1, cap1, hr1, hg1⟩
  rw [List.drop_drop, hn2] at hr1
  have hc1 := h0.next hk hr1 hg1
  have hG1 := grown_trans hG0 hg1 (fun k hk => Or.inl hk)
  go_wp2_with fail
  refine (need_yes _).mono ?_
  rintro e w2 ⟨rfl, hw2⟩
  subst hw2
  go_wp2
  go_ret
  exact ⟨rfl, hc1, hG1⟩
set_option maxRecDepth 100000 in
set_option maxHeartbeats 1000000 in
theorem number8_yes (w : World) (bo : Option Addr) (bn bc rb g : Nat) (B : List UInt8) (at' : Nat) (h : Ct w bo bn bc rb g B at') (hk : at' + 8 ≤ bn) :
    Calls Tryz.prog 184 #[.agg #[.slice bo bn bc, .pointer (some ⟨rb, 0, none⟩)]] w fun e w' => e = .returned (.int .i64 (wrap64 (val ((B.drop at').take 8) : Nat))) ∧ Ct w' bo bn bc rb g B (at' + 8) ∧ w.grownBy w' (some rb) := by
  have hg0 := alloc_grown w (.cells #[.slice bo bn bc, .pointer (some ⟨rb, 0, none⟩)] 276)
  have h0 := h.grown hg0
  have hrbl := h.rbl
  have hG0 := grown_any hg0 (some rb)
  obtain ⟨o, n, cap, hr, hn⟩ := h0.rd
  have hn2 : n - 8 = bn - (at' + 8) := by omega
  have hv := val_lt8 (l := (B.drop at').take 8) (by simp; omega)
  go_enter Tryz.func184, Tryz.ntmps184
  go_wp2_with fail
  refine (i64_yes _ rb g o n cap _ at' hr (by omega)).mono ?_
  rintro e w1 ⟨rfl, o1, cap1, hr1, hg1⟩
  rw [List.drop_drop, hn2] at hr1
  have hc1 := h0.next hk hr1 hg1
  have hG1 := grown_trans hG0 hg1 (fun k hk => Or.inl hk)
  go_wp2_with fail
  refine (need_yes _).mono ?_
  rintro e w2 ⟨rfl, hw2⟩
  subst hw2
  go_wp2
  go_ret
  exact ⟨rfl, hc1, hG1⟩
set_option maxRecDepth 100000 in
set_option maxHeartbeats 2000000 in
theorem passC_yes (w : World) (bo : Option Addr) (bn bc rb g : Nat) (B : List UInt8) (at' k : Nat) (h : Ct w bo bn bc rb g B at') (hk : at' + k ≤ bn) (hpos : 0 < bn) :
    Calls Tryz.prog 181 #[.agg #[.slice bo bn bc, .pointer (some ⟨rb, 0, none⟩)], .int .i64 k] w fun e w' => ∃ po pc, e = .returned (.slice po k pc) ∧ Bs w' po k pc ((B.drop at').take k) ∧ (∀ a, po = some a → ∃ b, bo = some b ∧ a.block = b.block) ∧ pc ≤ bc ∧ Ct w' bo bn bc rb g B (at' + k) ∧ w.grownBy w' (some rb) := by
  have hg0 := alloc_grown w (.cells #[.slice bo bn bc, .pointer (some ⟨rb, 0, none⟩)] 276)
  have h0 := h.grown hg0
  have hrbl := h.rbl
  have htop := h.top
  have hG0 := grown_any hg0 (some rb)
  have b0 : (w.alloc (.cells #[.slice bo bn bc, .pointer (some ⟨rb, 0, none⟩)] 276)).cell? ⟨w.heap.size, 0, none⟩ = some (.slice bo bn bc) := by simp
  have b1 : (w.alloc (.cells #[.slice bo bn bc, .pointer (some ⟨rb, 0, none⟩)] 276)).cell? ⟨w.heap.size, 1, none⟩ = some (.pointer (some ⟨rb, 0, none⟩)) := by simp
  have hne : w.heap.size ≠ rb := by omega
  obtain ⟨o, n, cap, hr, hn⟩ := h0.rd
  have hn2 : n - k = bn - (at' + k) := by omega
  go_enter Tryz.func181, Tryz.ntmps181
  go_wp2_with fail
  generalize w.alloc (.cells #[.slice bo bn bc, .pointer (some ⟨rb, 0, none⟩)] 276) = w0 at *
  generalize w.heap.size = z0 at *
  refine (at_any _ rb g o n cap _ at' hr).mono ?_
  rintro e w1 ⟨rfl, hw1⟩
  subst hw1
  go_wp2_with fail
  refine (skip_ok _ rb g o n cap k _ at' hr (by omega)).mono ?_
  rintro e w2 ⟨rfl, o2, cap2, hr2, hg2⟩
  rw [List.drop_drop, hn2] at hr2
  have hc2 := h0.next hk hr2 hg2
  have hG2 := grown_trans hG0 hg2 (fun k hk => Or.inl hk)
  have c0 := hg2.cell b0 (by simpa using hne)
  have c1 := hg2.cell b1 (by simpa using hne)
  clear b0 b1 hg2 hr h0 hG0
  go_wp2_with fail
  refine (need_yes _).mono ?_
  rintro e w3 ⟨rfl, hw3⟩
  subst hw3
  obtain ⟨o3, n3, cap3, hr3, hn3⟩ := hc2.rd
  have hat := fun W (hW : w3.grownBy W none) => at_any W rb g o3 n3 cap3 _ _ (hr3.kept hW (by simp) (by simp) hc2.rbl)
  obtain ⟨bb, oo, rfl, hbb⟩ := hc2.bytes.addr hpos
  have hbr := hc2.bytes.room
  have htk : ∀ W, w3.grownBy W none → ∀ o', (bc - at' = 0 ∨ o' = oo + at') → (bc - at' = 0 → o' = oo) → Bs W (some ⟨bb, o', none⟩) k (bc - at') ((B.drop at').take k) := fun W hW o' ho' _ => by
    have h9 := ((hc2.bytes.grown hW).drop at' (by omega) o' (ho'.imp (fun h => by omega) id)).take k (by omega)
    exact h9
  obtain ⟨T, hT⟩ : ∃ T, Hid (T = at' + k) := ⟨at' + k, (rfl : _ = _)⟩
  have hTi : at' ≤ T ∧ T ≤ bn ∧ T ≤ bc ∧ T - at' = k := by have := hT.out; omega
  obtain ⟨t1, t2, t3, t4⟩ := hTi
  have j1 : (0 : Int) ≤ (at' : Int) := by omega
  have j2 : (at' : Int) ≤ (T : Int) := by omega
  have j3 : (T : Int) ≤ (bc : Int) := by omega
  rw [← hT.out] at hat
  clear hr2 hr3 hk hn hn2 hn3 h htop
  by_cases hcap : bc = at'
  · subst hcap
    go_wp2_with fail
    go_big_quiet ((go_at_call 200; exact Calls.quiet_of_same (hat _ (grown_drewN w3 _ none))))
    have hgq := grown_drewN w3 nq none
    have hb9 := htk _ hgq oo (Or.inl (by omega)) (fun _ => rfl)
    rw [Nat.sub_self] at hb9
    have hcq := hc2.grown hgq
    have hGq := grown_trans hG2 (grown_any hgq (some rb)) (fun k hk => Or.inl hk)
    clear c0 c1 hat htk hc2 hgq
    generalize w3.drewN nq = w4 at *
    go_wp2
    go_ret
    exact ⟨_, _, rfl, hb9, fun a ha => ⟨_, rfl, by cases ha; rfl⟩, Nat.zero_le _, hcq, hGq⟩
  · have hcap2 : ¬ at' = bc := fun e => hcap e.symm
    go_wp2_with fail
    go_big_quiet ((go_at_call 200; exact Calls.quiet_of_same (hat _ (grown_drewN w3 _ none))))
    have hgq := grown_drewN w3 nq none
    have hb9 := htk _ hgq (oo + at') (Or.inr rfl) (fun h => absurd h (by omega))
    have hcq := hc2.grown hgq
    have hGq := grown_trans hG2 (grown_any hgq (some rb)) (fun k hk => Or.inl hk)
    clear c0 c1 hat htk hc2 hgq
    generalize w3.drewN nq = w4 at *
    go_wp2
    go_ret
    exact ⟨_, _, rfl, hb9, fun a ha => ⟨_, rfl, by cases ha; rfl⟩, Nat.sub_le _ _, hcq, hGq⟩
end Go.Proofs.YtlghcboenkglnaaGreatDoor.Rec

/-
  A record, cut out of bytes: the walk.
-/
namespace Go.Proofs.YtlghcboenkglnaaGreatDoor.Rec
open Go.Proofs.YtlghcboenkglnaaGreatDoor
open Go.RowKit
set_option linter.unusedVariables false

/-- What the bytes at a place say: time, and how many bytes key and value have. -/
def tAt (B : List UInt8) (i : Nat) : Int := wrap64 (val ((B.drop i).take 8) : Nat)
def kAt (B : List UInt8) (i : Nat) : Nat := val ((B.drop (i + 8)).take 2)
def vAt (B : List UInt8) (i : Nat) : Nat := val ((B.drop (i + 10)).take 2)
/-- A record that was cut out of B at a place. -/
structure Cut (w : World) (bo : Option Addr) (bc : Nat) (B : List UInt8) (i : Nat) (r : Rc) : Prop where
  t : r.t = tAt B i
  kn : r.kn = kAt B i
  vn : r.vn = vAt B i
  k : r.k = (B.drop (i + 12)).take r.kn
  v : r.v = (B.drop (i + 12 + r.kn)).take r.vn
  key : Bs w r.ko r.kn r.kc r.k
  value : Bs w r.vo r.vn r.vc r.v
  kb : r.kc ≤ bc
  vb : r.vc ≤ bc
  kin : ∀ a, r.ko = some a → ∃ b, bo = some b ∧ a.block = b.block
  vin : ∀ a, r.vo = some a → ∃ b, bo = some b ∧ a.block = b.block
theorem Cut.kept {w w' : World} {bo : Option Addr} {bc : Nat} {B : List UInt8} {i : Nat} {r : Rc} {row : Option Nat} (h : Cut w bo bc B i r) (hg : w.grownBy w' row) (hr : ∀ b, bo = some b → some b.block ≠ row) : Cut w' bo bc B i r :=
  ⟨h.t, h.kn, h.vn, h.k, h.v, h.key.kept hg (fun a ha => by obtain ⟨b, hb, e⟩ := h.kin a ha; rw [e]; exact hr b hb), h.value.kept hg (fun a ha => by obtain ⟨b, hb, e⟩ := h.vin a ha; rw [e]; exact hr b hb), h.kb, h.vb, h.kin, h.vin⟩
/-- The three blocks of 'record': the cutter's, the answer's, the record's. -/
structure Lc (w : World) (z : Nat) (bo : Option Addr) (bn bc rb : Nat) (x y u : Value) : Prop where
  c0 : w.cell? ⟨z, 0, none⟩ = some (.slice bo bn bc)
  c1 : w.cell? ⟨z, 1, none⟩ = some (.pointer (some ⟨rb, 0, none⟩))
  d0 : w.cell? ⟨z + 1, 0, none⟩ = some (.int .i64 0)
  d1 : w.cell? ⟨z + 1, 1, none⟩ = some (.slice none 0 0)
  d2 : w.cell? ⟨z + 1, 2, none⟩ = some (.slice none 0 0)
  e0 : w.cell? ⟨z + 1 + 1, 0, none⟩ = some x
  e1 : w.cell? ⟨z + 1 + 1, 1, none⟩ = some y
  e2 : w.cell? ⟨z + 1 + 1, 2, none⟩ = some u
  fd : ∀ i, w.frozen? ⟨z + 1, i, none⟩ = false
  fe : ∀ i, w.frozen? ⟨z + 1 + 1, i, none⟩ = false
  lt : z + 1 + 1 < w.heap.size
theorem cell_of {w : World} {b i : Nat} {c : Array Value} {e : TypeId} {v : Value} (h : w.heap[b]? = some (.cells c e (0, 0))) (hi : c[i]? = some v) : w.cell? ⟨b, i, none⟩ = some v := by simp [World.cell?, h, hi]
theorem frozen_of {w : World} {b : Nat} {c : Array Value} {e : TypeId} (h : w.heap[b]? = some (.cells c e (0, 0))) (i : Nat) : w.frozen? ⟨b, i, none⟩ = false := by simp [World.frozen?, h]
theorem frozen_kept {w w' : World} {g : Nat} {row : Option Nat} (hg : w.grownBy w' row) (hl : g < w.heap.size) (hr : row ≠ some g) {i : Nat} (h : w.frozen? ⟨g, i, none⟩ = false) : w'.frozen? ⟨g, i, none⟩ = false := by
  have := hg.block g hl (fun e => hr e.symm)
  simp only [World.frozen?] at *
  rw [this]
  exact h
theorem Lc.kept {w w' : World} {z : Nat} {bo : Option Addr} {bn bc rb : Nat} {x y u : Value} (h : Lc w z bo bn bc rb x y u) (hg : w.grownBy w' (some rb)) (hrb : rb < z) : Lc w' z bo bn bc rb x y u := by
  have hlt := h.lt
  have n0 : some z ≠ some rb := by simp; omega
  have n1 : some (z + 1) ≠ some rb := by simp; omega
  have n2 : some (z + 1 + 1) ≠ some rb := by simp; omega
  exact ⟨hg.cell h.c0 n0, hg.cell h.c1 n0, hg.cell h.d0 n1, hg.cell h.d1 n1, hg.cell h.d2 n1, hg.cell h.e0 n2, hg.cell h.e1 n2, hg.cell h.e2 n2, fun i => frozen_kept hg (by omega) (fun e => n1 e.symm) (h.fd i), fun i => frozen_kept hg hlt (fun e => n2 e.symm) (h.fe i), Nat.lt_of_lt_of_le hlt hg.size⟩
theorem Lc.set {w : World} {z : Nat} {bo : Option Addr} {bn bc rb : Nat} {x y u : Value} (h : Lc w z bo bn bc rb x y u) (v : Value) :
    Lc (w.setCell ⟨z + 1 + 1, 0, none⟩ v) z bo bn bc rb v y u ∧ Lc (w.setCell ⟨z + 1 + 1, 1, none⟩ v) z bo bn bc rb x v u ∧ Lc (w.setCell ⟨z + 1 + 1, 2, none⟩ v) z bo bn bc rb x y v := by
  have hlt := h.lt
  refine ⟨⟨?_, ?_, ?_, ?_, ?_, ?_, ?_, ?_, ?_, ?_, ?_⟩, ⟨?_, ?_, ?_, ?_, ?_, ?_, ?_, ?_, ?_, ?_, ?_⟩, ⟨?_, ?_, ?_, ?_, ?_, ?_, ?_, ?_, ?_, ?_, ?_⟩⟩
  all_goals first
    | (rw [World.cell?_setCell_other _ _ _ _ (by simp <;> omega)]; first | exact h.c0 | exact h.c1 | exact h.d0 | exact h.d1 | exact h.d2 | exact h.e0 | exact h.e1 | exact h.e2)
    | exact World.cell?_setCell_same _ _ _ h.e0
    | exact World.cell?_setCell_same _ _ _ h.e1
    | exact World.cell?_setCell_same _ _ _ h.e2
    | (intro i; simpa using h.fd i)
    | (intro i; simpa using h.fe i)
    | exact Nat.lt_of_lt_of_le hlt (setCell_grown _ _ _ _).size
theorem Ct.kept {w w' : World} {bo : Option Addr} {bn bc rb g : Nat} {B : List UInt8} {at' : Nat} {row : Option Nat} (h : Ct w bo bn bc rb g B at') (hg : w.grownBy w' row) (h1 : row ≠ some rb) (h2 : row ≠ some g) (h3 : ∀ b, bo = some b → some b.block ≠ row) : Ct w' bo bn bc rb g B at' := by
  obtain ⟨o, n, cap, hr, hn⟩ := h.rd
  exact ⟨h.bytes.kept hg h3, ⟨o, n, cap, hr.kept hg h1 h2 h.rbl, hn⟩, h.apart, Nat.lt_of_lt_of_le h.rbl hg.size, h.top⟩
set_option maxRecDepth 100000 in
set_option maxHeartbeats 4000000 in
theorem record_yes (w : World) (bo : Option Addr) (bn bc rb g : Nat) (B : List UInt8) (i : Nat) (h : Ct w bo bn bc rb g B i) (hpos : 0 < bn) (hk : i + 12 + kAt B i + vAt B i ≤ bn) :
    Calls Tryz.prog 185 #[.agg #[.slice bo bn bc, .pointer (some ⟨rb, 0, none⟩)]] w fun e w' => ∃ r : Rc, e = .returned (.agg #[.int .i64 r.t, .slice r.ko r.kn r.kc, .slice r.vo r.vn r.vc]) ∧ Cut w' bo bc B i r ∧ Ct w' bo bn bc rb g B (i + 12 + kAt B i + vAt B i) ∧ w.grownBy w' (some rb) := by
  have hrbl := h.rbl
  go_enter Tryz.func185, Tryz.ntmps185
  go_wp2_with fail
  have hg0 : w.grownBy (((w.alloc (.cells #[.slice bo bn bc, .pointer (some ⟨rb, 0, none⟩)] 276)).alloc (.cells #[.int .i64 0, .slice none 0 0, .slice none 0 0] 148)).alloc (.cells #[.int .i64 0, .slice none 0 0, .slice none 0 0] 148)) none := grown_trans (grown_trans (alloc_grown _ _) (alloc_grown _ _) (by simp)) (alloc_grown _ _) (by simp)
  have hL0 : Lc (((w.alloc (.cells #[.slice bo bn bc, .pointer (some ⟨rb, 0, none⟩)] 276)).alloc (.cells #[.int .i64 0, .slice none 0 0, .slice none 0 0] 148)).alloc (.cells #[.int .i64 0, .slice none 0 0, .slice none 0 0] 148)) w.heap.size bo bn bc rb (.int .i64 0) (.slice none 0 0) (.slice none 0 0) := by
    have s1 : (w.alloc (.cells #[.slice bo bn bc, .pointer (some ⟨rb, 0, none⟩)] 276)).heap.size = w.heap.size + 1 := by simp
    have s2 : ((w.alloc (.cells #[.slice bo bn bc, .pointer (some ⟨rb, 0, none⟩)] 276)).alloc (.cells #[.int .i64 0, .slice none 0 0, .slice none 0 0] 148)).heap.size = w.heap.size + 1 + 1 := by simp
    have g2 := alloc_grown ((w.alloc (.cells #[.slice bo bn bc, .pointer (some ⟨rb, 0, none⟩)] 276)).alloc (.cells #[.int .i64 0, .slice none 0 0, .slice none 0 0] 148)) (.cells #[.int .i64 0, .slice none 0 0, .slice none 0 0] 148)
    have g1 := grown_trans (alloc_grown (w.alloc (.cells #[.slice bo bn bc, .pointer (some ⟨rb, 0, none⟩)] 276)) (.cells #[.int .i64 0, .slice none 0 0, .slice none 0 0] 148)) g2 (by simp)
    have k1 := heap_alloc_new (w.alloc (.cells #[.slice bo bn bc, .pointer (some ⟨rb, 0, none⟩)] 276)) (.cells #[.int .i64 0, .slice none 0 0, .slice none 0 0] 148)
    have k2 := heap_alloc_new ((w.alloc (.cells #[.slice bo bn bc, .pointer (some ⟨rb, 0, none⟩)] 276)).alloc (.cells #[.int .i64 0, .slice none 0 0, .slice none 0 0] 148)) (.cells #[.int .i64 0, .slice none 0 0, .slice none 0 0] 148)
    rw [s1] at k1
    rw [s2] at k2
    have l1 : w.heap.size + 1 < ((w.alloc (.cells #[.slice bo bn bc, .pointer (some ⟨rb, 0, none⟩)] 276)).alloc (.cells #[.int .i64 0, .slice none 0 0, .slice none 0 0] 148)).heap.size := by rw [s2]; omega
    have k1' := (g2.block _ l1 (by simp)).trans k1
    refine ⟨g1.cell (by simp) (by simp), g1.cell (by simp) (by simp), ?_, ?_, ?_, ?_, ?_, ?_, fun i => ?_, fun i => ?_, ?_⟩
    · exact cell_of k1' rfl
    · exact cell_of k1' rfl
    · exact cell_of k1' rfl
    · exact cell_of k2 rfl
    · exact cell_of k2 rfl
    · exact cell_of k2 rfl
    · exact frozen_of k1' i
    · exact frozen_of k2 i
    · have := g2.size
      simp
  have hgz : g < w.heap.size := by obtain ⟨o, n, cap, hr, _⟩ := h.rd; exact hr.gl
  have hbz : ∀ b, bo = some b → b.block < w.heap.size := fun b hb => by obtain ⟨b1, o1, e1, hl⟩ := h.bytes.addr hpos; rw [hb] at e1; obtain rfl := Option.some.inj e1; exact hl
  have h0 := h.grown hg0
  generalize (((w.alloc (.cells #[.slice bo bn bc, .pointer (some ⟨rb, 0, none⟩)] 276)).alloc (.cells #[.int .i64 0, .slice none 0 0, .slice none 0 0] 148)).alloc (.cells #[.int .i64 0, .slice none 0 0, .slice none 0 0] 148)) = w0 at *
  have hlow : ∀ {W W' : World}, w.grownBy W (some rb) → W.grownBy W' (some (w.heap.size + 1 + 1)) → w.grownBy W' (some rb) := fun h1 h2 => grown_trans h1 h2 (fun k hk => Or.inr (by cases hk; omega))
  have hG0 := grown_any hg0 (some rb)
  generalize hz : w.heap.size = z at *
  clear h hg0
  refine (number8_yes _ bo bn bc rb g B i h0 (by omega)).mono ?_
  rintro e w1 ⟨rfl, hc1, hg1⟩
  have hL1 := hL0.kept hg1 hrbl
  have hG1 := grown_trans hG0 hg1 (fun k hk => Or.inl hk)
  clear hL0 hG0 hg1 h0
  obtain ⟨T, hT⟩ : ∃ T, Hid (T = tAt B i) := ⟨tAt B i, (rfl : _ = _)⟩
  rw [show wrap64 ((val ((B.drop i).take 8) : Nat) : Int) = T from hT.out.symm]
  have hfe := hL1.fe
  have e0 := hL1.e0
  go_wp2_with fail
  have hs2 := setCell_grown w1 (z + 1 + 1) 0 (.int .i64 T)
  have hL2 := (hL1.set (.int .i64 T)).1
  have hzr : some (z + 1 + 1) ≠ some rb := by simp; omega
  have hzg : some (z + 1 + 1) ≠ some g := by simp; omega
  have hzb : ∀ b, bo = some b → some b.block ≠ some (z + 1 + 1) := fun b hb => by have := hbz b hb; simp; omega
  have hc2 := hc1.kept hs2 hzr hzg hzb
  have hG2 := hlow hG1 hs2
  clear hL1 hc1 hs2 hG1 hfe e0
  generalize w1.setCell ⟨z + 1 + 1, 0, none⟩ (.int .i64 T) = w2 at *
  obtain ⟨KN, hKN⟩ : ∃ KN, Hid (KN = kAt B i) := ⟨kAt B i, (rfl : _ = _)⟩
  obtain ⟨VN, hVN⟩ : ∃ VN, Hid (VN = vAt B i) := ⟨vAt B i, (rfl : _ = _)⟩
  rw [← hKN.out, ← hVN.out] at hk
  have hkl : KN < 65536 := by
    rw [hKN.out]
    have h3 := val_lt ((B.drop (i + 8)).take 2)
    have h4 : 256 ^ ((B.drop (i + 8)).take 2).length ≤ 256 ^ 2 := Nat.pow_le_pow_right (by omega) (by simp; omega)
    exact Nat.lt_of_lt_of_le h3 h4
  have hvl : VN < 65536 := by
    rw [hVN.out]
    have h3 := val_lt ((B.drop (i + 10)).take 2)
    have h4 : 256 ^ ((B.drop (i + 10)).take 2).length ≤ 256 ^ 2 := Nat.pow_le_pow_right (by omega) (by simp; omega)
    exact Nat.lt_of_lt_of_le h3 h4
  have hn1 : ∀ W, Ct W bo bn bc rb g B (i + 8) → Calls Tryz.prog 203 #[.agg #[.slice bo bn bc, .pointer (some ⟨rb, 0, none⟩)]] W fun e w' => e = .returned (.int .u16 KN) ∧ Ct w' bo bn bc rb g B (i + 10) ∧ W.grownBy w' (some rb) := fun W hW => by
    rw [hKN.out]; exact number2_yes W bo bn bc rb g B (i + 8) hW (by omega)
  have hn2 : ∀ W, Ct W bo bn bc rb g B (i + 10) → Calls Tryz.prog 203 #[.agg #[.slice bo bn bc, .pointer (some ⟨rb, 0, none⟩)]] W fun e w' => e = .returned (.int .u16 VN) ∧ Ct w' bo bn bc rb g B (i + 12) ∧ W.grownBy w' (some rb) := fun W hW => by
    rw [hVN.out]; exact number2_yes W bo bn bc rb g B (i + 10) hW (by omega)
  have p0 := hL2.c0
  have p1 := hL2.c1
  have hwk : IntKind.i64.wrap (KN : Int) = (KN : Int) := IntWalk.i64_in _ (by omega)
  have hwv : IntKind.i64.wrap (VN : Int) = (VN : Int) := IntWalk.i64_in _ (by omega)
  go_region_held3 (fun w' => w'.cell? ⟨z, 0, none⟩ = some (.slice bo bn bc) ∧ w'.cell? ⟨z, 1, none⟩ = some (.pointer (some ⟨rb, 0, none⟩))) (first | exact ⟨r0, r1⟩ | exact ⟨q0, q1⟩ | exact ⟨p0, p1⟩) (first
    | (go_at_call 203; refine (hn2 _ hc3).mono ?_; rintro e w4 ⟨rfl, hc4, hg4⟩; have hL4 := hL3.kept hg4 hrbl; have r0 := hL4.c0; have r1 := hL4.c1)
    | (go_at_call 203; refine (hn1 _ (hc2.grown (grown_drewN w2 1 none))).mono ?_; rintro e w3 ⟨rfl, hc3, hg3⟩; have hL3 := (hL2.kept (grown_drewN w2 1 (some rb)) hrbl).kept hg3 hrbl; have q0 := hL3.c0; have q1 := hL3.c1))
  have hG4 := grown_trans (grown_trans (grown_trans hG2 (grown_drewN w2 1 (some rb)) (fun k hk => Or.inl hk)) hg3 (fun k hk => Or.inl hk)) hg4 (fun k hk => Or.inl hk)
  clear hL2 hL3 hc2 hc3 hg3 hg4 hG2 p0 p1 q0 q1 hn1 hn2 hwk hwv
  go_wp2_with fail
  refine (passC_yes _ bo bn bc rb g B (i + 12) KN hc4 (by omega) hpos).mono ?_
  rintro e w5 ⟨po, pc, rfl, hb5, hpo, hpc, hc5, hg5⟩
  have hL5 := hL4.kept hg5 hrbl
  have hG5 := grown_trans hG4 hg5 (fun k hk => Or.inl hk)
  have f5 := hL5.fe
  have g5 := hL5.e1
  have m0 := hL5.c0
  have m1 := hL5.c1
  clear hL4 hc4 hg5 hG4 r0 r1
  go_wp2_with fail
  have hs6 := setCell_grown w5 (z + 1 + 1) 1 (.slice po KN pc)
  have hL6 := (hL5.set (.slice po KN pc)).2.1
  have hc6 := hc5.kept hs6 hzr hzg hzb
  have hb6 := hb5.kept hs6 (fun a ha => by obtain ⟨b, hb, e⟩ := hpo a ha; rw [e]; exact hzb b hb)
  have hG6 := hlow hG5 hs6
  clear hL5 hc5 hs6 hb5 hG5 f5 g5 m0 m1
  generalize w5.setCell ⟨z + 1 + 1, 1, none⟩ (.slice po KN pc) = w6 at *
  refine (passC_yes _ bo bn bc rb g B (i + 12 + KN) VN hc6 (by omega) hpos).mono ?_
  rintro e w7 ⟨qo, qc, rfl, hb7, hqo, hqc, hc7, hg7⟩
  have hL7 := hL6.kept hg7 hrbl
  have hG7 := grown_trans hG6 hg7 (fun k hk => Or.inl hk)
  have hk7 := hb6.kept hg7 (fun a ha => by obtain ⟨b, hb, e⟩ := hpo a ha; rw [e]; have := hc7.apart b hb; simpa using this)
  have hs8 := setCell_grown w7 (z + 1 + 1) 2 (.slice qo VN qc)
  have hL8 := (hL7.set (.slice qo VN qc)).2.2
  have hc8 := hc7.kept hs8 hzr hzg hzb
  have hb8 := hb7.kept hs8 (fun a ha => by obtain ⟨b, hb, e⟩ := hqo a ha; rw [e]; exact hzb b hb)
  have hk8 := hk7.kept hs8 (fun a ha => by obtain ⟨b, hb, e⟩ := hpo a ha; rw [e]; exact hzb b hb)
  have hG8 := hlow hG7 hs8
  have f7 := hL7.fe
  have g7 := hL7.e2
  have m0 := hL7.e0
  have m1 := hL7.e1
  have m2 := hL7.d0
  have m3 := hL7.d1
  have m4 := hL7.d2
  have m5 := hL7.fd
  clear hL6 hc6 hb6 hG6 hg7 hb7 hk7 hG7
  go_wp2_with fail
  generalize w7.setCell ⟨z + 1 + 1, 2, none⟩ (.slice qo VN qc) = w8 at *
  have hz1 : ∀ i v (W : World), W.grownBy (W.setCell ⟨z + 1, i, none⟩ v) (some (z + 1)) := fun i v W => setCell_grown W (z + 1) i v
  have y1 : ((w8.setCell ⟨z + 1, 0, none⟩ (.int .i64 T)).setCell ⟨z + 1, 1, none⟩ (.slice po KN pc)).grownBy (((w8.setCell ⟨z + 1, 0, none⟩ (.int .i64 T)).setCell ⟨z + 1, 1, none⟩ (.slice po KN pc)).setCell ⟨z + 1, 2, none⟩ (.slice qo VN qc)) (some (z + 1)) := hz1 _ _ _
  have hg9 : w8.grownBy (((w8.setCell ⟨z + 1, 0, none⟩ (.int .i64 T)).setCell ⟨z + 1, 1, none⟩ (.slice po KN pc)).setCell ⟨z + 1, 2, none⟩ (.slice qo VN qc)) (some (z + 1)) := grown_trans (grown_trans (hz1 _ _ _) (hz1 _ _ _) (fun k hk => Or.inl hk)) y1 (fun k hk => Or.inl hk)
  have t0 : (((w8.setCell ⟨z + 1, 0, none⟩ (.int .i64 T)).setCell ⟨z + 1, 1, none⟩ (.slice po KN pc)).setCell ⟨z + 1, 2, none⟩ (.slice qo VN qc)).cell? ⟨z + 1, 0, none⟩ = some (.int .i64 T) := by
    rw [World.cell?_setCell_other _ _ _ _ (by simp), World.cell?_setCell_other _ _ _ _ (by simp), World.cell?_setCell_same _ _ _ hL8.d0]
  have t1 : (((w8.setCell ⟨z + 1, 0, none⟩ (.int .i64 T)).setCell ⟨z + 1, 1, none⟩ (.slice po KN pc)).setCell ⟨z + 1, 2, none⟩ (.slice qo VN qc)).cell? ⟨z + 1, 1, none⟩ = some (.slice po KN pc) := by
    rw [World.cell?_setCell_other _ _ _ _ (by simp)]
    exact World.cell?_setCell_same (u := .slice none 0 0) _ _ _ (by rw [World.cell?_setCell_other _ _ _ _ (by simp)]; exact hL8.d1)
  have t2 : (((w8.setCell ⟨z + 1, 0, none⟩ (.int .i64 T)).setCell ⟨z + 1, 1, none⟩ (.slice po KN pc)).setCell ⟨z + 1, 2, none⟩ (.slice qo VN qc)).cell? ⟨z + 1, 2, none⟩ = some (.slice qo VN qc) :=
    World.cell?_setCell_same (u := .slice none 0 0) _ _ _ (by rw [World.cell?_setCell_other _ _ _ _ (by simp), World.cell?_setCell_other _ _ _ _ (by simp)]; exact hL8.d2)
  have ur : some (z + 1) ≠ some rb := by simp; omega
  have ug : some (z + 1) ≠ some g := by simp; omega
  have ub : ∀ b, bo = some b → some b.block ≠ some (z + 1) := fun b hb => by have := hbz b hb; simp; omega
  have hc9 := hc8.kept hg9 ur ug ub
  have hb9 := hb8.kept hg9 (fun a ha => by obtain ⟨b, hb, e⟩ := hqo a ha; rw [e]; exact ub b hb)
  have hk9 := hk8.kept hg9 (fun a ha => by obtain ⟨b, hb, e⟩ := hpo a ha; rw [e]; exact ub b hb)
  have hG9 := grown_trans hG8 hg9 (fun k hk => Or.inr (by cases hk; omega))
  clear hL7 hL8 hc8 hb8 hk8 hG8 hg9 y1 hz1 hs8
  generalize (((w8.setCell ⟨z + 1, 0, none⟩ (.int .i64 T)).setCell ⟨z + 1, 1, none⟩ (.slice po KN pc)).setCell ⟨z + 1, 2, none⟩ (.slice qo VN qc)) = w9 at *
  refine bodyPost_ret (v := .agg #[.int .i64 T, .slice po KN pc, .slice qo VN qc]) (by simp [results, Tryz.results185, go_sem, t0, t1, t2]) rfl ?_
  refine ⟨⟨T, po, KN, pc, _, qo, VN, qc, _⟩, rfl, ⟨hT.out, hKN.out, hVN.out, rfl, rfl, hk9, hb9, hpc, hqc, hpo, hqo⟩, ?_, hG9⟩
  rw [← hKN.out, ← hVN.out]
  exact hc9
end Go.Proofs.YtlghcboenkglnaaGreatDoor.Rec
