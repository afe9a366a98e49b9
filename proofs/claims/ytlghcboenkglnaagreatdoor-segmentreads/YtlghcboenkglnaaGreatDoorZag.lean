import Derived.Test.YtlghcboenkglnaaGreatDoorZaf
import Derived.Defers
import Derived.Recover
import Derived.Test.YtlghcboenkglnaaGreatDoorZae
import Derived.Deep.RegionWith
/-
  cut's deferred closure: its two contracts.
-/
namespace Go.Proofs.YtlghcboenkglnaaGreatDoor.Rec
open Go.Proofs.YtlghcboenkglnaaGreatDoor
open Go.RowKit
set_option linter.unusedVariables false

theorem catch_idle (p q : Addr) (w : World) :
    CallsD Tryz.prog 180 #[.pointer (some p), .pointer (some q)] .returning w fun e u' w' => e = .returned (.tuple #[]) ∧ u' = .returning ∧ w' = w := by
  refine callsD_of_wpS Tryz.func180 rfl fun c₀ cs hu => ?_
  apply wpS_seq
  apply wpS_region
  simp [wpOpsS, go_sem, recoverD, hu, Tryz.ntmps180, Exit.thenS]
  refine wpS_cond (t := false) (by simp [Act.eval, Array.replicate]) ?_
  simp only [Bool.false_eq_true, if_false]
  refine wpS_of_wp (wp_skip ?_)
  cases c₀
  simp_all [bodyPostS, results, Tryz.results180]
theorem catch_panicking (p q : Nat) (x : Int) (y : Value) (z : Int) (u : TypeId) (pv : Value) (older : List PanicEntry) (w : World) (h0 : w.cell? ⟨p, 0, none⟩ = some (.int .i64 x)) (h1 : w.cell? ⟨p, 1, none⟩ = some y) (h2 : w.cell? ⟨q, 0, none⟩ = some (.int .i64 z)) (hz : ∀ i, w.frozen? ⟨p, i, none⟩ = false) (hzq : ∀ i, w.frozen? ⟨q, i, none⟩ = false) (hpq : p ≠ q) :
    CallsD Tryz.prog 180 #[.pointer (some ⟨p, 0, none⟩), .pointer (some ⟨q, 0, none⟩)] (.panicking ({ v := .iface u pv, recovered := false } :: older)) w fun e u' w' =>
      e = .returned (.tuple #[]) ∧ u' = .panicking ({ v := .iface u pv, recovered := true } :: older) ∧ w' = ((w.setCell ⟨p, 0, none⟩ (.int .i64 0)).setCell ⟨p, 1, none⟩ (.slice none 0 0)).setCell ⟨q, 0, none⟩ (.int .i64 152) := by
  refine callsD_of_wpS Tryz.func180 rfl fun c₀ cs hu => ?_
  apply wpS_seq
  apply wpS_region
  simp [wpOpsS, go_sem, recoverD, hu, Tryz.ntmps180, Exit.thenS]
  refine wpS_cond (t := true) (by simp [Act.eval, Array.replicate]) ?_
  simp only [if_true]
  apply wpS_region
  simp [wpOpsS, go_sem, h0, h1, h2, hz, hzq, bodyPostS, results, Tryz.results180]
set_option maxHeartbeats 400000 in
theorem need_no (w : World) : Calls Tryz.prog 182 #[.bool false] w fun e w' => e = .panicked [{ v := .iface 30 (.int .i64 152), recovered := false }] ∧ w' = w := by
  go_enter Tryz.func182, Tryz.ntmps182
  go_wp2
  exact ⟨rfl, rfl, rfl⟩
end Go.Proofs.YtlghcboenkglnaaGreatDoor.Rec

/-
  Fits, measure: the walks.
-/
namespace Go.Proofs.YtlghcboenkglnaaGreatDoor.Rec
open Go.Proofs.YtlghcboenkglnaaGreatDoor
open Go.RowKit
set_option linter.unusedVariables false

/-- How many bytes the records of a list have. -/
def szs (l : List Rc) : Nat := (l.map fun r => 12 + r.kn + r.vn).sum
theorem szs_snoc {l : List Rc} {i : Nat} (h : i < l.length) : szs (l.take (i + 1)) = szs (l.take i) + (12 + (l[i]).kn + (l[i]).vn) := by
  unfold szs
  rw [List.take_succ_eq_append_getElem h, List.map_append, List.sum_append]
  simp
/-- Records of a size that can be worked with. -/
def Small (l : List Rc) : Prop := l.length ≤ 1048576 ∧ ∀ r ∈ l, r.kn ≤ 1048576 ∧ r.vn ≤ 1048576
theorem szs_le {l : List Rc} (h : ∀ r ∈ l, r.kn ≤ 1048576 ∧ r.vn ≤ 1048576) : szs l ≤ l.length * 2097164 := by
  induction l with
  | nil => simp [szs]
  | cons r t ih =>
    have h1 := h r (List.mem_cons_self ..)
    have h2 := ih fun q hq => h q (List.mem_cons_of_mem _ hq)
    unfold szs at *
    simp
    omega
theorem Small.szs {l : List Rc} (h : Small l) (i : Nat) : szs (l.take i) ≤ 2199035838464 := by
  have h1 := szs_le (l := l.take i) fun r hr => h.2 r (List.mem_of_mem_take hr)
  have h2 : (l.take i).length ≤ 1048576 := by have := h.1; simp; omega
  have h3 : (l.take i).length * 2097164 ≤ 1048576 * 2097164 := Nat.mul_le_mul_right _ h2
  omega
theorem frozen_grown {w w' : World} {g : Nat} {row : Option Nat} (hg : w.grownBy w' row) (hl : g < w.heap.size) (hr : row ≠ some g) {i : Nat} (h : w.frozen? ⟨g, i, none⟩ = false) : w'.frozen? ⟨g, i, none⟩ = false := by
  have := hg.block g hl (fun e => hr e.symm)
  simp only [World.frozen?] at *
  rw [this]
  exact h
def mayR (r : Rc) : Bool := mayB r.t r.kn r.vn
/-- What Fits answers. -/
def fitsR (l : List Rc) : Nat × Int := if l.all mayR = false ∨ l = [] then (0, 2) else if 256 < l.length ∨ 65536 < 20 + szs l then (0, 8) else (20 + szs l, 0)
set_option maxRecDepth 100000 in
set_option maxHeartbeats 2000000 in
theorem add_any (w : World) (r : Rc) (g S : Nat) (hk : ∀ W, w.grownBy W (some g) → Rk W r) (hc : w.cell? ⟨g, 0, none⟩ = some (.int .i64 S)) (hfz : w.frozen? ⟨g, 0, none⟩ = false) (hgl : g < w.heap.size) (hS : S + 12 + r.kn + r.vn < 9223372036854775808) :
    Calls Tryz.prog 154 #[.agg #[.int .i64 r.t, .slice r.ko r.kn r.kc, .slice r.vo r.vn r.vc], .pointer (some ⟨g, 0, none⟩)] w fun e w' => e = .returned (.bool (mayR r)) ∧ w'.cell? ⟨g, 0, none⟩ = some (.int .i64 (S + (12 + r.kn + r.vn) : Nat)) ∧ w'.frozen? ⟨g, 0, none⟩ = false ∧ w.grownBy w' (some g) := by
  have hg0 := alloc_grown w (.cells #[.int .i64 r.t, .slice r.ko r.kn r.kc, .slice r.vo r.vn r.vc] 148)
  have hc0 := hg0.cell hc (by simp)
  have hf0 : (w.alloc (.cells #[.int .i64 r.t, .slice r.ko r.kn r.kc, .slice r.vo r.vn r.vc] 148)).frozen? ⟨g, 0, none⟩ = false := frozen_grown hg0 hgl (by simp) hfz
  have b0 : (w.alloc (.cells #[.int .i64 r.t, .slice r.ko r.kn r.kc, .slice r.vo r.vn r.vc] 148)).cell? ⟨w.heap.size, 0, none⟩ = some (.int .i64 r.t) := by simp
  have b1 : (w.alloc (.cells #[.int .i64 r.t, .slice r.ko r.kn r.kc, .slice r.vo r.vn r.vc] 148)).cell? ⟨w.heap.size, 1, none⟩ = some (.slice r.ko r.kn r.kc) := by simp
  have b2 : (w.alloc (.cells #[.int .i64 r.t, .slice r.ko r.kn r.kc, .slice r.vo r.vn r.vc] 148)).cell? ⟨w.heap.size, 2, none⟩ = some (.slice r.vo r.vn r.vc) := by simp
  have hgl0 : g < (w.alloc (.cells #[.int .i64 r.t, .slice r.ko r.kn r.kc, .slice r.vo r.vn r.vc] 148)).heap.size := by simp; omega
  have hne : w.heap.size ≠ g := by omega
  have hG0 := grown_any hg0 (some g)
  have hw : IntKind.i64.wrap ((S : Int) + (12 + (r.kn : Int) + (r.vn : Int))) = ((S + (12 + r.kn + r.vn) : Nat) : Int) := by rw [IntWalk.i64_in _ (by omega)]; push_cast; rfl
  clear hc hfz
  go_enter Tryz.func154, Tryz.ntmps154
  go_wp2_with fail
  generalize w.alloc (.cells #[.int .i64 r.t, .slice r.ko r.kn r.kc, .slice r.vo r.vn r.vc] 148) = w0 at *
  generalize w.heap.size = h0 at *
  have hk0 : Rk w0 r := hk _ hG0
  go_region_with ((go_at_call 155; refine (size_any _ r (hk0.grown (grown_drewN w0 1 none))).mono ?_; rintro e w2 ⟨rfl, hg2⟩; have hgd : w0.grownBy w2 none := grown_trans (grown_drewN w0 1 none) hg2 (by simp); have m0 := hgd.cell hc0 (by simp); have m1 := hgd.cell b0 (by simp); have m2 := hgd.cell b1 (by simp); have m3 := hgd.cell b2 (by simp); have hf2 := frozen_grown hgd hgl0 (by simp) hf0))
  all_goals
    rw [show ((S : Int) + (12 + (r.kn : Int) + (r.vn : Int))) = ((S + (12 + r.kn + r.vn) : Nat) : Int) by push_cast; rfl]
    have h3 := setCell_grown w2 g 0 (.int .i64 (S + (12 + r.kn + r.vn) : Nat))
    have hG3 : w.grownBy (w2.setCell ⟨g, 0, none⟩ (.int .i64 (S + (12 + r.kn + r.vn) : Nat))) (some g) := grown_trans (grown_trans hG0 (grown_any hgd (some g)) (fun k hk => Or.inl hk)) h3 (fun k hk => Or.inl hk)
    have e0 : (w2.setCell ⟨g, 0, none⟩ (.int .i64 (S + (12 + r.kn + r.vn) : Nat))).cell? ⟨g, 0, none⟩ = some (.int .i64 (S + (12 + r.kn + r.vn) : Nat)) := World.cell?_setCell_same _ _ _ m0
    have e1 := h3.cell m1 (by simpa using hne)
    have e2 := h3.cell m2 (by simpa using hne)
    have e3 := h3.cell m3 (by simpa using hne)
    have hf3 : (w2.setCell ⟨g, 0, none⟩ (.int .i64 (S + (12 + r.kn + r.vn) : Nat))).frozen? ⟨g, 0, none⟩ = false := by simpa using hf2
    have hl3 : g < (w2.setCell ⟨g, 0, none⟩ (.int .i64 (S + (12 + r.kn + r.vn) : Nat))).heap.size := Nat.lt_of_lt_of_le (Nat.lt_of_lt_of_le hgl0 hgd.size) h3.size
    clear m0 m1 m2 m3 hf2 hw hgd hg2 hc0 b0 b1 b2 hf0 h3
    generalize w2.setCell ⟨g, 0, none⟩ (.int .i64 (S + (12 + r.kn + r.vn) : Nat)) = w3 at *
    go_wp2_with fail
    refine (may_any _ r (hk _ hG3)).mono ?_
    rintro e w4 ⟨rfl, hg4⟩
    go_wp2
    go_ret
    exact ⟨rfl, hg4.cell e0 (by simp), frozen_grown hg4 hl3 (by simp) hf3, grown_trans hG3 (grown_any hg4 (some g)) (fun k hk => Or.inl hk)⟩
theorem fitsR_no {l : List Rc} {i : Nat} (h : i < l.length) (hm : mayR l[i] = false) : fitsR l = (0, 2) := by
  unfold fitsR
  rw [if_pos]
  left
  rw [List.all_eq_false]
  exact ⟨l[i], List.getElem_mem h, by simp [hm]⟩
set_option maxRecDepth 100000 in
set_option maxHeartbeats 4000000 in
theorem fits_any (w : World) (ao : Option Addr) (n cap : Nat) (l : List Rc) (ha : Rs w ao n cap l) (hs : Small l) :
    Calls Tryz.prog 132 #[.slice ao n cap] w fun e w' => e = .returned (.tuple #[.int .i64 (fitsR l).1, .int .i64 (fitsR l).2]) ∧ w.grownBy w' none := by
  have hlen := ha.len
  have hsl := hs.1
  have HS : Hid (Small l) := hs
  clear hs
  go_enter Tryz.func132, Tryz.ntmps132
  go_wp2_with fail
  go_loopw [7, 11] (fun _ i' wr => ∃ (i : Nat), i ≤ n ∧ i' = .int .i64 i ∧ Hid ((l.take i).all mayR = true) ∧ wr.cell? ⟨w.heap.size, 0, none⟩ = some (.int .i64 (20 + szs (l.take i) : Nat)) ∧ wr.frozen? ⟨w.heap.size, 0, none⟩ = false ∧ w.heap.size < wr.heap.size ∧ w.grownBy wr none) (fun _ i' _ => n - (intOf i').toNat)
  case atStart =>
    exact ⟨0, Nat.zero_le _, rfl, (by simp : (l.take 0).all mayR = true), by simp [szs], by simp, by simp, alloc_grown _ _⟩
  case round =>
    obtain ⟨i, hi, rfl, hm, hc, hfz, hgl, hg⟩ := hrel
    by_cases hlt : i < n
    · obtain ⟨b, o, rfl, hbl⟩ := ha.addr (by omega)
      have h1 : i < l.length := by omega
      obtain ⟨a1, a2, a3, ak⟩ := (ha.grown hg).at h1
      have hkk : ∀ W, w.grownBy W none → Rk W l[i] := fun W hW => ((ha.grown hW).at h1).2.2.2
      have hd : decide ((i : Int) < (n : Int)) = true := by simp; omega
      have hN : Hid (mayR l[i] = false → fitsR l = (0, 2)) := fitsR_no h1
      have hY : Hid (mayR l[i] = true → (l.take (i + 1)).all mayR = true) := fun h => by
        rw [List.take_succ_eq_append_getElem h1, List.all_append, hm.out]; simp [h]
      have hz := szs_snoc h1
      have hzb := HS.out.szs i
      have hb1 := HS.out.2 _ (List.getElem_mem h1)
      clear hm ak
      generalize l[i] = x at *
      generalize szs (l.take i) = Z at *
      have HZ : Hid (szs (l.take (i + 1)) = Z + (12 + x.kn + x.vn)) := hz
      clear hz
      go_wp2_with fail
      have hga := alloc_grown wr (.cells #[.int .i64 x.t, .slice x.ko x.kn x.kc, .slice x.vo x.vn x.vc] 148)
      have hGa := grown_trans hg hga (by simp)
      refine (add_any _ x w.heap.size (20 + Z) (fun W hW => hkk W (grown_trans hGa hW (fun k hk => Or.inr (by cases hk; exact Nat.le_refl _)))) (hga.cell hc (by simp)) (frozen_grown hga hgl (by simp) hfz) (Nat.lt_of_lt_of_le hgl hga.size) (by omega)).mono ?_
      rintro e w2 ⟨rfl, hc2, hfz2, hg2⟩
      have hG2 : w.grownBy w2 none := grown_trans hGa hg2 (fun k hk => Or.inr (by cases hk; exact Nat.le_refl _))
      have hl2 : w.heap.size < w2.heap.size := Nat.lt_of_lt_of_le (Nat.lt_of_lt_of_le hgl hga.size) hg2.size
      clear hc hfz hga hGa hg2 hkk a1 a2 a3 hg
      generalize hM : mayR x = M at *
      clear hM
      cases M
      · go_wp2
        go_ret2
        have h9 := hN.out (by simp)
        exact ⟨by rw [h9]; rfl, hG2⟩
      · go_wp2
        go_roundw
        case rel => exact ⟨i + 1, by omega, by go_num, hY.out (by simp), by rw [HZ.out, ← Nat.add_assoc]; exact hc2, hfz2, hl2, hG2⟩
        case measure => simp [intOf]; omega
    · obtain rfl : i = n := by omega
      have hd : decide ((i : Int) < (i : Int)) = false := by simp
      have hzb := HS.out.szs i
      have hall : Hid (l.all mayR = true) := by
        have h9 := hm.out
        rwa [List.take_of_length_le (by omega)] at h9
      have HZ : Hid (szs (l.take i) = szs l) := by show _ = _; rw [List.take_of_length_le (by omega)]
      rw [HZ.out] at hc hzb
      have HF : Hid (fitsR l = if l = [] then (0, 2) else if 256 < l.length ∨ 65536 < 20 + szs l then (0, 8) else (20 + szs l, 0)) := by
        show _ = _
        unfold fitsR
        simp [hall.out]
      generalize szs l = Z at *
      by_cases h0 : i = 0
      · subst h0
        obtain rfl : l = [] := List.eq_nil_of_length_eq_zero hlen
        clear hm HZ hall
        go_wp2
        go_ret2
        exact ⟨by rw [HF.out]; rfl, hg⟩
      · have hnil : Hid (l ≠ []) := fun e => h0 (by rw [← hlen, e]; rfl)
        have hz : ((i : Int) == 0) = false := by simp; omega
        by_cases h256 : 256 < i
        · have hd2 : decide (256 < i) = true := by simpa using h256
          go_wp2
          go_ret2
          exact ⟨by rw [HF.out, if_neg hnil.out, if_pos (Or.inl (by omega))]; rfl, hg⟩
        · have hd2 : decide (256 < i) = false := by simpa using h256
          by_cases hb : 65536 < 20 + Z
          · have hd3 : decide (65536 < 20 + Z) = true := by simpa using hb
            go_wp2
            go_ret2
            exact ⟨by rw [HF.out, if_neg hnil.out, if_pos (Or.inr hb)]; rfl, hg⟩
          · have hd3 : decide (65536 < 20 + Z) = false := by simpa using hb
            go_wp2
            go_ret2
            exact ⟨by rw [HF.out, if_neg hnil.out, if_neg (by omega)]; rfl, hg⟩
/-- May the offsets be? -/
def offB (base : Int) (n : Nat) : Bool := decide (0 ≤ base) && decide (base ≤ 9007199254740992 - ((n : Int) - 1))
set_option maxHeartbeats 1000000 in
theorem offsetsMay_any (w : World) (base : Int) (n : Nat) (hn : n ≤ 1048576) :
    Calls Tryz.prog 133 #[.int .i64 base, .int .i64 n] w fun e w' => e = .returned (.bool (offB base n)) ∧ w' = w := by
  by_cases h1 : 0 ≤ base
  · have hM : Hid (offB base n = decide (base ≤ 9007199254740992 - ((n : Int) - 1))) := by show _ = _; simp [offB, h1]
    have hd : decide (0 ≤ base) = true := by simpa using h1
    go_enter Tryz.func133, Tryz.ntmps133
    go_wp2
    go_ret
    exact ⟨ret_bool (by rw [hM.out]), rfl⟩
  · have hM : Hid (offB base n = false) := by show _ = _; simp [offB, h1]
    have hd : decide (0 ≤ base) = false := by simpa using h1
    go_enter Tryz.func133, Tryz.ntmps133
    go_wp2
    go_ret
    exact ⟨ret_bool (by rw [hM.out]), rfl⟩
/-- What measure answers. -/
def measR (base : Int) (l : List Rc) : Nat × Int := if (fitsR l).2 = 2 ∨ offB base l.length = false then (0, 2) else fitsR l
set_option maxRecDepth 100000 in
set_option maxHeartbeats 2000000 in
theorem measure_any (w : World) (base : Int) (ao : Option Addr) (n cap : Nat) (l : List Rc) (ha : Rs w ao n cap l) (hs : Small l) :
    Calls Tryz.prog 100 #[.agg #[.int .i64 base, .slice ao n cap]] w fun e w' => e = .returned (.tuple #[.int .i64 (measR base l).1, .int .i64 (measR base l).2]) ∧ w.grownBy w' none := by
  have hlen := ha.len
  have hsl := hs.1
  have hg0 := alloc_grown w (.cells #[.int .i64 base, .slice ao n cap] 54)
  have HM : Hid (measR base l = if (fitsR l).2 = 2 ∨ offB base n = false then (0, 2) else fitsR l) := by show _ = _; unfold measR; rw [hlen]
  have b0 : (w.alloc (.cells #[.int .i64 base, .slice ao n cap] 54)).cell? ⟨w.heap.size, 0, none⟩ = some (.int .i64 base) := by simp
  have b1 : (w.alloc (.cells #[.int .i64 base, .slice ao n cap] 54)).cell? ⟨w.heap.size, 1, none⟩ = some (.slice ao n cap) := by simp
  have hoff := fun W => offsetsMay_any W base n (by omega)
  go_enter Tryz.func100, Tryz.ntmps100
  go_wp2_with fail
  refine (fits_any _ ao n cap l (ha.grown hg0) hs).mono ?_
  rintro e w2 ⟨rfl, hg2⟩
  have c0 := hg2.cell b0 (by simp)
  have c1 := hg2.cell b1 (by simp)
  have hG := grown_trans hg0 hg2 (by simp)
  clear b0 b1 hg0 hg2
  generalize hF : fitsR l = F at *
  clear hF
  obtain ⟨sz, er⟩ := F
  simp only at HM ⊢
  generalize hO : offB base n = O at *
  clear hO
  by_cases h2 : er = 2
  · subst h2
    go_wp2
    go_ret2
    exact ⟨by rw [HM.out]; rfl, hG⟩
  · have hd : (er == 2) = false := by simpa using h2
    go_wp2_with fail
    refine (hoff _).mono ?_
    rintro e w3 ⟨rfl, hw3⟩
    subst hw3
    cases O
    · have h9 : Hid (measR base l = (0, 2)) := by show _ = _; rw [HM.out]; simp
      go_wp2
      go_ret2
      exact ⟨by rw [h9.out]; rfl, hG⟩
    · have h9 : Hid (measR base l = (sz, er)) := by show _ = _; rw [HM.out]; simp [h2]
      go_wp2
      go_ret2
      exact ⟨by rw [h9.out]; rfl, hG⟩
end Go.Proofs.YtlghcboenkglnaaGreatDoor.Rec

/-
  Rows of records that the call owns: what they show; where records stand in bytes.
-/
namespace Go.Proofs.YtlghcboenkglnaaGreatDoor.Rec
open Go.Proofs.YtlghcboenkglnaaGreatDoor
open Go.RowKit
set_option linter.unusedVariables false

theorem Tryz.info148 : (Tryz.prog.info? 148).map (fun i => (i.zero, i.size, i.bytes)) = some (some (.agg #[.int .i64 0, .slice none 0 0, .slice none 0 0]), 3, 56) := by kernel_rfl
def Rc.cells (r : Rc) : List Value := [.int .i64 r.t, .slice r.ko r.kn r.kc, .slice r.vo r.vn r.vc]
def rcells (rs : List Rc) : List Value := (rs.map Rc.cells).flatten
theorem rcells_len (rs : List Rc) : (rcells rs).length = rs.length * 3 := by
  induction rs with
  | nil => rfl
  | cons r t ih =>
    unfold rcells at *
    simp only [List.map_cons, List.flatten_cons, List.length_append, List.length_cons]
    rw [ih]
    simp [Rc.cells]
    omega
theorem rcells_get {rs : List Rc} {j : Nat} {r : Rc} (h : rs[j]? = some r) : (rcells rs)[j * 3]? = some (.int .i64 r.t) ∧ (rcells rs)[j * 3 + 1]? = some (.slice r.ko r.kn r.kc) ∧ (rcells rs)[j * 3 + 2]? = some (.slice r.vo r.vn r.vc) := by
  induction rs generalizing j with
  | nil => simp at h
  | cons q t ih =>
    have hc : rcells (q :: t) = q.cells ++ rcells t := by simp [rcells]
    have hq : q.cells.length = 3 := rfl
    rw [hc]
    cases j with
    | zero =>
      simp at h
      subst h
      simp [Rc.cells]
    | succ j =>
      have h2 := ih (j := j) (by simpa using h)
      refine ⟨?_, ?_, ?_⟩
      · rw [List.getElem?_append_right (by omega), hq, show (j + 1) * 3 - 3 = j * 3 by omega]; exact h2.1
      · rw [List.getElem?_append_right (by omega), hq, show (j + 1) * 3 + 1 - 3 = j * 3 + 1 by omega]; exact h2.2.1
      · rw [List.getElem?_append_right (by omega), hq, show (j + 1) * 3 + 2 - 3 = j * 3 + 2 by omega]; exact h2.2.2
theorem rcells_one (rs : List Rc) : ∀ u ∈ rcells rs, u.oneCell' = true := by
  intro u hu
  unfold rcells at hu
  obtain ⟨l, hl, hm⟩ := List.mem_flatten.1 hu
  obtain ⟨r, _, rfl⟩ := List.mem_map.1 hl
  simp [Rc.cells] at hm
  rcases hm with rfl | rfl | rfl <;> rfl
theorem rcells_snoc (rs : List Rc) (r : Rc) : rcells (rs ++ [r]) = rcells rs ++ r.cells := by simp [rcells]
/-- A row of records that the call owns. -/
structure Rw (w : World) (base : Nat) (ao : Option Addr) (n cap : Nat) (rs : List Rc) : Prop where
  len : rs.length = n
  row : w.ownsRow base 148 3 (.slice ao n cap) n (rcells rs)
theorem Rw.nil (w : World) (base : Nat) : Rw w base none 0 0 [] := ⟨rfl, World.ownsRow_nil w base 148 3⟩
theorem Rw.from_base {w : World} {base : Nat} {ao : Option Addr} {n cap : Nat} {rs : List Rc} (h : Rw w base ao n cap rs) : ∀ k, blk ao = some k → base ≤ k ∧ k < w.heap.size := by
  intro k hk
  rcases h.row.2 with ⟨hv, _⟩ | ⟨g, c, cur, hv, hb, hg, _⟩
  · cases hv; cases hk
  · cases hv
    obtain rfl : g = k := by simpa [blk] using hk
    exact ⟨hb, by rcases Nat.lt_or_ge g w.heap.size with h9 | h9; exact h9; rw [Array.getElem?_eq_none h9] at hg; cases hg⟩
theorem Rw.shows {w : World} {base : Nat} {ao : Option Addr} {n cap : Nat} {rs : List Rc} (h : Rw w base ao n cap rs) (hk : ∀ r ∈ rs, Rk w r) : Rs w ao n cap rs := by
  rcases h.row.2 with ⟨hv, h0⟩ | ⟨g, c, cur, hv, hb, hg, hnc, hm, hs, ht⟩
  · cases hv
    obtain rfl : rs = [] := List.eq_nil_of_length_eq_zero h.len
    exact ⟨h.len, Nat.le_refl _, Nat.zero_le _, fun _ => rfl, fun a ha _ => (by cases ha), fun b o hb _ _ _ => (by cases hb), fun r hr => (by cases hr)⟩
  · cases hv
    have hgl : g < w.heap.size := by rcases Nat.lt_or_ge g w.heap.size with h9 | h9; exact h9; rw [Array.getElem?_eq_none h9] at hg; cases hg
    have hcell : ∀ j u, (rcells rs)[j]? = some u → w.cell? ⟨g, j, none⟩ = some u := fun j u hu => by
      have h9 := h.row.cells (g := g) rfl j u hu
      rwa [Addr.add_lit, Nat.zero_add] at h9
    refine ⟨h.len, hnc, (by unfold maxLen at hm; omega), fun e => (by cases e), fun a ha _ => ⟨g, 0, (Option.some.inj ha).symm, hgl⟩, fun b o hbo j r hr => ?_, hk⟩
    cases hbo
    obtain ⟨h1, h2, h3⟩ := rcells_get hr
    rw [Nat.zero_add]
    exact ⟨hcell _ _ h1, hcell _ _ h2, hcell _ _ h3⟩
theorem Rw.kept {w w' : World} {base : Nat} {ao : Option Addr} {n cap : Nat} {rs : List Rc} {row : Option Nat} (h : Rw w base ao n cap rs) (hg : w.grownBy w' row) (hne : blk ao = none ∨ blk ao ≠ row) : Rw w' base ao n cap rs :=
  ⟨h.len, h.row.kept hg (by rw [blk_own]; exact hne)⟩
theorem append_rec (w : World) (base : Nat) (ro : Option Addr) (n rc : Nat) (rs : List Rc) (h : Rw w base ro n rc rs) (r : Rc) (s : Nat) (c0 : w.cell? ⟨s, 0, none⟩ = some (.int .i64 r.t)) (c1 : w.cell? ⟨s, 1, none⟩ = some (.slice r.ko r.kn r.kc)) (c2 : w.cell? ⟨s, 2, none⟩ = some (.slice r.vo r.vn r.vc)) (hn : n ≤ 100000) (hbase : base ≤ w.heap.size) :
    ∃ ro' rc' w', (Builtin.append_ #[47, 47] 47 #[.slice ro n rc, .slice (some ⟨s, 0, none⟩) 1 1]).run Tryz.prog w = .ok (.slice ro' (n + 1) rc') w' ∧ Rw w' base ro' (n + 1) rc' (rs ++ [r]) ∧ w.grownBy w' (blk ro) := by
  obtain ⟨i, hi, hz, hzs, hz2⟩ := info_parts Tryz.info148
  obtain ⟨v', w', hr, h2, h3, _⟩ := run_append_own (P := Tryz.prog) w base 47 47 148 i _ 3 56 Tryz.underlying47 hi hz hzs hz2 rfl (by decide) _ n _ h.row ⟨s, 0, none⟩ 1 1 r.cells rfl
    (fun j u hu => by
      rw [Addr.add_lit, Nat.zero_add]
      match j, hu with
      | 0, hu => cases hu; exact c0
      | 1, hu => cases hu; exact c1
      | 2, hu => cases hu; exact c2) (fun u hu => rcells_one [r] u (by simpa [rcells] using hu)) (by unfold maxLen; omega) (by omega) hbase
  rw [← rcells_snoc] at h2
  rw [blk_own] at h3
  rcases h2.2 with ⟨hv, h0⟩ | ⟨g, c, cur, hv, _⟩
  · omega
  · subst hv
    exact ⟨_, _, w', hr, ⟨by simp [h.len], h2⟩, h3⟩
/-- append of a record, as one step of a region that draws. -/
theorem step_append_rec {ops : Array Oper} {o : Oper} {a : Act} {w : World} {K : Act → World → Prop} {Q : Exit → Act → World → Prop} {E : Prop}
    (hg : o.guard = none) (ht : o.type = 47) (s x : Operand) (hop : o.op = Op.call { callee := Callee.builtin Builtin.append, args := #[s, x], argTypes := #[47, 47] })
    (base : Nat) (ro : Option Addr) (n rc : Nat) (rs : List Rc) (hs : a.eval s = .slice ro n rc) (h : Rw w base ro n rc rs) (r : Rc) (sb : Nat) (hx : a.eval x = .slice (some ⟨sb, 0, none⟩) 1 1)
    (c0 : w.cell? ⟨sb, 0, none⟩ = some (.int .i64 r.t)) (c1 : w.cell? ⟨sb, 1, none⟩ = some (.slice r.ko r.kn r.kc)) (c2 : w.cell? ⟨sb, 2, none⟩ = some (.slice r.vo r.vn r.vc)) (hn : n ≤ 100000) (hbase : base ≤ w.heap.size)
    (hK : ∀ ro' rc' w', Rw w' base ro' (n + 1) rc' (rs ++ [r]) → w.grownBy w' (blk ro) → K (a.put o.dst (.slice ro' (n + 1) rc')) w') :
    if Region.wanted o (yielded ops a.tmps) = true then Oper.wp Tryz.prog o a w K Q else E := by
  have hw : Region.wanted o (yielded ops a.tmps) = true := by simp [Region.wanted, hg]
  rw [if_pos hw]
  obtain ⟨ro', rc', w', hr, h2, h3⟩ := append_rec w base ro n rc rs h r sb c0 c1 c2 hn hbase
  unfold Oper.wp
  simp only [execOp, hop, resolve, invoke, builtin, Sem.run_bind, Sem.run_pure, Result.andThen_ok, List.map_toArray, List.map_cons, List.map_nil, hs, hx, ht, hr]
  exact hK _ _ _ h2 h3
/-- Where the record number j begins. -/
def posAt (B : List UInt8) : Nat → Nat
  | 0 => 20
  | j + 1 => posAt B j + 12 + kAt B (posAt B j) + vAt B (posAt B j)
end Go.Proofs.YtlghcboenkglnaaGreatDoor.Rec
