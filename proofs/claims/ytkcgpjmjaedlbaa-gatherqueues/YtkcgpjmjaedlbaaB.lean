/-
  Records in memory; May, Size, Fits: the walks.
-/
import Derived.Test.YtkcgpjmjaedlbaaG0
import Derived.Test.YtkcgpjmjaedlbaaRows
import Derived.Deep.QuietTactic
import Derived.BigQuiet
import Derived.Deep.RegionWith
namespace Go.Proofs.Ytkcgpjmjaedlbaa
open Go.RowKit
set_option linter.unusedVariables false

theorem ret_int {k : IntKind} {a b : Int} (h : a = b) : Ending.returned (.int k a) = .returned (.int k b) := by rw [h]

theorem alloc_grown (w : World) (o : Obj) : w.grownBy (w.alloc o) none := World.grownBy_alloc w o none

structure Rk (w : World) (r : Rc) : Prop where
  low : -9223372036854775808 ≤ r.t
  high : r.t < 9223372036854775808
  key : Bs w r.ko r.kn r.kc r.k
  value : Bs w r.vo r.vn r.vc r.v
  kb : r.kn ≤ 140737488355328
  vb : r.vn ≤ 140737488355328

theorem Rk.grown {w w' : World} {r : Rc} (h : Rk w r) (hg : w.grownBy w' none) : Rk w' r := ⟨h.low, h.high, h.key.grown hg, h.value.grown hg, h.kb, h.vb⟩

/-- A slice of records. -/
structure Rs (w : World) (ao : Option Addr) (n cap : Nat) (l : List Rc) : Prop where
  len : l.length = n
  room : n ≤ cap
  top : cap ≤ 9223372036854775807
  nil : ao = none → cap = 0
  place : ∀ a, ao = some a → 0 < n → ∃ b o, a = ⟨b, o, none⟩ ∧ b < w.heap.size
  cells : ∀ b o, ao = some ⟨b, o, none⟩ → ∀ j r, l[j]? = some r → w.cell? ⟨b, o + j * 3, none⟩ = some (.int .i64 r.t) ∧ w.cell? ⟨b, o + j * 3 + 1, none⟩ = some (.slice r.ko r.kn r.kc) ∧ w.cell? ⟨b, o + j * 3 + 2, none⟩ = some (.slice r.vo r.vn r.vc)
  shows : ∀ r ∈ l, Rk w r

theorem Rs.grown {w w' : World} {ao : Option Addr} {n cap : Nat} {l : List Rc} (h : Rs w ao n cap l) (hg : w.grownBy w' none) : Rs w' ao n cap l :=
  ⟨h.len, h.room, h.top, h.nil, fun a ha hn => by obtain ⟨b, o, e, hb⟩ := h.place a ha hn; exact ⟨b, o, e, Nat.lt_of_lt_of_le hb hg.size⟩,
    fun b o ha j r hr => by obtain ⟨h1, h2, h3⟩ := h.cells b o ha j r hr; exact ⟨hg.cell h1 (by simp), hg.cell h2 (by simp), hg.cell h3 (by simp)⟩, fun r hr => (h.shows r hr).grown hg⟩

theorem Rs.addr {w : World} {ao : Option Addr} {n cap : Nat} {l : List Rc} (h : Rs w ao n cap l) (hn : 0 < n) : ∃ b o, ao = some ⟨b, o, none⟩ ∧ b < w.heap.size := by
  cases ao with
  | none => have := h.nil rfl; have := h.room; omega
  | some a => obtain ⟨b, o, rfl, hb⟩ := h.place a rfl hn; exact ⟨b, o, rfl, hb⟩

theorem ret_bool {a b : Bool} (h : a = b) : Ending.returned (.bool a) = .returned (.bool b) := by rw [h]

set_option maxRecDepth 100000 in
set_option maxHeartbeats 1000000 in
theorem may_any (w : World) (r : Rc) (hk : Rk w r) :
    Calls Try.prog 58 #[.agg #[.int .i64 r.t, .slice r.ko r.kn r.kc, .slice r.vo r.vn r.vc]] w fun e w' => e = .returned (.bool (mayB r.t r.kn r.vn)) ∧ w.grownBy w' none := by
  by_cases h1 : 0 ≤ r.t
  · by_cases h2 : r.t ≤ 9007199254740992
    · by_cases h3 : r.kn ≤ 256
      · have hM : Hid (mayB r.t r.kn r.vn = decide (r.vn ≤ 4096)) := by show _ = _; simp [mayB, h1, h2, h3]
        go_enter Try.func58, Try.ntmps58
        go_wp2
        go_ret
        exact ⟨ret_bool (by rw [hM.out]; exact decide_eq_decide.2 (by omega)), alloc_grown _ _⟩
      · have hM : Hid (mayB r.t r.kn r.vn = false) := by show _ = _; simp [mayB, h3]
        go_enter Try.func58, Try.ntmps58
        go_wp2
        go_ret
        exact ⟨ret_bool (by rw [hM.out]), alloc_grown _ _⟩
    · have hM : Hid (mayB r.t r.kn r.vn = false) := by show _ = _; simp [mayB, h2]
      go_enter Try.func58, Try.ntmps58
      go_wp2
      go_ret
      exact ⟨ret_bool (by rw [hM.out]), alloc_grown _ _⟩
  · have hM : Hid (mayB r.t r.kn r.vn = false) := by show _ = _; simp [mayB, h1]
    go_enter Try.func58, Try.ntmps58
    go_wp2
    go_ret
    exact ⟨ret_bool (by rw [hM.out]), alloc_grown _ _⟩

set_option maxHeartbeats 1000000 in
theorem size_any (w : World) (r : Rc) (hk : Rk w r) :
    Calls Try.prog 52 #[.agg #[.int .i64 r.t, .slice r.ko r.kn r.kc, .slice r.vo r.vn r.vc]] w fun e w' => e = .returned (.int .i64 (12 + r.kn + r.vn : Nat)) ∧ w.grownBy w' none := by
  have h1 := hk.key.room
  have h2 := hk.kb
  have h3 := hk.value.room
  have h4 := hk.vb
  go_enter Try.func52, Try.ntmps52
  go_wp2
  go_ret
  exact ⟨ret_int (by push_cast; rfl), alloc_grown _ _⟩

theorem Rs.at {w : World} {b o n cap : Nat} {l : List Rc} (h : Rs w (some ⟨b, o, none⟩) n cap l) {j : Nat} (hj : j < l.length) :
    w.cell? ⟨b, o + j * 3, none⟩ = some (.int .i64 (l[j]).t) ∧ w.cell? ⟨b, o + j * 3 + 1, none⟩ = some (.slice (l[j]).ko (l[j]).kn (l[j]).kc) ∧ w.cell? ⟨b, o + j * 3 + 2, none⟩ = some (.slice (l[j]).vo (l[j]).vn (l[j]).vc) ∧ Rk w l[j] := by
  obtain ⟨h1, h2, h3⟩ := h.cells b o rfl j l[j] (by simp [hj])
  exact ⟨h1, h2, h3, h.shows _ (List.getElem_mem hj)⟩

/-- Records of a size that can be worked with. -/
def Small (l : List Rc) : Prop := l.length ≤ 4096 ∧ ∀ r ∈ l, r.kn ≤ 140737488355328 ∧ r.vn ≤ 140737488355328

theorem szs_le {l : List Rc} (h : ∀ r ∈ l, r.kn ≤ 140737488355328 ∧ r.vn ≤ 140737488355328) : szs l ≤ l.length * 281474976710668 := by
  induction l with
  | nil => simp [szs]
  | cons r t ih =>
    have h1 := h r (List.mem_cons_self ..)
    have h2 := ih fun q hq => h q (List.mem_cons_of_mem _ hq)
    unfold szs at *
    simp
    omega

theorem Small.szs {l : List Rc} (h : Small l) (i : Nat) : szs (l.take i) ≤ 1152921504606896128 := by
  have h1 := szs_le (l := l.take i) fun r hr => h.2 r (List.mem_of_mem_take hr)
  have h2 : (l.take i).length ≤ 4096 := by have := h.1; simp; omega
  have h3 : (l.take i).length * 281474976710668 ≤ 4096 * 281474976710668 := Nat.mul_le_mul_right _ h2
  omega

theorem frozen_grown {w w' : World} {g : Nat} {row : Option Nat} (hg : w.grownBy w' row) (hl : g < w.heap.size) (hr : row ≠ some g) {i : Nat} (h : w.frozen? ⟨g, i, none⟩ = false) : w'.frozen? ⟨g, i, none⟩ = false := by
  have := hg.block g hl (fun e => hr e.symm)
  simp only [World.frozen?] at *
  rw [this]
  exact h

set_option maxRecDepth 100000 in
set_option maxHeartbeats 2000000 in
theorem add_any (w : World) (r : Rc) (g S : Nat) (hk : ∀ W, w.grownBy W (some g) → Rk W r) (hc : w.cell? ⟨g, 0, none⟩ = some (.int .i64 S)) (hfz : w.frozen? ⟨g, 0, none⟩ = false) (hgl : g < w.heap.size) (hS : S + 12 + r.kn + r.vn < 9223372036854775808) :
    Calls Try.prog 57 #[.agg #[.int .i64 r.t, .slice r.ko r.kn r.kc, .slice r.vo r.vn r.vc], .pointer (some ⟨g, 0, none⟩)] w fun e w' => e = .returned (.bool (mayR r)) ∧ w'.cell? ⟨g, 0, none⟩ = some (.int .i64 (S + (12 + r.kn + r.vn) : Nat)) ∧ w'.frozen? ⟨g, 0, none⟩ = false ∧ w.grownBy w' (some g) := by
  have hg0 := alloc_grown w (.cells #[.int .i64 r.t, .slice r.ko r.kn r.kc, .slice r.vo r.vn r.vc] 81)
  have hc0 := hg0.cell hc (by simp)
  have hf0 : (w.alloc (.cells #[.int .i64 r.t, .slice r.ko r.kn r.kc, .slice r.vo r.vn r.vc] 81)).frozen? ⟨g, 0, none⟩ = false := frozen_grown hg0 hgl (by simp) hfz
  have b0 : (w.alloc (.cells #[.int .i64 r.t, .slice r.ko r.kn r.kc, .slice r.vo r.vn r.vc] 81)).cell? ⟨w.heap.size, 0, none⟩ = some (.int .i64 r.t) := by simp
  have b1 : (w.alloc (.cells #[.int .i64 r.t, .slice r.ko r.kn r.kc, .slice r.vo r.vn r.vc] 81)).cell? ⟨w.heap.size, 1, none⟩ = some (.slice r.ko r.kn r.kc) := by simp
  have b2 : (w.alloc (.cells #[.int .i64 r.t, .slice r.ko r.kn r.kc, .slice r.vo r.vn r.vc] 81)).cell? ⟨w.heap.size, 2, none⟩ = some (.slice r.vo r.vn r.vc) := by simp
  have hgl0 : g < (w.alloc (.cells #[.int .i64 r.t, .slice r.ko r.kn r.kc, .slice r.vo r.vn r.vc] 81)).heap.size := by simp; omega
  have hne : w.heap.size ≠ g := by omega
  have hG0 := grown_any hg0 (some g)
  have hw : IntKind.i64.wrap ((S : Int) + (12 + (r.kn : Int) + (r.vn : Int))) = ((S + (12 + r.kn + r.vn) : Nat) : Int) := by rw [IntWalk.i64_in _ (by omega)]; push_cast; rfl
  clear hc hfz
  go_enter Try.func57, Try.ntmps57
  go_wp2_with fail
  generalize w.alloc (.cells #[.int .i64 r.t, .slice r.ko r.kn r.kc, .slice r.vo r.vn r.vc] 81) = w0 at *
  generalize w.heap.size = h0 at *
  have hk0 : Rk w0 r := hk _ hG0
  go_region_with ((go_at_call 52; refine (size_any _ r (hk0.grown (grown_drewN w0 1 none))).mono ?_; rintro e w2 ⟨rfl, hg2⟩; have hgd : w0.grownBy w2 none := grown_trans (grown_drewN w0 1 none) hg2 (by simp); have m0 := hgd.cell hc0 (by simp); have m1 := hgd.cell b0 (by simp); have m2 := hgd.cell b1 (by simp); have m3 := hgd.cell b2 (by simp); have hf2 := frozen_grown hgd hgl0 (by simp) hf0))
  all_goals
    rw [show ((S : Int) + (12 + (r.kn : Int) + (r.vn : Int))) = ((S + (12 + r.kn + r.vn) : Nat) : Int) by push_cast; rfl]
    have h3 := setCell_grown w2 g 0 (.int .i64 (S + (12 + r.kn + r.vn) : Nat))
    have hG3 : w.grownBy (w2.setCell ⟨g, 0, none⟩ (.int .i64 (S + (12 + r.kn + r.vn) : Nat))) (some g) := grown_trans (grown_trans hG0 (grown_any hgd (some g)) (fun k hk => Or.inl hk)) h3 (fun k hk => Or.inl hk)
    have e0 : (w2.setCell ⟨g, 0, none⟩ (.int .i64 (S + (12 + r.kn + r.vn) : Nat))).cell? ⟨g, 0, none⟩ = some (.int .i64 (S + (12 + r.kn + r.vn) : Nat)) := World.cell?_setCell_same _ _ _ m0
    have e1 := h3.cell m1 (by simpa using hne)
    have e2 := h3.cell m2 (by simpa using hne)
    have e3 := h3.cell m3 (by simpa using hne)
    have hf3 : (w2.setCell ⟨g, 0, none⟩ (.int .i64 (S + (12 + r.kn + r.vn) : Nat))).frozen? ⟨g, 0, none⟩ = false := by simpa using hf2
    have hl3 : g < (w2.setCell ⟨g, 0, none⟩ (.int .i64 (S + (12 + r.kn + r.vn) : Nat))).heap.size := Nat.lt_of_lt_of_le (Nat.lt_of_lt_of_le hgl0 hgd.size) h3.size
    clear m0 m1 m2 m3 hf2 hw hgd hg2 hc0 b0 b1 b2 hf0 h3
    generalize w2.setCell ⟨g, 0, none⟩ (.int .i64 (S + (12 + r.kn + r.vn) : Nat)) = w3 at *
    go_wp2_with fail
    refine (may_any _ r (hk _ hG3)).mono ?_
    rintro e w4 ⟨rfl, hg4⟩
    go_wp2
    go_ret
    exact ⟨rfl, hg4.cell e0 (by simp), frozen_grown hg4 hl3 (by simp) hf3, grown_trans hG3 (grown_any hg4 (some g)) (fun k hk => Or.inl hk)⟩

theorem fitsR_no {l : List Rc} {i : Nat} (h : i < l.length) (hm : mayR l[i] = false) : fitsR l = (0, 2) := by
  unfold fitsR
  rw [if_pos]
  left
  rw [List.all_eq_false]
  exact ⟨l[i], List.getElem_mem h, by simp [hm]⟩

set_option maxRecDepth 100000 in
set_option maxHeartbeats 4000000 in
theorem fits_any (w : World) (ao : Option Addr) (n cap : Nat) (l : List Rc) (ha : Rs w ao n cap l) (hs : Small l) :
    Calls Try.prog 51 #[.slice ao n cap] w fun e w' => e = .returned (.tuple #[.int .i64 (fitsR l).1, .int .i64 (fitsR l).2]) ∧ w.grownBy w' none := by
  have hlen := ha.len
  have hsl := hs.1
  have HS : Hid (Small l) := hs
  clear hs
  go_enter Try.func51, Try.ntmps51
  go_wp2_with fail
  go_loopw [7, 11] (fun _ i' wr => ∃ (i : Nat), i ≤ n ∧ i' = .int .i64 i ∧ Hid ((l.take i).all mayR = true) ∧ wr.cell? ⟨w.heap.size, 0, none⟩ = some (.int .i64 (20 + szs (l.take i) : Nat)) ∧ wr.frozen? ⟨w.heap.size, 0, none⟩ = false ∧ w.heap.size < wr.heap.size ∧ w.grownBy wr none) (fun _ i' _ => n - (intOf i').toNat)
  case atStart =>
    exact ⟨0, Nat.zero_le _, rfl, (by simp : (l.take 0).all mayR = true), by simp [szs], by simp, by simp, alloc_grown _ _⟩
  case round =>
    obtain ⟨i, hi, rfl, hm, hc, hfz, hgl, hg⟩ := hrel
    by_cases hlt : i < n
    · obtain ⟨b, o, rfl, hbl⟩ := ha.addr (by omega)
      have h1 : i < l.length := by omega
      obtain ⟨a1, a2, a3, ak⟩ := (ha.grown hg).at h1
      have hkk : ∀ W, w.grownBy W none → Rk W l[i] := fun W hW => ((ha.grown hW).at h1).2.2.2
      have hd : decide ((i : Int) < (n : Int)) = true := by simp; omega
      have hN : Hid (mayR l[i] = false → fitsR l = (0, 2)) := fitsR_no h1
      have hY : Hid (mayR l[i] = true → (l.take (i + 1)).all mayR = true) := fun h => by
        rw [List.take_succ_eq_append_getElem h1, List.all_append, hm.out]; simp [h]
      have hz := szs_snoc h1
      have hzb := HS.out.szs i
      have hb1 := HS.out.2 _ (List.getElem_mem h1)
      clear hm ak
      generalize l[i] = x at *
      generalize szs (l.take i) = Z at *
      have HZ : Hid (szs (l.take (i + 1)) = Z + (12 + x.kn + x.vn)) := hz
      clear hz
      go_wp2_with fail
      have hga := alloc_grown wr (.cells #[.int .i64 x.t, .slice x.ko x.kn x.kc, .slice x.vo x.vn x.vc] 81)
      have hGa := grown_trans hg hga (by simp)
      refine (add_any _ x w.heap.size (20 + Z) (fun W hW => hkk W (grown_trans hGa hW (fun k hk => Or.inr (by cases hk; exact Nat.le_refl _)))) (hga.cell hc (by simp)) (frozen_grown hga hgl (by simp) hfz) (Nat.lt_of_lt_of_le hgl hga.size) (by omega)).mono ?_
      rintro e w2 ⟨rfl, hc2, hfz2, hg2⟩
      have hG2 : w.grownBy w2 none := grown_trans hGa hg2 (fun k hk => Or.inr (by cases hk; exact Nat.le_refl _))
      have hl2 : w.heap.size < w2.heap.size := Nat.lt_of_lt_of_le (Nat.lt_of_lt_of_le hgl hga.size) hg2.size
      clear hc hfz hga hGa hg2 hkk a1 a2 a3 hg
      generalize hM : mayR x = M at *
      clear hM
      cases M
      · go_wp2
        go_ret2
        have h9 := hN.out (by simp)
        exact ⟨by rw [h9]; rfl, hG2⟩
      · go_wp2
        go_roundw
        case rel => exact ⟨i + 1, by omega, by go_num, hY.out (by simp), by rw [HZ.out, ← Nat.add_assoc]; exact hc2, hfz2, hl2, hG2⟩
        case measure => simp [intOf]; omega
    · obtain rfl : i = n := by omega
      have hd : decide ((i : Int) < (i : Int)) = false := by simp
      have hzb := HS.out.szs i
      have hall : Hid (l.all mayR = true) := by
        have h9 := hm.out
        rwa [List.take_of_length_le (by omega)] at h9
      have HZ : Hid (szs (l.take i) = szs l) := by show _ = _; rw [List.take_of_length_le (by omega)]
      rw [HZ.out] at hc hzb
      have HF : Hid (fitsR l = if l = [] then (0, 2) else if 256 < l.length ∨ 65536 < 20 + szs l then (0, 8) else (20 + szs l, 0)) := by
        show _ = _
        unfold fitsR
        simp [hall.out]
      generalize szs l = Z at *
      by_cases h0 : i = 0
      · subst h0
        obtain rfl : l = [] := List.eq_nil_of_length_eq_zero hlen
        clear hm HZ hall
        go_wp2
        go_ret2
        exact ⟨by rw [HF.out]; rfl, hg⟩
      · have hnil : Hid (l ≠ []) := fun e => h0 (by rw [← hlen, e]; rfl)
        have hz : ((i : Int) == 0) = false := by simp; omega
        by_cases h256 : 256 < i
        · have hd2 : decide (256 < i) = true := by simpa using h256
          go_wp2
          go_ret2
          exact ⟨by rw [HF.out, if_neg hnil.out, if_pos (Or.inl (by omega))]; rfl, hg⟩
        · have hd2 : decide (256 < i) = false := by simpa using h256
          by_cases hb : 65536 < 20 + Z
          · have hd3 : decide (65536 < 20 + Z) = true := by simpa using hb
            go_wp2
            go_ret2
            exact ⟨by rw [HF.out, if_neg hnil.out, if_pos (Or.inr hb)]; rfl, hg⟩
          · have hd3 : decide (65536 < 20 + Z) = false := by simpa using hb
            go_wp2
            go_ret2
            exact ⟨by rw [HF.out, if_neg hnil.out, if_neg (by omega)]; rfl, hg⟩

def Rc.cells (r : Rc) : List Value := [.int .i64 r.t, .slice r.ko r.kn r.kc, .slice r.vo r.vn r.vc]

def rcells (rs : List Rc) : List Value := (rs.map Rc.cells).flatten

theorem rcells_get {rs : List Rc} {j : Nat} {r : Rc} (h : rs[j]? = some r) : (rcells rs)[j * 3]? = some (.int .i64 r.t) ∧ (rcells rs)[j * 3 + 1]? = some (.slice r.ko r.kn r.kc) ∧ (rcells rs)[j * 3 + 2]? = some (.slice r.vo r.vn r.vc) := by
  induction rs generalizing j with
  | nil => simp at h
  | cons q t ih =>
    have hc : rcells (q :: t) = q.cells ++ rcells t := by simp [rcells]
    have hq : q.cells.length = 3 := rfl
    rw [hc]
    cases j with
    | zero =>
      simp at h
      subst h
      simp [Rc.cells]
    | succ j =>
      have h2 := ih (j := j) (by simpa using h)
      refine ⟨?_, ?_, ?_⟩
      · rw [List.getElem?_append_right (by omega), hq, show (j + 1) * 3 - 3 = j * 3 by omega]; exact h2.1
      · rw [List.getElem?_append_right (by omega), hq, show (j + 1) * 3 + 1 - 3 = j * 3 + 1 by omega]; exact h2.2.1
      · rw [List.getElem?_append_right (by omega), hq, show (j + 1) * 3 + 2 - 3 = j * 3 + 2 by omega]; exact h2.2.2

/-- A row of records that the call owns. -/
structure Rw (w : World) (base : Nat) (ao : Option Addr) (n cap : Nat) (rs : List Rc) : Prop where
  len : rs.length = n
  row : w.ownsRow base 81 3 (.slice ao n cap) n (rcells rs)

theorem Rw.nil (w : World) (base : Nat) : Rw w base none 0 0 [] := ⟨rfl, World.ownsRow_nil w base 81 3⟩

theorem Rw.shows {w : World} {base : Nat} {ao : Option Addr} {n cap : Nat} {rs : List Rc} (h : Rw w base ao n cap rs) (hk : ∀ r ∈ rs, Rk w r) : Rs w ao n cap rs := by
  rcases h.row.2 with ⟨hv, h0⟩ | ⟨g, c, cur, hv, hb, hg, hnc, hm, hs, ht⟩
  · cases hv
    obtain rfl : rs = [] := List.eq_nil_of_length_eq_zero h.len
    exact ⟨h.len, Nat.le_refl _, Nat.zero_le _, fun _ => rfl, fun a ha _ => (by cases ha), fun b o hb _ _ _ => (by cases hb), fun r hr => (by cases hr)⟩
  · cases hv
    have hgl : g < w.heap.size := by rcases Nat.lt_or_ge g w.heap.size with h9 | h9; exact h9; rw [Array.getElem?_eq_none h9] at hg; cases hg
    have hcell : ∀ j u, (rcells rs)[j]? = some u → w.cell? ⟨g, j, none⟩ = some u := fun j u hu => by
      have h9 := h.row.cells (g := g) rfl j u hu
      rwa [Addr.add_lit, Nat.zero_add] at h9
    refine ⟨h.len, hnc, (by unfold maxLen at hm; omega), fun e => (by cases e), fun a ha _ => ⟨g, 0, (Option.some.inj ha).symm, hgl⟩, fun b o hbo j r hr => ?_, hk⟩
    cases hbo
    obtain ⟨h1, h2, h3⟩ := rcells_get hr
    rw [Nat.zero_add]
    exact ⟨hcell _ _ h1, hcell _ _ h2, hcell _ _ h3⟩

/-- How many have not come up. -/
def left (l : Array Bool) : Nat := l.toList.countP (fun b => !b)

theorem Rw.cells {w : World} {base g n cap : Nat} {rs : List Rc} (h : Rw w base (some ⟨g, 0, none⟩) n cap rs) {j : Nat} (hj : j < rs.length) :
    w.cell? ⟨g, j * 3, none⟩ = some (.int .i64 (rs[j]).t) ∧ w.cell? ⟨g, j * 3 + 1, none⟩ = some (.slice (rs[j]).ko (rs[j]).kn (rs[j]).kc) ∧ w.cell? ⟨g, j * 3 + 2, none⟩ = some (.slice (rs[j]).vo (rs[j]).vn (rs[j]).vc) := by
  obtain ⟨h1, h2, h3⟩ := rcells_get (List.getElem?_eq_getElem hj)
  have hc : ∀ j u, (rcells rs)[j]? = some u → w.cell? ⟨g, j, none⟩ = some u := fun j u hu => by
    have h9 := h.row.cells (g := g) rfl j u hu
    rwa [Addr.add_lit, Nat.zero_add] at h9
  exact ⟨hc _ _ h1, hc _ _ h2, hc _ _ h3⟩

theorem Rw.room {w : World} {base : Nat} {ao : Option Addr} {n cap : Nat} {rs : List Rc} (h : Rw w base ao n cap rs) : n ≤ cap ∧ cap ≤ 9223372036854775807 := by
  rcases h.row.2 with ⟨hv, h0⟩ | ⟨g, c, cur, hv, _, _, hn, hm, _⟩
  · simp only [Value.slice.injEq] at hv; omega
  · simp only [Value.slice.injEq] at hv; rw [hv.2.2]; exact ⟨hn, hm⟩
end Go.Proofs.Ytkcgpjmjaedlbaa
