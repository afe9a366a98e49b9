import Derived.Test.YtmnfdiffneobpaaM1
import Derived.Test.YtmnfdiffneobpaaK2
import Derived.Test.YtmnfdiffneobpaaD2
import Derived.Deep.DeepCutAuto
import Derived.Deep.CutRange
import Derived.Deep.CutBlock
/-
  TimesHold: the walk.
-/
namespace Go.Proofs.Ytmnfdiffneobpaa
open Go.RowKit Go.Shelf
set_option linter.unusedVariables false

/-- A number of any sign, brought into a row's places. -/
theorem into (a : Int) (n : Nat) (hn : 0 < n) : ∃ t : Int, a.tmod (n : Int) = t ∧ -(n : Int) < t ∧ t < (n : Int) := by
  refine ⟨_, rfl, ?_⟩
  have h1 := Int.lt_tmod_of_pos a (show (0 : Int) < n by omega)
  have h2 := Int.tmod_lt_of_pos a (show (0 : Int) < n by omega)
  omega
theorem into2 (v n : Nat) (hn : 0 < n) : ∃ k : Nat, (v : Int).tmod (n : Int) = (k : Int) ∧ k < n :=
  ⟨v % n, by rw [Int.tmod_eq_emod_of_nonneg (by omega)]; simp, Nat.mod_lt _ hn⟩

set_option maxRecDepth 100000 in
set_option maxHeartbeats 4000000 in
theorem timesHold_not (w : World) (bs at' tm : Int) (so : Option Addr) (n sc : Nat) (rl : List Rc) (hR : Rs w so n rl) (h : 300 < n ∨ rl.all Rc.may = false ∨ bs < 0 ∨ 1000000 < bs) :
    Calls Try.prog 5 #[.agg #[.int .i64 bs, .slice so n sc, .int .i64 at', .int .i64 tm]] w fun e w' => e = .returned (.bool true) ∧ w.grownBy w' none := by
  have ga := alloc_grown w (.cells #[.int .i64 bs, .slice so n sc, .int .i64 at', .int .i64 tm] 51)
  have k9 := World.alloc_heap_new w (.cells #[.int .i64 bs, .slice so n sc, .int .i64 at', .int .i64 tm] 51)
  have gd := grown_trans ga (grown_drew (w.alloc (.cells #[.int .i64 bs, .slice so n sc, .int .i64 at', .int .i64 tm] 51)) none) (by simp)
  have c0 := (grown_drew (w.alloc (.cells #[.int .i64 bs, .slice so n sc, .int .i64 at', .int .i64 tm] 51)) none).cell (cell_of (i := 0) (v := .int .i64 bs) k9 rfl) (by simp)
  have c1 := (grown_drew (w.alloc (.cells #[.int .i64 bs, .slice so n sc, .int .i64 at', .int .i64 tm] 51)) none).cell (cell_of (i := 1) (v := .slice so n sc) k9 rfl) (by simp)
  have c2 := (grown_drew (w.alloc (.cells #[.int .i64 bs, .slice so n sc, .int .i64 at', .int .i64 tm] 51)) none).cell (cell_of (i := 2) (v := .int .i64 at') k9 rfl) (by simp)
  have c3 := (grown_drew (w.alloc (.cells #[.int .i64 bs, .slice so n sc, .int .i64 at', .int .i64 tm] 51)) none).cell (cell_of (i := 3) (v := .int .i64 tm) k9 rfl) (by simp)
  go_enter Try.func5, Try.ntmps5
  go_wp2_with fail
  go_region_held3 (fun w' => w'.cell? ⟨w.heap.size, 0, none⟩ = some (.int .i64 bs) ∧ w'.cell? ⟨w.heap.size, 1, none⟩ = some (.slice so n sc) ∧ w'.cell? ⟨w.heap.size, 2, none⟩ = some (.int .i64 at') ∧ w'.cell? ⟨w.heap.size, 3, none⟩ = some (.int .i64 tm)) (first | exact ⟨c0, c1, c2, c3⟩ | go_keep) (fail)
  clear ga k9 c0 c1 c2 c3
  generalize (w.alloc (.cells #[.int .i64 bs, .slice so n sc, .int .i64 at', .int .i64 tm] 51)).drew = wd at *
  have hR1 := hR.grown gd
  by_cases hn : 300 < n
  · have d1 : decide ((300 : Int) < (n : Int)) = true := by simp; omega
    clear h
    have hwk := works_any wd
    go_wp2_with fail
    refine hwk.mono ?_
    rintro e w2 ⟨rfl, hg2⟩
    have hG := grown_trans gd hg2 (by simp)
    go_wp2
    go_ret
    exact ⟨rfl, hG⟩
  · have d1 : decide ((300 : Int) < (n : Int)) = false := by simp; omega
    have hma := mayAll_any so n sc rl hR1 (by omega)
    by_cases hm : rl.all Rc.may = true
    · rw [hm] at hma
      by_cases hb : bs < 0
      · have d2 : decide (bs < 0) = true := by simpa using hb
        clear h hm
        go_wp2_with fail
        refine hma.mono ?_
        rintro e w1 ⟨rfl, hg1⟩
        have hwk := works_any w1
        go_wp2_with fail
        refine hwk.mono ?_
        rintro e w2 ⟨rfl, hg2⟩
        have hG := grown_trans (grown_trans gd hg1 (by simp)) hg2 (by simp)
        go_wp2
        go_ret
        exact ⟨rfl, hG⟩
      · have d2 : decide (bs < 0) = false := by simpa using hb
        have d3 : decide (1000000 < bs) = true := by
          rcases h with h | h | h | h
          · omega
          · rw [hm] at h; cases h
          · omega
          · simpa using h
        clear h hm
        go_wp2_with fail
        refine hma.mono ?_
        rintro e w1 ⟨rfl, hg1⟩
        have hwk := works_any w1
        go_wp2_with fail
        refine hwk.mono ?_
        rintro e w2 ⟨rfl, hg2⟩
        have hG := grown_trans (grown_trans gd hg1 (by simp)) hg2 (by simp)
        go_wp2
        go_ret
        exact ⟨rfl, hG⟩
    · have hm' : rl.all Rc.may = false := by simpa using hm
      rw [hm'] at hma
      clear h hm hm'
      go_wp2_with fail
      refine hma.mono ?_
      rintro e w1 ⟨rfl, hg1⟩
      have hwk := works_any w1
      go_wp2_with fail
      refine hwk.mono ?_
      rintro e w2 ⟨rfl, hg2⟩
      have hG := grown_trans (grown_trans gd hg1 (by simp)) hg2 (by simp)
      go_wp2
      go_ret
      exact ⟨rfl, hG⟩
end Go.Proofs.Ytmnfdiffneobpaa

/-
  TimesHold: the walk of records that may be.
-/
namespace Go.Proofs.Ytmnfdiffneobpaa
open Go.RowKit Go.Shelf
set_option linter.unusedVariables false

theorem Rs.take {w : World} {so : Option Addr} {n : Nat} {l : List Rc} (h : Rs w so n l) (k : Nat) (hk : k ≤ n) : Rs w so k (l.take k) :=
  ⟨by have := h.len; simp; omega, fun hp => by
    obtain ⟨g, o, rfl, hc⟩ := h.pl (by omega)
    exact ⟨g, o, rfl, fun j r hr => hc j r (by rw [List.getElem?_take] at hr; split at hr; exact hr; cases hr)⟩⟩
theorem Rs.drop {w : World} {g o n : Nat} {l : List Rc} (h : Rs w (some ⟨g, o, none⟩) n l) (k : Nat) (hk : k ≤ n) (o' : Nat) (ho : n - k = 0 ∨ o' = o + k * 3) : Rs w (some ⟨g, o', none⟩) (n - k) (l.drop k) :=
  ⟨by have := h.len; simp; omega, fun hp => by
    obtain ⟨g', o2, he, hc⟩ := h.pl (by omega)
    cases he
    obtain rfl : o' = o + k * 3 := by omega
    refine ⟨g, _, rfl, fun j r hr => ?_⟩
    rw [List.getElem?_drop] at hr
    have := hc (k + j) r hr
    rw [show o + (k + j) * 3 = o + k * 3 + j * 3 by omega] at this
    exact this⟩


theorem put_fresh {w : World} {b : Nat} {bs : Int} (h : Xd w b none 0 bs bs []) (hb0 : 0 ≤ bs) {n : Nat} (hb1 : bs + (n : Int) ≤ 9007199254740993) (so : Option Addr) (n' sc : Nat) (rl : List Rc) (hR : Rs w so n' rl) (hn : n' = n ∧ n ≤ 60000) (hmay : ∀ r ∈ rl, r.may = true) (ts : List Int) (hts : rl.map Rc.t = ts) :
    Calls Try.prog 21 #[.pointer (some ⟨b, 0, none⟩), .slice so n' sc] w fun e w' => ∃ ro' rc', e = .returned (.int .i64 0) ∧ Xd w' b ro' rc' bs (bs + (n : Int)) (riseL (-1) bs ts) ∧ Fresh w ro' ∧ Chg w w' (fun k => k = b) := by
  obtain ⟨rfl, hn⟩ := hn
  have hl : ts.length = n' := by rw [← hts, List.length_map, hR.len]
  have hp := put_any h hb0 (by omega) so n' sc rl hR (fun _ _ e => by cases e) (by omega) hmay
  rw [hts, put_new (by omega) (by omega), hl] at hp
  refine hp.mono ?_
  rintro e w' ⟨ro', rc', rfl, hX, hN, hC⟩
  refine ⟨ro', rc', rfl, hX, ?_, hC.mono fun k _ e => e.elim id (fun e => by cases e)⟩
  rcases hN with ⟨rfl, rfl⟩ | hN
  · intro k e; cases e
  · exact hN



/-- The bytes of an index of records, and what is opened of them. -/
theorem bytes_rise {w : World} {b : Nat} {ro : Option Addr} {rc n : Nat} {bs : Int} {ts : List Int} (hb0 : 0 ≤ bs) (hb1 : bs ≤ 1000000) (hn : n ≤ 300) (htl : ts.length = n) (htsb : ∀ t ∈ ts, 0 ≤ t ∧ t ≤ 9007199254740992) (h : Xd w b ro rc bs (bs + (n : Int)) (riseL (-1) bs ts)) :
    ∃ bl m, Hid (bl.length = m) ∧ 20 ≤ m ∧ m ≤ 10000 ∧ openOk bl ∧ (∀ j, j < bl.length → openMore (bl.take j)) ∧ (∀ b (V : World) (ro : Option Addr) (rc : Nat), Xd V b ro rc (n8 bl 0) (n8 bl 8) (scanL bl (cntB bl)) → Xd V b ro rc bs (bs + (n : Int)) (riseL (-1) bs ts)) ∧
      Calls Try.prog 12 #[.pointer (some ⟨b, 0, none⟩)] w fun e w' => ∃ bo bc, e = .returned (.slice bo m bc) ∧ Ow w' w.heap.size 5 bo m bc bl ∧ w.grownBy w' none := by
  have hfew := riseL_len (-1) bs ts
  have hgood := rise_good (a := bs) (ts := ts) hb0 (by omega) htsb
  have hok := rise_ok (a := bs) (ts := ts) hb0 (by omega) htsb
  rw [htl] at hok
  generalize riseL (-1) bs ts = L at *
  obtain ⟨B, rfl⟩ : ∃ B : Nat, bs = (B : Int) := ⟨bs.toNat, by omega⟩
  rw [show (B : Int) + (n : Int) = ((B + n : Nat) : Int) by omega] at h hok ⊢
  have hile := iby_len B (B + n) L
  refine ⟨iby B (B + n) L, _, rfl, by omega, by omega, iby_ok hgood (by omega) (by omega) (by omega) hok, fun j hj => iby_more (by omega) hj, fun b V ro rc h => ?_, bytes_any h (by omega) (by omega) hgood (by omega)⟩
  rw [iby_n0 _ _ _ (by omega), iby_n8 _ _ _ (by omega), iby_cnt _ _ _ (by omega), iby_scan _ _ _ hgood] at h
  exact h


set_option maxRecDepth 100000 in
set_option maxHeartbeats 8000000 in
theorem timesHold_ne (k N1 v : Nat) (t : Int) (w : World) (bs at' tm : Int) (g o : Nat) (n sc : Nat) (rl : List Rc) (hR : Rs w (some ⟨g, o, none⟩) n rl) (hgl : g < w.heap.size) (hsc : n ≤ sc) (hst : sc ≤ maxLen) (h1 : n ≤ 300) (h2 : rl.all Rc.may = true) (hb0 : 0 ≤ bs) (hb1 : bs ≤ 1000000) (hN1 : N1 = n + 1) (ht : at'.tmod (N1 : Int) = t) (ht1 : -(N1 : Int) < t) (ht2 : t < (N1 : Int)) (hv : t + (n : Int) + 1 = (v : Int)) (hk : (v : Int).tmod (N1 : Int) = (k : Int)) (hkn : k < N1) (hck : ¬ sc = k) :
    Calls Try.prog 5 #[.agg #[.int .i64 bs, .slice (some ⟨g, o, none⟩) n sc, .int .i64 at', .int .i64 tm]] w fun e w' => e = .returned (.bool true) ∧ w.grownBy w' none := by
  have ga := alloc_grown w (.cells #[.int .i64 bs, .slice (some ⟨g, o, none⟩) n sc, .int .i64 at', .int .i64 tm] 51)
  have k9 := World.alloc_heap_new w (.cells #[.int .i64 bs, .slice (some ⟨g, o, none⟩) n sc, .int .i64 at', .int .i64 tm] 51)
  have gd := grown_trans ga (grown_drew (w.alloc (.cells #[.int .i64 bs, .slice (some ⟨g, o, none⟩) n sc, .int .i64 at', .int .i64 tm] 51)) none) (by simp)
  have c0 := (grown_drew (w.alloc (.cells #[.int .i64 bs, .slice (some ⟨g, o, none⟩) n sc, .int .i64 at', .int .i64 tm] 51)) none).cell (cell_of (i := 0) (v := .int .i64 bs) k9 rfl) (by simp)
  have c1 := (grown_drew (w.alloc (.cells #[.int .i64 bs, .slice (some ⟨g, o, none⟩) n sc, .int .i64 at', .int .i64 tm] 51)) none).cell (cell_of (i := 1) (v := .slice (some ⟨g, o, none⟩) n sc) k9 rfl) (by simp)
  have c2 := (grown_drew (w.alloc (.cells #[.int .i64 bs, .slice (some ⟨g, o, none⟩) n sc, .int .i64 at', .int .i64 tm] 51)) none).cell (cell_of (i := 2) (v := .int .i64 at') k9 rfl) (by simp)
  have c3 := (grown_drew (w.alloc (.cells #[.int .i64 bs, .slice (some ⟨g, o, none⟩) n sc, .int .i64 at', .int .i64 tm] 51)) none).cell (cell_of (i := 3) (v := .int .i64 tm) k9 rfl) (by simp)
  obtain ⟨ts, hts⟩ : ∃ ts, rl.map Rc.t = ts := ⟨_, rfl⟩
  have hlen := hR.len
  have htl : ts.length = n := by rw [← hts, List.length_map, hlen]
  have hmay : ∀ r ∈ rl, r.may = true := List.all_eq_true.1 h2
  have htsb : ∀ t ∈ ts, 0 ≤ t ∧ t ≤ 9007199254740992 := fun t ht => by
    rw [← hts] at ht
    obtain ⟨r, hr, rfl⟩ := List.mem_map.1 ht
    have := hmay r hr
    simp only [Rc.may, Bool.and_eq_true, decide_eq_true_eq] at this
    exact ⟨this.1, this.2.1⟩
  have htn : ∀ t ∈ ts, (-1 : Int) < t := fun t ht => by have := htsb t ht; omega
  have e1 : (n : Int) + 1 = (N1 : Int) := by omega
  have d0 : ¬ (N1 : Int) = 0 := by omega
  have d1 : decide ((300 : Int) < (n : Int)) = false := by simp; omega
  have d2 : decide (bs < 0) = false := by simp; omega
  have d3 : decide (1000000 < bs) = false := by simp; omega
  have hkl : k ≤ n := by omega
  have hts' : Hid _ := hts
  have htl' : Hid _ := htl
  have hN1' : Hid _ := hN1
  have hlen' : Hid _ := hlen
  clear hts htl hN1 hlen hkn
  go_enter Try.func5, Try.ntmps5
  go_wp2_with fail
  go_region_held3 (fun w' => w'.cell? ⟨w.heap.size, 0, none⟩ = some (.int .i64 bs) ∧ w'.cell? ⟨w.heap.size, 1, none⟩ = some (.slice (some ⟨g, o, none⟩) n sc) ∧ w'.cell? ⟨w.heap.size, 2, none⟩ = some (.int .i64 at') ∧ w'.cell? ⟨w.heap.size, 3, none⟩ = some (.int .i64 tm)) (first | exact ⟨c0, c1, c2, c3⟩ | go_keep) (fail)
  clear ga k9 c0 c1 c2 c3
  generalize (w.alloc (.cells #[.int .i64 bs, .slice (some ⟨g, o, none⟩) n sc, .int .i64 at', .int .i64 tm] 51)).drew = wd at *
  have hR0 := hR.grown gd
  have hma := mayAll_any (some ⟨g, o, none⟩) n sc rl hR0 (by omega)
  rw [h2] at hma
  go_wp2_with fail
  refine hma.mono ?_
  rintro e w1 ⟨rfl, hg1⟩
  clear hma
  have hG1 := grown_trans gd hg1 (by simp)
  have hR1 := hR0.grown hg1
  have hnx := new_ok w1 bs hb0 (by omega)
  go_wp2_with fail
  refine hnx.mono ?_
  rintro e w2 ⟨rfl, hX2, hg2⟩
  clear hnx
  have hR2 := hR1.grown hg2
  have hG2 := grown_trans hG1 hg2 (by simp)
  have hpx : w1.heap.size < w2.heap.size := hX2.lt
  have hwpx : w.heap.size ≤ w1.heap.size := hG1.size
  generalize w1.heap.size = px at *
  have hna := new_ok w2 bs hb0 (by omega)
  go_wp2_with fail
  refine hna.mono ?_
  rintro e w3 ⟨rfl, hA3, hg3⟩
  clear hna
  have hR3 := hR2.grown hg3
  have hX3 := hX2.grown hg3
  have hG3 := grown_trans hG2 hg3 (by simp)
  have hpa : w2.heap.size < w3.heap.size := hA3.lt
  generalize w2.heap.size = pa at *
  have hnb := new_ok w3 (bs + (k : Int)) (by omega) (by omega)
  go_wp2_with fail
  refine hnb.mono ?_
  rintro e w4 ⟨rfl, hB4, hg4⟩
  clear hnb
  have hR4 := hR3.grown hg4
  have hX4 := hX3.grown hg4
  have hA4 := hA3.grown hg4
  have hG4 := grown_trans hG3 hg4 (by simp)
  have hpb : w3.heap.size < w4.heap.size := hB4.lt
  generalize w3.heap.size = pb at *
  have hn4 := num_any w4 0
  go_wp2_with fail
  refine hn4.mono ?_
  rintro e w4' ⟨rfl, rfl⟩
  go_wp2_with fail
  refine hn4.mono ?_
  rintro e w4' ⟨rfl, rfl⟩
  go_wp2_with fail
  refine hn4.mono ?_
  rintro e w4' ⟨rfl, rfl⟩
  clear hn4
  have hpu := put_fresh hX4 hb0 (n := n) (by omega) (some ⟨g, o, none⟩) n sc rl hR4 ⟨rfl, by omega⟩ hmay ts hts'.out
  go_wp2_with fail
  refine hpu.mono ?_
  rintro e w5 ⟨rx, cx, rfl, hX5, hF5, hC5⟩
  clear hpu
  have hR5 := hR4.chg hC5 (fun q e2 => by cases e2; show ¬ g = px; omega)
  have hA5 := hA4.chg hC5 (show ¬ pa = px by omega) (fun q e2 => by cases e2)
  have hB5 := hB4.chg hC5 (show ¬ pb = px by omega) (fun q e2 => by cases e2)
  have hG5 : w.grownBy w5 none := ((Chg.of_grown hG4 _).trans hC5).grown (fun q hq e2 => by show False; change q = px at e2; omega)
  have hn5 := num_any w5 0
  go_wp2_with fail
  refine hn5.mono ?_
  rintro e w5' ⟨rfl, rfl⟩
  clear hn5
  have i1 : (0 : Int) ≤ (k : Int) := by omega
  have i2 : (k : Int) ≤ (sc : Int) := by omega
  have i3 : (k : Int) ≤ (n : Int) := by omega
  have i4 : (n : Int) ≤ (sc : Int) := by omega
  have hpu := put_fresh hA5 hb0 (n := k) (by omega) (some ⟨g, o, none⟩) k sc (rl.take k) (hR5.take k hkl) ⟨rfl, by omega⟩ (fun r hr => hmay r (List.mem_of_mem_take hr)) (ts.take k) (by rw [List.map_take, hts'.out])
  go_wp2_with fail
  refine hpu.mono ?_
  rintro e w6 ⟨ra, ca, rfl, hA6, hF6, hC6⟩
  clear hpu
  have hR6 := hR5.chg hC6 (fun q e2 => by cases e2; show ¬ g = pa; omega)
  have hB6 := hB5.chg hC6 (show ¬ pb = pa by omega) (fun q e2 => by cases e2)
  have hxa : blk rx ≠ some pa := hX5.sw.not64 hA5.ix (by decide)
  have hX6 := hX5.chg hC6 (show ¬ px = pa by omega) (fun q e2 => by show ¬ q = pa; intro e3; exact hxa (e3 ▸ e2))
  have hG6 : w.grownBy w6 none := ((Chg.of_grown hG5 _).trans hC6).grown (fun q hq e2 => by show False; change q = pa at e2; omega)
  have hn6 := num_any w6 0
  go_wp2_with fail
  refine hn6.mono ?_
  rintro e w6' ⟨rfl, rfl⟩
  clear hn6
  have hpu := put_fresh hB6 (by omega) (n := n - k) (by omega) (some ⟨g, o + k * 3, none⟩) (n - k) (sc - k) (rl.drop k) (by rw [show ((n - k) : Nat) = n - k by omega]; exact hR6.drop k hkl _ (by omega)) ⟨by omega, by omega⟩ (fun r hr => hmay r (List.mem_of_mem_drop hr)) (ts.drop k) (by rw [List.map_drop, hts'.out])
  rw [show bs + (k : Int) + ((n - k : Nat) : Int) = bs + (n : Int) by omega] at hpu
  go_wp2_with fail
  refine hpu.mono ?_
  rintro e w7 ⟨rb, cb, rfl, hB7, hF7, hC7⟩
  clear hpu
  have hR7 := hR6.chg hC7 (fun q e2 => by cases e2; show ¬ g = pb; omega)
  have hxb : blk rx ≠ some pb := hX6.sw.not64 hB6.ix (by decide)
  have hX7 := hX6.chg hC7 (show ¬ px = pb by omega) (fun q e2 => by show ¬ q = pb; intro e3; exact hxb (e3 ▸ e2))
  have hab : blk ra ≠ some pb := hA6.sw.not64 hB6.ix (by decide)
  have hA7 := hA6.chg hC7 (show ¬ pa = pb by omega) (fun q e2 => by show ¬ q = pb; intro e3; exact hab (e3 ▸ e2))
  have hG7 : w.grownBy w7 none := ((Chg.of_grown hG6 _).trans hC7).grown (fun q hq e2 => by show False; change q = pb at e2; omega)
  have hfar : ∀ q, blk ra = some q → blk rb ≠ some q := fun q e1 e2 => by
    have h8 := hA6.rlt q e1
    have h9 := hF7 q e2
    omega
  have hfar2 : ∀ q, blk ra = some q → blk rx ≠ some q := fun q e1 e2 => by
    have h8 := hX5.rlt q e2
    have h9 := hF6 q e1
    omega
  have hra : ∀ q, blk ra = some q → w.heap.size ≤ q := fun q e1 => by
    have h8 := hG5.size
    have h9 := hF6 q e1
    omega
  have hn7 := num_any w7 0
  go_wp2_with fail
  refine hn7.mono ?_
  rintro e w7' ⟨rfl, rfl⟩
  clear hn7
  have hsx := rise_srt (-1) bs ts
  obtain ⟨fo, fb, hfr⟩ : ∃ fo fb, findR (riseL (-1) bs ts) tm = (fo, fb) := ⟨_, _, rfl⟩
  have hfi := find_any hX7 hsx tm
  rw [hfr] at hfi
  replace hfr : Hid _ := hfr
  go_wp2_with fail
  refine hfi.mono ?_
  rintro e w8 ⟨rfl, hg8⟩
  clear hfi
  have hR8 := hR7.grown hg8
  have hX8 := hX7.grown hg8
  have hA8 := hA7.grown hg8
  have hB8 := hB7.grown hg8
  have hG8 := grown_trans hG7 hg8 (by simp)
  clear hR0 hR1 hR2 hR3 hR4 hR5 hR6 hR7 hX2 hX3 hX4 hX5 hX6 hX7 hA3 hA4 hA5 hA6 hA7 hB4 hB5 hB6 hB7 hG1 hG2 hG3 hG4 hG5 hG6 hG7 hg1 hg2 hg3 hg4 hF5 hF6 hF7 hC5 hC6 hC7 hg8
  go_wp2_with fail
  go_loopw [16, 17] (fun v16 v17 wr => wr = w8 ∧ ∃ (j : Nat) (z f : Int), v16 = .int .i64 f ∧ v17 = .int .i64 z ∧ Hid (z = (j : Int) - 1) ∧ j ≤ n ∧ Fst tm ts j f) (fun _ v17 _ => (intOf v17 + 1).toNat)
  case atStart => exact ⟨rfl, n, (n : Int) - 1, -1, rfl, by go_num, rfl, Nat.le_refl _, by have := Fst.start tm ts; rw [htl'.out] at this; exact this⟩
  case round =>
    obtain ⟨rfl, j, z, f, rfl, rfl, hz, hj, hF⟩ := hrel
    cases j with
    | succ i =>
      obtain rfl : z = (i : Int) := by have := hz.out; omega
      have d4 : decide ((0 : Int) ≤ (i : Int)) = true := by simp
      obtain ⟨r, hr⟩ : ∃ r, rl[i]? = some r := ⟨_, List.getElem?_eq_getElem (by have := hlen'.out; omega)⟩
      obtain ⟨g', o', he, hcs⟩ := hR8.pl (by omega)
      cases he
      obtain ⟨q0, q1, q2⟩ := hcs i r hr
      have hil : i < ts.length := by have := htl'.out; omega
      have htr : ts[i] = r.t := by
        have h9 : ts[i]? = some r.t := by rw [← hts'.out, List.getElem?_map, hr]; rfl
        rw [List.getElem?_eq_getElem hil] at h9
        exact Option.some.inj h9
      have j1 : (0 : Int) ≤ (i : Int) := by omega
      have j2 : (i : Int) < (n : Int) := by omega
      by_cases hq : tm ≤ r.t
      · have d5 : decide (tm ≤ r.t) = true := by simpa using hq
        have hF2 : Fst tm ts i (i : Int) := Fst.yes (f := 0) hil (by rw [htr]; exact hq)
        clear hF hcs hr htr hq hz
        go_wp2
        go_roundw
        case rel => exact ⟨trivial, i, (i : Int) - 1, (i : Int), rfl, by go_num, rfl, by omega, hF2⟩
        case measure => simp [intOf]
      · have d5 : decide (tm ≤ r.t) = false := by simpa using hq
        have hF2 : Fst tm ts i f := hF.no hil (by rw [htr]; exact hq)
        clear hF hcs hr htr hq hz
        go_wp2
        go_roundw
        case rel => exact ⟨trivial, i, (i : Int) - 1, f, rfl, by go_num, rfl, by omega, hF2⟩
        case measure => simp [intOf]
    | zero =>
      obtain rfl : z = -1 := by have := hz.out; omega
      clear hz
      have d6 : decide ((0 : Int) ≤ -1) = false := by decide
      have hff := find_fst (a := bs) htn hF
      have hff' : Hid ((fb = false ∧ f = -1) ∨ (fb = true ∧ 0 ≤ f ∧ f < (n : Int) ∧ fo = bs + f ∧ ∃ t, (riseL (-1) bs ts).find? (fun s => decide (tm ≤ s.p)) = some ⟨bs + f, t⟩)) := by
        rw [hfr.out, htl'.out] at hff
        rcases hff with ⟨rfl, h9⟩ | ⟨h7, h8, h9, h10⟩
        · cases h9; exact .inl ⟨rfl, rfl⟩
        · cases h9; exact .inr ⟨rfl, h7, h8, rfl, h10⟩
      clear hff hF hfr
      go_upto_region 17 with fail
      go_cut [164] from 151 to 164 (fun v wx => v = .bool false ∧ wx = wr)
      case first =>
        rcases hff'.out with ⟨rfl, rfl⟩ | ⟨rfl, f0, f1, rfl, _⟩
        · clear hff'
          go_wp2
          go_meet
          case rel => exact ⟨rfl, rfl⟩
        · clear hff'
          have d7 : decide ((0 : Int) ≤ f) = true := by simpa using f0
          go_wp2
          go_meet
          case rel => exact ⟨rfl, rfl⟩
      case rest =>
        obtain ⟨rfl, hwc⟩ := hcut
        replace hwc := hwc.symm
        subst hwc
        go_upto_if 165 with fail
        go_cut [18, 19, 20, 21] from 165 to 193 (fun _ _ _ _ wx => wr.grownBy wx none)
        case first =>
          rcases hff'.out with ⟨rfl, rfl⟩ | ⟨rfl, f0, f1, rfl, t2, hft⟩
          · clear hff'
            go_wp2
            go_meet
            case rel => exact grown_refl _ _
          · have hu1 := until_at hsx hft
            have hu2 := until_ahead hsx hft
            obtain ⟨u, ub, hu⟩ : ∃ u ub, untilR (riseL (-1) bs ts) (bs + f - 1) = (u, ub) := ⟨_, _, rfl⟩
            have hun := until_any hX8 hsx (bs + f)
            rw [hu1.1] at hun
            rw [hu] at hu2
            have hu2' : Hid _ := hu2
            have d8 : decide (t2 < tm) = false := by have := hu1.2; simpa using this
            clear hff' hft hu1 hu2
            go_wp2_with fail
            refine hun.mono ?_
            rintro e w9 ⟨rfl, hg9⟩
            clear hun
            have hun := until_any (hX8.grown hg9) hsx (bs + f - 1)
            rw [hu] at hun
            clear hu
            go_wp2_with fail
            refine hun.mono ?_
            rintro e w10 ⟨rfl, hg10⟩
            clear hun
            have hg910 := grown_trans hg9 hg10 (by simp)
            cases ub
            · go_wp2
              go_meet
              case rel => exact hg910
            · have d9 : decide (tm ≤ u) = false := by
                rcases hu2'.out with h | h
                · cases h
                · simpa using h
              go_wp2
              go_meet
              case rel => exact hg910
        case rest =>
          have hG9 := grown_trans hG8 hcut (by simp)
          have hX9 := hX8.grown hcut
          have hA9 := hA8.grown hcut
          have hB9 := hB8.grown hcut
          have hco := copy_any hX9
          clear hR8 hX8 hA8 hB8 hG8 hcut hff'
          go_wp2_with fail
          refine hco.mono ?_
          rintro e w10 ⟨pc, rc, cc, rfl, hP10, hpc, hFc, hg10⟩
          clear hco
          have hX10 := hX9.grown hg10
          have hA10 := hA9.grown hg10
          have hB10 := hB9.grown hg10
          have hG10 := grown_trans hG9 hg10 (by simp)
          have hxl := hX9.lt
          have hal := hA9.lt
          have hbl := hB9.lt
          have hcu := cut_ok hP10 hsx (bs + (k : Int)) (by omega) (by omega)
          rw [rise_cut] at hcu
          go_wp2_with fail
          refine hcu.mono ?_
          rintro e w11 ⟨rfl, ⟨cc2, hP11⟩, hC11⟩
          clear hcu
          have hX11 := hX10.chg hC11 (show ¬ px = pc by omega) (fun q e2 => by show ¬ q = pc; have := hX9.rlt q e2; omega)
          have hA11 := hA10.chg hC11 (show ¬ pa = pc by omega) (fun q e2 => by show ¬ q = pc; have := hA9.rlt q e2; omega)
          have hB11 := hB10.chg hC11 (show ¬ pb = pc by omega) (fun q e2 => by show ¬ q = pc; have := hB9.rlt q e2; omega)
          have hG11 : w.grownBy w11 none := ((Chg.of_grown hG10 _).trans hC11).grown (fun q hq e2 => by show False; change q = pc at e2; have := hG9.size; omega)
          have hn11 := num_any w11 0
          go_wp2_with fail
          refine hn11.mono ?_
          rintro e w11' ⟨rfl, rfl⟩
          clear hn11
          have hsa := same_yes hP11 hA11
          go_wp2_with fail
          refine hsa.mono ?_
          rintro e w12 ⟨rfl, hg12⟩
          clear hsa
          have hX12 := hX11.grown hg12
          have hA12 := hA11.grown hg12
          have hB12 := hB11.grown hg12
          have hG12 := grown_trans hG11 hg12 (by simp)
          have htk : ((ts.take k).length : Int) = (k : Int) := by have := htl'.out; simp; omega
          have hjn := rise_join bs (ts.take k) (ts.drop k)
          rw [htk, List.take_append_drop] at hjn
          have hfew := riseL_len (-1) bs ts
          have htl9 := htl'.out
          have hjo := join_ok hA12 hB12 (show pa ≠ pb by omega) hfar (rise_srt _ _ _) (by omega) (by rw [hjn]; omega)
          rw [hjn] at hjo
          clear hjn htk htl9 hX9 hX10 hX11 hA9 hA10 hA11 hB9 hB10 hB11 hg10 hC11 hG10 hG9 hG11 hg12 hP10 hP11
          go_wp2_with fail
          refine hjo.mono ?_
          rintro e w13 ⟨rfl, ra2, ca2, hA13, hN13, hC13⟩
          clear hjo
          have hxar : blk ra ≠ some px := hA12.sw.not64 hX12.ix (by decide)
          have hxa2 : blk rx ≠ some pa := hX12.sw.not64 hA12.ix (by decide)
          have hX13 := hX12.chg hC13 (fun e2 => by rcases e2 with e2 | e2; omega; exact hxar e2) (fun q e1 e2 => by
            rcases e2 with e2 | e2
            · exact hxa2 (e2 ▸ e1)
            · exact hfar2 q e2 e1)
          have hG13 : w.grownBy w13 none := ((Chg.of_grown hG12 _).trans hC13).grown (fun q hq e2 => by
            rcases e2 with e2 | e2
            · omega
            · have := hra q e2; omega)
          have hn13 := num_any w13 0
          go_wp2_with fail
          refine hn13.mono ?_
          rintro e w13' ⟨rfl, rfl⟩
          clear hn13
          have hsa := same_yes hA13 hX13
          go_wp2_with fail
          refine hsa.mono ?_
          rintro e w14 ⟨rfl, hg14⟩
          clear hsa
          have hX14 := hX13.grown hg14
          have hG14 := grown_trans hG13 hg14 (by simp)
          obtain ⟨bl, m, hm, hm1, hm2, hiok, himo, hopen', hby⟩ := bytes_rise hb0 (by omega) h1 htl'.out htsb hX14
          clear hA13 hA12 hX12 hX13 hC13 hN13 hB12 hfew
          go_wp2_with fail
          refine hby.mono ?_
          rintro e w15 ⟨bo, bc, rfl, hO15, hg15⟩
          clear hby
          have hX15 := hX14.grown hg15
          have hG15 := grown_trans hG14 hg15 (by simp)
          obtain ⟨gb, rfl, _, _⟩ := hO15.addr (by omega)
          have hS15 := hO15.shows
          have hroom := hS15.room
          obtain ⟨t', ht', ht1', ht2'⟩ := into at' m (by omega)
          obtain ⟨v', hv'⟩ : ∃ v : Nat, t' + (m : Int) = (v : Int) := ⟨(t' + (m : Int)).toNat, by omega⟩
          obtain ⟨y, hy, hyn⟩ := into2 v' m (by omega)
          have d10 : ((m : Int) == 0) = false := by simp; omega
          have d11 : ¬ (m : Int) = 0 := by omega
          have i5 : (0 : Int) ≤ (y : Int) := by omega
          have i6 : (y : Int) ≤ (bc : Int) := by omega
          have hop := open_any w15 (some ⟨gb, 0, none⟩) y bc (bl.take y) (hS15.take y (by omega)) (by omega)
          have hmo := himo y (by have := hm.out; omega)
          go_wp2_with fail
          refine hop.mono ?_
          rintro e w16 ⟨hg16, hor⟩
          clear hop
          have he : e = .returned (.tuple #[.pointer none, .int .i64 111]) := by
            rcases hor with ⟨_, h9⟩ | ⟨h9, _⟩ | ⟨h9, _⟩
            · exact h9
            · exact absurd hmo h9
            · exact absurd hmo (open_not_more h9)
          subst he
          clear hor hmo himo
          have hX16 := hX15.grown hg16
          have hG16 := grown_trans hG15 hg16 (by simp)
          have hop := open_any w16 (some ⟨gb, 0, none⟩) m bc bl (hS15.grown hg16) (by omega)
          go_wp2_with fail
          refine hop.mono ?_
          rintro e w17 ⟨hg17, hor⟩
          clear hop
          have he : ∃ b ro rc, e = .returned (.tuple #[.pointer (some ⟨b, 0, none⟩), .int .i64 0]) ∧ Xd w17 b ro rc bs (bs + (n : Int)) (riseL (-1) bs ts) := by
            rcases hor with ⟨h9, _⟩ | ⟨_, h9, _⟩ | ⟨_, b, ro, rc, h9, h10, _⟩
            · exact absurd h9 (open_not_more hiok)
            · exact absurd hiok h9
            · exact ⟨b, ro, rc, h9, hopen' _ _ _ _ h10⟩
          obtain ⟨pz, rz, cz, rfl, hZ17⟩ := he
          clear hor hiok hopen'
          have hX17 := hX16.grown hg17
          have hG17 := grown_trans hG16 hg17 (by simp)
          have hn17 := num_any w17 111
          go_wp2_with fail
          refine hn17.mono ?_
          rintro e w17' ⟨rfl, rfl⟩
          clear hn17
          have hn17 := num_any w17' 0
          go_wp2_with fail
          refine hn17.mono ?_
          rintro e w17'' ⟨rfl, rfl⟩
          clear hn17
          have hsa := same_yes hZ17 hX17
          go_wp2_with fail
          refine hsa.mono ?_
          rintro e w18 ⟨rfl, hg18⟩
          clear hsa
          have hwk := works_any w18
          have hG18 := grown_trans hG17 hg18 (by simp)
          go_wp2_with fail
          refine hwk.mono ?_
          rintro e w19 ⟨rfl, hg19⟩
          clear hwk
          have hG19 := grown_trans hG18 hg19 (by simp)
          go_wp2
          go_ret
          exact ⟨rfl, hG19⟩

set_option maxRecDepth 100000 in
set_option maxHeartbeats 8000000 in
theorem timesHold_eq (k N1 v : Nat) (t : Int) (w : World) (bs at' tm : Int) (g o : Nat) (n : Nat) (rl : List Rc) (hR : Rs w (some ⟨g, o, none⟩) n rl) (hgl : g < w.heap.size) (hsc : n ≤ k) (hst : k ≤ maxLen) (h1 : n ≤ 300) (h2 : rl.all Rc.may = true) (hb0 : 0 ≤ bs) (hb1 : bs ≤ 1000000) (hN1 : N1 = n + 1) (ht : at'.tmod (N1 : Int) = t) (ht1 : -(N1 : Int) < t) (ht2 : t < (N1 : Int)) (hv : t + (n : Int) + 1 = (v : Int)) (hk : (v : Int).tmod (N1 : Int) = (k : Int)) (hkn : k < N1) :
    Calls Try.prog 5 #[.agg #[.int .i64 bs, .slice (some ⟨g, o, none⟩) n k, .int .i64 at', .int .i64 tm]] w fun e w' => e = .returned (.bool true) ∧ w.grownBy w' none := by
  have ga := alloc_grown w (.cells #[.int .i64 bs, .slice (some ⟨g, o, none⟩) n k, .int .i64 at', .int .i64 tm] 51)
  have k9 := World.alloc_heap_new w (.cells #[.int .i64 bs, .slice (some ⟨g, o, none⟩) n k, .int .i64 at', .int .i64 tm] 51)
  have gd := grown_trans ga (grown_drew (w.alloc (.cells #[.int .i64 bs, .slice (some ⟨g, o, none⟩) n k, .int .i64 at', .int .i64 tm] 51)) none) (by simp)
  have c0 := (grown_drew (w.alloc (.cells #[.int .i64 bs, .slice (some ⟨g, o, none⟩) n k, .int .i64 at', .int .i64 tm] 51)) none).cell (cell_of (i := 0) (v := .int .i64 bs) k9 rfl) (by simp)
  have c1 := (grown_drew (w.alloc (.cells #[.int .i64 bs, .slice (some ⟨g, o, none⟩) n k, .int .i64 at', .int .i64 tm] 51)) none).cell (cell_of (i := 1) (v := .slice (some ⟨g, o, none⟩) n k) k9 rfl) (by simp)
  have c2 := (grown_drew (w.alloc (.cells #[.int .i64 bs, .slice (some ⟨g, o, none⟩) n k, .int .i64 at', .int .i64 tm] 51)) none).cell (cell_of (i := 2) (v := .int .i64 at') k9 rfl) (by simp)
  have c3 := (grown_drew (w.alloc (.cells #[.int .i64 bs, .slice (some ⟨g, o, none⟩) n k, .int .i64 at', .int .i64 tm] 51)) none).cell (cell_of (i := 3) (v := .int .i64 tm) k9 rfl) (by simp)
  obtain ⟨ts, hts⟩ : ∃ ts, rl.map Rc.t = ts := ⟨_, rfl⟩
  have hlen := hR.len
  have htl : ts.length = n := by rw [← hts, List.length_map, hlen]
  have hmay : ∀ r ∈ rl, r.may = true := List.all_eq_true.1 h2
  have htsb : ∀ t ∈ ts, 0 ≤ t ∧ t ≤ 9007199254740992 := fun t ht => by
    rw [← hts] at ht
    obtain ⟨r, hr, rfl⟩ := List.mem_map.1 ht
    have := hmay r hr
    simp only [Rc.may, Bool.and_eq_true, decide_eq_true_eq] at this
    exact ⟨this.1, this.2.1⟩
  have htn : ∀ t ∈ ts, (-1 : Int) < t := fun t ht => by have := htsb t ht; omega
  have e1 : (n : Int) + 1 = (N1 : Int) := by omega
  have d0 : ¬ (N1 : Int) = 0 := by omega
  have d1 : decide ((300 : Int) < (n : Int)) = false := by simp; omega
  have d2 : decide (bs < 0) = false := by simp; omega
  have d3 : decide (1000000 < bs) = false := by simp; omega
  have hkl : k ≤ n := by omega
  have hts' : Hid _ := hts
  have htl' : Hid _ := htl
  have hN1' : Hid _ := hN1
  have hlen' : Hid _ := hlen
  clear hts htl hN1 hlen hkn
  go_enter Try.func5, Try.ntmps5
  go_wp2_with fail
  go_region_held3 (fun w' => w'.cell? ⟨w.heap.size, 0, none⟩ = some (.int .i64 bs) ∧ w'.cell? ⟨w.heap.size, 1, none⟩ = some (.slice (some ⟨g, o, none⟩) n k) ∧ w'.cell? ⟨w.heap.size, 2, none⟩ = some (.int .i64 at') ∧ w'.cell? ⟨w.heap.size, 3, none⟩ = some (.int .i64 tm)) (first | exact ⟨c0, c1, c2, c3⟩ | go_keep) (fail)
  clear ga k9 c0 c1 c2 c3
  generalize (w.alloc (.cells #[.int .i64 bs, .slice (some ⟨g, o, none⟩) n k, .int .i64 at', .int .i64 tm] 51)).drew = wd at *
  have hR0 := hR.grown gd
  have hma := mayAll_any (some ⟨g, o, none⟩) n k rl hR0 (by omega)
  rw [h2] at hma
  go_wp2_with fail
  refine hma.mono ?_
  rintro e w1 ⟨rfl, hg1⟩
  clear hma
  have hG1 := grown_trans gd hg1 (by simp)
  have hR1 := hR0.grown hg1
  have hnx := new_ok w1 bs hb0 (by omega)
  go_wp2_with fail
  refine hnx.mono ?_
  rintro e w2 ⟨rfl, hX2, hg2⟩
  clear hnx
  have hR2 := hR1.grown hg2
  have hG2 := grown_trans hG1 hg2 (by simp)
  have hpx : w1.heap.size < w2.heap.size := hX2.lt
  have hwpx : w.heap.size ≤ w1.heap.size := hG1.size
  generalize w1.heap.size = px at *
  have hna := new_ok w2 bs hb0 (by omega)
  go_wp2_with fail
  refine hna.mono ?_
  rintro e w3 ⟨rfl, hA3, hg3⟩
  clear hna
  have hR3 := hR2.grown hg3
  have hX3 := hX2.grown hg3
  have hG3 := grown_trans hG2 hg3 (by simp)
  have hpa : w2.heap.size < w3.heap.size := hA3.lt
  generalize w2.heap.size = pa at *
  have hnb := new_ok w3 (bs + (k : Int)) (by omega) (by omega)
  go_wp2_with fail
  refine hnb.mono ?_
  rintro e w4 ⟨rfl, hB4, hg4⟩
  clear hnb
  have hR4 := hR3.grown hg4
  have hX4 := hX3.grown hg4
  have hA4 := hA3.grown hg4
  have hG4 := grown_trans hG3 hg4 (by simp)
  have hpb : w3.heap.size < w4.heap.size := hB4.lt
  generalize w3.heap.size = pb at *
  have hn4 := num_any w4 0
  go_wp2_with fail
  refine hn4.mono ?_
  rintro e w4' ⟨rfl, rfl⟩
  go_wp2_with fail
  refine hn4.mono ?_
  rintro e w4' ⟨rfl, rfl⟩
  go_wp2_with fail
  refine hn4.mono ?_
  rintro e w4' ⟨rfl, rfl⟩
  clear hn4
  have hpu := put_fresh hX4 hb0 (n := n) (by omega) (some ⟨g, o, none⟩) n k rl hR4 ⟨rfl, by omega⟩ hmay ts hts'.out
  go_wp2_with fail
  refine hpu.mono ?_
  rintro e w5 ⟨rx, cx, rfl, hX5, hF5, hC5⟩
  clear hpu
  have hR5 := hR4.chg hC5 (fun q e2 => by cases e2; show ¬ g = px; omega)
  have hA5 := hA4.chg hC5 (show ¬ pa = px by omega) (fun q e2 => by cases e2)
  have hB5 := hB4.chg hC5 (show ¬ pb = px by omega) (fun q e2 => by cases e2)
  have hG5 : w.grownBy w5 none := ((Chg.of_grown hG4 _).trans hC5).grown (fun q hq e2 => by show False; change q = px at e2; omega)
  have hn5 := num_any w5 0
  go_wp2_with fail
  refine hn5.mono ?_
  rintro e w5' ⟨rfl, rfl⟩
  clear hn5
  have i1 : (0 : Int) ≤ (k : Int) := by omega
  have i2 : (k : Int) ≤ (k : Int) := by omega
  have i3 : (k : Int) ≤ (n : Int) := by omega
  have i4 : (n : Int) ≤ (k : Int) := by omega
  have hpu := put_fresh hA5 hb0 (n := k) (by omega) (some ⟨g, o, none⟩) k k (rl.take k) (hR5.take k hkl) ⟨rfl, by omega⟩ (fun r hr => hmay r (List.mem_of_mem_take hr)) (ts.take k) (by rw [List.map_take, hts'.out])
  go_wp2_with fail
  refine hpu.mono ?_
  rintro e w6 ⟨ra, ca, rfl, hA6, hF6, hC6⟩
  clear hpu
  have hR6 := hR5.chg hC6 (fun q e2 => by cases e2; show ¬ g = pa; omega)
  have hB6 := hB5.chg hC6 (show ¬ pb = pa by omega) (fun q e2 => by cases e2)
  have hxa : blk rx ≠ some pa := hX5.sw.not64 hA5.ix (by decide)
  have hX6 := hX5.chg hC6 (show ¬ px = pa by omega) (fun q e2 => by show ¬ q = pa; intro e3; exact hxa (e3 ▸ e2))
  have hG6 : w.grownBy w6 none := ((Chg.of_grown hG5 _).trans hC6).grown (fun q hq e2 => by show False; change q = pa at e2; omega)
  have hn6 := num_any w6 0
  go_wp2_with fail
  refine hn6.mono ?_
  rintro e w6' ⟨rfl, rfl⟩
  clear hn6
  have hpu := put_fresh hB6 (by omega) (n := n - k) (by omega) (some ⟨g, o, none⟩) 0 0 (rl.drop k) (by rw [show (0 : Nat) = n - k by omega]; exact hR6.drop k hkl _ (by omega)) ⟨by omega, by omega⟩ (fun r hr => hmay r (List.mem_of_mem_drop hr)) (ts.drop k) (by rw [List.map_drop, hts'.out])
  rw [show bs + (k : Int) + ((n - k : Nat) : Int) = bs + (n : Int) by omega] at hpu
  go_wp2_with fail
  refine hpu.mono ?_
  rintro e w7 ⟨rb, cb, rfl, hB7, hF7, hC7⟩
  clear hpu
  have hR7 := hR6.chg hC7 (fun q e2 => by cases e2; show ¬ g = pb; omega)
  have hxb : blk rx ≠ some pb := hX6.sw.not64 hB6.ix (by decide)
  have hX7 := hX6.chg hC7 (show ¬ px = pb by omega) (fun q e2 => by show ¬ q = pb; intro e3; exact hxb (e3 ▸ e2))
  have hab : blk ra ≠ some pb := hA6.sw.not64 hB6.ix (by decide)
  have hA7 := hA6.chg hC7 (show ¬ pa = pb by omega) (fun q e2 => by show ¬ q = pb; intro e3; exact hab (e3 ▸ e2))
  have hG7 : w.grownBy w7 none := ((Chg.of_grown hG6 _).trans hC7).grown (fun q hq e2 => by show False; change q = pb at e2; omega)
  have hfar : ∀ q, blk ra = some q → blk rb ≠ some q := fun q e1 e2 => by
    have h8 := hA6.rlt q e1
    have h9 := hF7 q e2
    omega
  have hfar2 : ∀ q, blk ra = some q → blk rx ≠ some q := fun q e1 e2 => by
    have h8 := hX5.rlt q e2
    have h9 := hF6 q e1
    omega
  have hra : ∀ q, blk ra = some q → w.heap.size ≤ q := fun q e1 => by
    have h8 := hG5.size
    have h9 := hF6 q e1
    omega
  have hn7 := num_any w7 0
  go_wp2_with fail
  refine hn7.mono ?_
  rintro e w7' ⟨rfl, rfl⟩
  clear hn7
  have hsx := rise_srt (-1) bs ts
  obtain ⟨fo, fb, hfr⟩ : ∃ fo fb, findR (riseL (-1) bs ts) tm = (fo, fb) := ⟨_, _, rfl⟩
  have hfi := find_any hX7 hsx tm
  rw [hfr] at hfi
  replace hfr : Hid _ := hfr
  go_wp2_with fail
  refine hfi.mono ?_
  rintro e w8 ⟨rfl, hg8⟩
  clear hfi
  have hR8 := hR7.grown hg8
  have hX8 := hX7.grown hg8
  have hA8 := hA7.grown hg8
  have hB8 := hB7.grown hg8
  have hG8 := grown_trans hG7 hg8 (by simp)
  clear hR0 hR1 hR2 hR3 hR4 hR5 hR6 hR7 hX2 hX3 hX4 hX5 hX6 hX7 hA3 hA4 hA5 hA6 hA7 hB4 hB5 hB6 hB7 hG1 hG2 hG3 hG4 hG5 hG6 hG7 hg1 hg2 hg3 hg4 hF5 hF6 hF7 hC5 hC6 hC7 hg8
  go_wp2_with fail
  go_loopw [16, 17] (fun v16 v17 wr => wr = w8 ∧ ∃ (j : Nat) (z f : Int), v16 = .int .i64 f ∧ v17 = .int .i64 z ∧ Hid (z = (j : Int) - 1) ∧ j ≤ n ∧ Fst tm ts j f) (fun _ v17 _ => (intOf v17 + 1).toNat)
  case atStart => exact ⟨rfl, n, (n : Int) - 1, -1, rfl, by go_num, rfl, Nat.le_refl _, by have := Fst.start tm ts; rw [htl'.out] at this; exact this⟩
  case round =>
    obtain ⟨rfl, j, z, f, rfl, rfl, hz, hj, hF⟩ := hrel
    cases j with
    | succ i =>
      obtain rfl : z = (i : Int) := by have := hz.out; omega
      have d4 : decide ((0 : Int) ≤ (i : Int)) = true := by simp
      obtain ⟨r, hr⟩ : ∃ r, rl[i]? = some r := ⟨_, List.getElem?_eq_getElem (by have := hlen'.out; omega)⟩
      obtain ⟨g', o', he, hcs⟩ := hR8.pl (by omega)
      cases he
      obtain ⟨q0, q1, q2⟩ := hcs i r hr
      have hil : i < ts.length := by have := htl'.out; omega
      have htr : ts[i] = r.t := by
        have h9 : ts[i]? = some r.t := by rw [← hts'.out, List.getElem?_map, hr]; rfl
        rw [List.getElem?_eq_getElem hil] at h9
        exact Option.some.inj h9
      have j1 : (0 : Int) ≤ (i : Int) := by omega
      have j2 : (i : Int) < (n : Int) := by omega
      by_cases hq : tm ≤ r.t
      · have d5 : decide (tm ≤ r.t) = true := by simpa using hq
        have hF2 : Fst tm ts i (i : Int) := Fst.yes (f := 0) hil (by rw [htr]; exact hq)
        clear hF hcs hr htr hq hz
        go_wp2
        go_roundw
        case rel => exact ⟨trivial, i, (i : Int) - 1, (i : Int), rfl, by go_num, rfl, by omega, hF2⟩
        case measure => simp [intOf]
      · have d5 : decide (tm ≤ r.t) = false := by simpa using hq
        have hF2 : Fst tm ts i f := hF.no hil (by rw [htr]; exact hq)
        clear hF hcs hr htr hq hz
        go_wp2
        go_roundw
        case rel => exact ⟨trivial, i, (i : Int) - 1, f, rfl, by go_num, rfl, by omega, hF2⟩
        case measure => simp [intOf]
    | zero =>
      obtain rfl : z = -1 := by have := hz.out; omega
      clear hz
      have d6 : decide ((0 : Int) ≤ -1) = false := by decide
      have hff := find_fst (a := bs) htn hF
      have hff' : Hid ((fb = false ∧ f = -1) ∨ (fb = true ∧ 0 ≤ f ∧ f < (n : Int) ∧ fo = bs + f ∧ ∃ t, (riseL (-1) bs ts).find? (fun s => decide (tm ≤ s.p)) = some ⟨bs + f, t⟩)) := by
        rw [hfr.out, htl'.out] at hff
        rcases hff with ⟨rfl, h9⟩ | ⟨h7, h8, h9, h10⟩
        · cases h9; exact .inl ⟨rfl, rfl⟩
        · cases h9; exact .inr ⟨rfl, h7, h8, rfl, h10⟩
      clear hff hF hfr
      go_upto_region 17 with fail
      go_cut [164] from 151 to 164 (fun v wx => v = .bool false ∧ wx = wr)
      case first =>
        rcases hff'.out with ⟨rfl, rfl⟩ | ⟨rfl, f0, f1, rfl, _⟩
        · clear hff'
          go_wp2
          go_meet
          case rel => exact ⟨rfl, rfl⟩
        · clear hff'
          have d7 : decide ((0 : Int) ≤ f) = true := by simpa using f0
          go_wp2
          go_meet
          case rel => exact ⟨rfl, rfl⟩
      case rest =>
        obtain ⟨rfl, hwc⟩ := hcut
        replace hwc := hwc.symm
        subst hwc
        go_upto_if 165 with fail
        go_cut [18, 19, 20, 21] from 165 to 193 (fun _ _ _ _ wx => wr.grownBy wx none)
        case first =>
          rcases hff'.out with ⟨rfl, rfl⟩ | ⟨rfl, f0, f1, rfl, t2, hft⟩
          · clear hff'
            go_wp2
            go_meet
            case rel => exact grown_refl _ _
          · have hu1 := until_at hsx hft
            have hu2 := until_ahead hsx hft
            obtain ⟨u, ub, hu⟩ : ∃ u ub, untilR (riseL (-1) bs ts) (bs + f - 1) = (u, ub) := ⟨_, _, rfl⟩
            have hun := until_any hX8 hsx (bs + f)
            rw [hu1.1] at hun
            rw [hu] at hu2
            have hu2' : Hid _ := hu2
            have d8 : decide (t2 < tm) = false := by have := hu1.2; simpa using this
            clear hff' hft hu1 hu2
            go_wp2_with fail
            refine hun.mono ?_
            rintro e w9 ⟨rfl, hg9⟩
            clear hun
            have hun := until_any (hX8.grown hg9) hsx (bs + f - 1)
            rw [hu] at hun
            clear hu
            go_wp2_with fail
            refine hun.mono ?_
            rintro e w10 ⟨rfl, hg10⟩
            clear hun
            have hg910 := grown_trans hg9 hg10 (by simp)
            cases ub
            · go_wp2
              go_meet
              case rel => exact hg910
            · have d9 : decide (tm ≤ u) = false := by
                rcases hu2'.out with h | h
                · cases h
                · simpa using h
              go_wp2
              go_meet
              case rel => exact hg910
        case rest =>
          have hG9 := grown_trans hG8 hcut (by simp)
          have hX9 := hX8.grown hcut
          have hA9 := hA8.grown hcut
          have hB9 := hB8.grown hcut
          have hco := copy_any hX9
          clear hR8 hX8 hA8 hB8 hG8 hcut hff'
          go_wp2_with fail
          refine hco.mono ?_
          rintro e w10 ⟨pc, rc, cc, rfl, hP10, hpc, hFc, hg10⟩
          clear hco
          have hX10 := hX9.grown hg10
          have hA10 := hA9.grown hg10
          have hB10 := hB9.grown hg10
          have hG10 := grown_trans hG9 hg10 (by simp)
          have hxl := hX9.lt
          have hal := hA9.lt
          have hbl := hB9.lt
          have hcu := cut_ok hP10 hsx (bs + (k : Int)) (by omega) (by omega)
          rw [rise_cut] at hcu
          go_wp2_with fail
          refine hcu.mono ?_
          rintro e w11 ⟨rfl, ⟨cc2, hP11⟩, hC11⟩
          clear hcu
          have hX11 := hX10.chg hC11 (show ¬ px = pc by omega) (fun q e2 => by show ¬ q = pc; have := hX9.rlt q e2; omega)
          have hA11 := hA10.chg hC11 (show ¬ pa = pc by omega) (fun q e2 => by show ¬ q = pc; have := hA9.rlt q e2; omega)
          have hB11 := hB10.chg hC11 (show ¬ pb = pc by omega) (fun q e2 => by show ¬ q = pc; have := hB9.rlt q e2; omega)
          have hG11 : w.grownBy w11 none := ((Chg.of_grown hG10 _).trans hC11).grown (fun q hq e2 => by show False; change q = pc at e2; have := hG9.size; omega)
          have hn11 := num_any w11 0
          go_wp2_with fail
          refine hn11.mono ?_
          rintro e w11' ⟨rfl, rfl⟩
          clear hn11
          have hsa := same_yes hP11 hA11
          go_wp2_with fail
          refine hsa.mono ?_
          rintro e w12 ⟨rfl, hg12⟩
          clear hsa
          have hX12 := hX11.grown hg12
          have hA12 := hA11.grown hg12
          have hB12 := hB11.grown hg12
          have hG12 := grown_trans hG11 hg12 (by simp)
          have htk : ((ts.take k).length : Int) = (k : Int) := by have := htl'.out; simp; omega
          have hjn := rise_join bs (ts.take k) (ts.drop k)
          rw [htk, List.take_append_drop] at hjn
          have hfew := riseL_len (-1) bs ts
          have htl9 := htl'.out
          have hjo := join_ok hA12 hB12 (show pa ≠ pb by omega) hfar (rise_srt _ _ _) (by omega) (by rw [hjn]; omega)
          rw [hjn] at hjo
          clear hjn htk htl9 hX9 hX10 hX11 hA9 hA10 hA11 hB9 hB10 hB11 hg10 hC11 hG10 hG9 hG11 hg12 hP10 hP11
          go_wp2_with fail
          refine hjo.mono ?_
          rintro e w13 ⟨rfl, ra2, ca2, hA13, hN13, hC13⟩
          clear hjo
          have hxar : blk ra ≠ some px := hA12.sw.not64 hX12.ix (by decide)
          have hxa2 : blk rx ≠ some pa := hX12.sw.not64 hA12.ix (by decide)
          have hX13 := hX12.chg hC13 (fun e2 => by rcases e2 with e2 | e2; omega; exact hxar e2) (fun q e1 e2 => by
            rcases e2 with e2 | e2
            · exact hxa2 (e2 ▸ e1)
            · exact hfar2 q e2 e1)
          have hG13 : w.grownBy w13 none := ((Chg.of_grown hG12 _).trans hC13).grown (fun q hq e2 => by
            rcases e2 with e2 | e2
            · omega
            · have := hra q e2; omega)
          have hn13 := num_any w13 0
          go_wp2_with fail
          refine hn13.mono ?_
          rintro e w13' ⟨rfl, rfl⟩
          clear hn13
          have hsa := same_yes hA13 hX13
          go_wp2_with fail
          refine hsa.mono ?_
          rintro e w14 ⟨rfl, hg14⟩
          clear hsa
          have hX14 := hX13.grown hg14
          have hG14 := grown_trans hG13 hg14 (by simp)
          obtain ⟨bl, m, hm, hm1, hm2, hiok, himo, hopen', hby⟩ := bytes_rise hb0 (by omega) h1 htl'.out htsb hX14
          clear hA13 hA12 hX12 hX13 hC13 hN13 hB12 hfew
          go_wp2_with fail
          refine hby.mono ?_
          rintro e w15 ⟨bo, bc, rfl, hO15, hg15⟩
          clear hby
          have hX15 := hX14.grown hg15
          have hG15 := grown_trans hG14 hg15 (by simp)
          obtain ⟨gb, rfl, _, _⟩ := hO15.addr (by omega)
          have hS15 := hO15.shows
          have hroom := hS15.room
          obtain ⟨t', ht', ht1', ht2'⟩ := into at' m (by omega)
          obtain ⟨v', hv'⟩ : ∃ v : Nat, t' + (m : Int) = (v : Int) := ⟨(t' + (m : Int)).toNat, by omega⟩
          obtain ⟨y, hy, hyn⟩ := into2 v' m (by omega)
          have d10 : ((m : Int) == 0) = false := by simp; omega
          have d11 : ¬ (m : Int) = 0 := by omega
          have i5 : (0 : Int) ≤ (y : Int) := by omega
          have i6 : (y : Int) ≤ (bc : Int) := by omega
          have hop := open_any w15 (some ⟨gb, 0, none⟩) y bc (bl.take y) (hS15.take y (by omega)) (by omega)
          have hmo := himo y (by have := hm.out; omega)
          go_wp2_with fail
          refine hop.mono ?_
          rintro e w16 ⟨hg16, hor⟩
          clear hop
          have he : e = .returned (.tuple #[.pointer none, .int .i64 111]) := by
            rcases hor with ⟨_, h9⟩ | ⟨h9, _⟩ | ⟨h9, _⟩
            · exact h9
            · exact absurd hmo h9
            · exact absurd hmo (open_not_more h9)
          subst he
          clear hor hmo himo
          have hX16 := hX15.grown hg16
          have hG16 := grown_trans hG15 hg16 (by simp)
          have hop := open_any w16 (some ⟨gb, 0, none⟩) m bc bl (hS15.grown hg16) (by omega)
          go_wp2_with fail
          refine hop.mono ?_
          rintro e w17 ⟨hg17, hor⟩
          clear hop
          have he : ∃ b ro rc, e = .returned (.tuple #[.pointer (some ⟨b, 0, none⟩), .int .i64 0]) ∧ Xd w17 b ro rc bs (bs + (n : Int)) (riseL (-1) bs ts) := by
            rcases hor with ⟨h9, _⟩ | ⟨_, h9, _⟩ | ⟨_, b, ro, rc, h9, h10, _⟩
            · exact absurd h9 (open_not_more hiok)
            · exact absurd hiok h9
            · exact ⟨b, ro, rc, h9, hopen' _ _ _ _ h10⟩
          obtain ⟨pz, rz, cz, rfl, hZ17⟩ := he
          clear hor hiok hopen'
          have hX17 := hX16.grown hg17
          have hG17 := grown_trans hG16 hg17 (by simp)
          have hn17 := num_any w17 111
          go_wp2_with fail
          refine hn17.mono ?_
          rintro e w17' ⟨rfl, rfl⟩
          clear hn17
          have hn17 := num_any w17' 0
          go_wp2_with fail
          refine hn17.mono ?_
          rintro e w17'' ⟨rfl, rfl⟩
          clear hn17
          have hsa := same_yes hZ17 hX17
          go_wp2_with fail
          refine hsa.mono ?_
          rintro e w18 ⟨rfl, hg18⟩
          clear hsa
          have hwk := works_any w18
          have hG18 := grown_trans hG17 hg18 (by simp)
          go_wp2_with fail
          refine hwk.mono ?_
          rintro e w19 ⟨rfl, hg19⟩
          clear hwk
          have hG19 := grown_trans hG18 hg19 (by simp)
          go_wp2
          go_ret
          exact ⟨rfl, hG19⟩

end Go.Proofs.Ytmnfdiffneobpaa
