/-
  IndexPlay: the walk.
-/
import Derived.Test.YtbnoemfhcpjdjaaDoorV1
import Derived.LaidEql
namespace Go.Proofs.YtbnoemfhcpjdjaaDoor
open Go.RowKit
set_option linter.unusedVariables false

/-- A script: what its steps hold. -/
structure Sp (w : World) (so : Option Addr) (n : Nat) : Prop where
  at_ : ∀ i, i < n → ∃ sb sf K o p N, so = some ⟨sb, sf, none⟩ ∧ w.cell? ⟨sb, sf + i * 4, none⟩ = some (.int .i64 K) ∧ w.cell? ⟨sb, sf + i * 4 + 1, none⟩ = some (.int .i64 o) ∧ w.cell? ⟨sb, sf + i * 4 + 2, none⟩ = some (.int .i64 p) ∧ w.cell? ⟨sb, sf + i * 4 + 3, none⟩ = some (.int .i64 N) ∧ N < 9223372036854775808

/-- What stands between two steps. -/
structure Bt (w0 wr : World) (B bx rb st : Nat) (l : List Sd) : Prop where
  tw : Tw wr B bx rb st l
  good : Good l
  srt : Srt l
  puts : Puts st l
  chg : Chg w0 wr (fun k => B ≤ k)

theorem eqIn24 (W : World) (d : Nat) {a b : Nat} {ca cb : Array Value} {ta tb : TypeId} (hne : a ≠ b) (ha : W.heap[a]? = some (.cells ca ta)) (hb : W.heap[b]? = some (.cells cb tb)) : (Op.equalIn (d + 1) 24 (.pointer (some ⟨a, 0, none⟩)) (.pointer (some ⟨b, 0, none⟩))).run Tryd.prog W = .ok false W := by
  simp [Op.equalIn, run_underlying Tryd.underlying24, run_sameAddr_other (P := Tryd.prog) (w := W) (a := ⟨a, 0, none⟩) (b := ⟨b, 0, none⟩) (fun e => hne (by cases e; rfl)) ha hb]
theorem equal24 (W : World) {a b : Nat} {ca cb : Array Value} {ta tb : TypeId} (hne : a ≠ b) (ha : W.heap[a]? = some (.cells ca ta)) (hb : W.heap[b]? = some (.cells cb tb)) : (Op.equal 24 (.pointer (some ⟨a, 0, none⟩)) (.pointer (some ⟨b, 0, none⟩))).run Tryd.prog W = .ok false W := eqIn24 W 9999 hne ha hb
theorem eq24 (W : World) {a b : Nat} {ca cb : Array Value} {ta tb : TypeId} (hne : a ≠ b) (ha : W.heap[a]? = some (.cells ca ta)) (hb : W.heap[b]? = some (.cells cb tb)) : (binOp .eql 24 (.pointer (some ⟨a, 0, none⟩)) (.pointer (some ⟨b, 0, none⟩))).run Tryd.prog W = .ok (.bool false) W := by
  simp only [binOp]
  simp [equal24 W hne ha hb]
theorem Bt.grown {w0 wr V : World} {B bx rb st : Nat} {l : List Sd} (h : Bt w0 wr B bx rb st l) (hg : wr.grownBy V none) : Bt w0 V B bx rb st l := ⟨h.tw.grown hg, h.good, h.srt, h.puts, h.chg.trans (Chg.of_grown hg _)⟩

set_option maxRecDepth 100000 in
set_option maxHeartbeats 16000000 in
theorem indexPlay_any (w : World) (hD : Dt w) (st : Int) (so : Option Addr) (n c : Nat) (hs : Sp w so n) : Calls Tryd.prog 3 #[.int .i64 st, .slice so n c] w fun e w' => e = .returned (.bool true) ∧ w.grownBy w' none := by
  by_cases hn : 300 < n
  · have d1 : decide ((300 : Int) < (n : Int)) = true := by simp; omega
    go_enter Tryd.func3, Tryd.ntmps3
    go_wp2_with fail
    refine (known_any _ hD).mono ?_
    rintro e w3 ⟨rfl, hg3⟩
    go_wp2
    go_ret
    exact ⟨rfl, hg3⟩
  · have d1 : decide ((300 : Int) < (n : Int)) = false := by simp; omega
    by_cases hst : st < 1 ∨ 16777216 < st
    · by_cases hs1 : st < 1
      · have e1 : decide (st < 1) = true := by simpa using hs1
        go_enter Tryd.func3, Tryd.ntmps3
        go_wp2_with fail
        refine (new_bad _ st hst).mono ?_
        rintro e w3 ⟨rfl, rfl⟩
        go_wp2_with fail
        refine (known_any _ hD).mono ?_
        rintro e w4 ⟨rfl, hg4⟩
        go_wp2
        go_ret
        exact ⟨rfl, hg4⟩
      · have e1 : decide (st < 1) = false := by simpa using hs1
        have e2 : decide (16777216 < st) = true := by simp; omega
        go_enter Tryd.func3, Tryd.ntmps3
        go_wp2_with fail
        refine (new_bad _ st hst).mono ?_
        rintro e w3 ⟨rfl, rfl⟩
        go_wp2_with fail
        refine (known_any _ hD).mono ?_
        rintro e w4 ⟨rfl, hg4⟩
        go_wp2
        go_ret
        exact ⟨rfl, hg4⟩
    · obtain ⟨sn, rfl⟩ := Int.eq_ofNat_of_zero_le (show 0 ≤ st by omega)
      have hs1 : 1 ≤ sn := by omega
      have hs2 : sn ≤ 16777216 := by omega
      have e1 : decide ((sn : Int) < 1) = false := by simp; omega
      have e2 : decide (16777216 < (sn : Int)) = false := by simp; omega
      have e1n : decide (sn < 1) = false := by simp; omega
      have e2n : decide (16777216 < sn) = false := by simp; omega
      go_enter Tryd.func3, Tryd.ntmps3
      go_wp2_with fail
      refine (new_ok _ sn (by omega) (by omega)).mono ?_
      rintro e w1 ⟨bx0, rfl, hX1, hg1⟩
      obtain ⟨⟨ro1, rc1, hi1, hr1⟩, hge, _⟩ := hX1
      have hga := alloc_grown w1 (.cells #[.int .i64 (sn : Int), .slice none 0 0] 31)
      have hk := World.alloc_heap_new w1 (.cells #[.int .i64 (sn : Int), .slice none 0 0] 31)
      have hg2 := grown_trans hg1 hga (by simp)
      have hT : Tw (w1.alloc (.cells #[.int .i64 (sn : Int), .slice none 0 0] 31)) w.heap.size bx0 w1.heap.size sn [] :=
        ⟨⟨ro1, rc1, none, 0, hi1.chg (Chg.of_grown hga (fun _ => False)) (fun e => e), hr1.chg (Chg.of_grown hga (fun _ => False)) (fun _ _ e => e), hk, Sw.nil _ _, fun q _ e => by cases e⟩, hge, hg1.size⟩
      clear hi1 hr1 hk
      go_wp2_with fail
      obtain ⟨rb, hrb⟩ : ∃ rb, Hid (w1.heap.size = rb) := ⟨_, (rfl : w1.heap.size = w1.heap.size)⟩
      rw [hrb.out] at hT ⊢
      obtain ⟨B, hB⟩ : ∃ B, Hid (w.heap.size = B) := ⟨_, (rfl : w.heap.size = w.heap.size)⟩
      rw [hB.out] at hT
      generalize w1.alloc (.cells #[.int .i64 (sn : Int), .slice none 0 0] 31) = w2 at *
      clear hga hg1 hge
      go_loopw [5, 8] (fun v5 v8 wr => ∃ (i bx : Nat) (l : List Sd), v8 = .int .i64 i ∧ v5 = .pointer (some ⟨bx, 0, none⟩) ∧ i ≤ n ∧ l.length ≤ i ∧ Bt w2 wr B bx rb sn l) (fun _ v8 _ => n - (intOf v8).toNat)
      case atStart => exact ⟨0, bx0, [], rfl, rfl, Nat.zero_le _, by simp, hT, (fun t ht => nomatch ht), List.Pairwise.nil, (fun k hk => absurd hk (by simp)), Chg.refl _ _⟩
      case round =>
        obtain ⟨i, bx, l, rfl, rfl, hi, hli, hBt⟩ := hrel
        have hGr : w.grownBy wr none := ((Chg.of_grown hg2 _).trans hBt.chg).grown (fun k hk e => by have := hB.out; omega)
        have hBl : B ≤ wr.heap.size := by have := hGr.size; have := hB.out; omega
        by_cases hlt : i < n
        · have dl : decide ((i : Int) < (n : Int)) = true := by simp; omega
          obtain ⟨sb, sf, K, o, p, N, rfl, q0, q1, q2, q3, hN⟩ := hs.at_ i hlt
          replace q0 := hGr.cell q0 (by simp)
          replace q1 := hGr.cell q1 (by simp)
          replace q2 := hGr.cell q2 (by simp)
          replace q3 := hGr.cell q3 (by simp)
          have i1 : (0 : Int) ≤ (i : Int) := by omega
          have i2 : (i : Int) < (n : Int) := by omega
          have hga := alloc_grown wr (.cells #[.int .i64 K, .int .i64 o, .int .i64 p, .int .i64 N] 35)
          have kz := World.alloc_heap_new wr (.cells #[.int .i64 K, .int .i64 o, .int .i64 p, .int .i64 N] 35)
          have c0 := cell_of (i := 0) (v := .int .i64 K) kz rfl
          have c1 := cell_of (i := 1) (v := .int .i64 o) kz rfl
          have c2 := cell_of (i := 2) (v := .int .i64 p) kz rfl
          have c3 := cell_of (i := 3) (v := .int .i64 N) kz rfl
          rcases (by omega : K = 1 ∨ K = 2 ∨ K = 3 ∨ K = 4 ∨ K = 5 ∨ K = 6 ∨ (K < 1 ∨ 6 < K)) with hK | hK | hK | hK | hK | hK | hK
          · have f1 : (K == 1) = true := by simpa using hK

            clear hK
            have hBw := hBt.grown hga
            have hGw := grown_trans hGr hga (by simp)
            have hBlw := Nat.le_trans hBl hga.size
            clear hBt

            have had := add_tw hBw.tw (hD.grown hGw) hBw.good hs1 (by omega) ⟨o, p⟩
            unfold Sd.val at had
            simp only at had
            go_wp2_with fail
            generalize wr.alloc (.cells #[.int .i64 K, .int .i64 o, .int .i64 p, .int .i64 N] 35) = W at *
            generalize wr.heap.size = z at *
            refine had.mono ?_
            clear had
            rintro e w5 ⟨rfl, hM, hc5, hk5⟩
            have kz5 := hk5 _ _ _ kz
            have s1 := cell_of (i := 1) (v := .int .i64 o) kz5 rfl
            have s2 := cell_of (i := 2) (v := .int .i64 p) kz5 rfl
            have hra := radd_mid hM (Nat.le_trans hBlw hc5.size) hBw.good (by omega) ⟨o, p⟩ rfl
            unfold Sd.val at hra
            simp only at hra
            have hgd2 := addR_good hBw.good sn ⟨o, p⟩
            have hst2 := hBw.srt.add (st := (sn : Int)) ⟨o, p⟩
            have hpu2 := hBw.puts.add ⟨o, p⟩
            have hln2 := addR_len sn l ⟨o, p⟩
            have hch := hBw.chg.trans hc5
            generalize (addR (sn : Int) l ⟨o, p⟩).2.2 = l2 at *
            generalize (addR (sn : Int) l ⟨o, p⟩).1 = ab at *
            generalize (addR (sn : Int) l ⟨o, p⟩).2.1 = ae at *
            have z1 : (ab != ab) = false := by simp
            have z2 : (ae != ae) = false := by simp
            clear hM hBw q0 q1 q2 q3 c0 c1 c2 c3 kz hga hk5
            go_wp2_with fail
            refine hra.mono ?_
            clear hra
            rintro e w6 ⟨rfl, hT6, hc6, hk6⟩
            have hB6 : Bt w2 w6 B bx rb sn l2 := ⟨hT6, hgd2, hst2, hpu2, hch.trans hc6⟩
            clear hT6 hgd2 hst2 hpu2 hch hc5 hc6 hk6 kz5 s1 s2

            have hte := tells_any w6 B B bx rb sn l2 (hB6.tw.x (by omega)) hB6.tw.r hs1 hs2 hB6.good (by omega)
            go_wp2_with fail
            refine hte.mono ?_
            clear hte
            rintro e wT ⟨rfl, hgT⟩
            have hBT := hB6.grown hgT
            clear hgT
            go_wp2
            go_roundw
            case rel => exact ⟨i + 1, bx, l2, by go_num, rfl, by omega, by omega, hBT⟩
            case measure => simp [intOf]; omega
          · have f1 : (K == 1) = false := by simp; omega
            have f2 : (K == 2) = true := by simpa using hK
            clear hK
            have hBw := hBt.grown hga
            have hGw := grown_trans hGr hga (by simp)
            have hBlw := Nat.le_trans hBl hga.size
            clear hBt

            have hfi := find_any (hBw.tw.x (by omega)) (hD.grown hGw) (by omega) hBw.good hBw.srt N
            obtain ⟨⟨⟨x, y⟩, v⟩, hr⟩ : ∃ r, Hid (findR N l = r) := ⟨_, (rfl : findR N l = findR N l)⟩
            rw [hr.out] at hfi
            unfold Sd.val at hfi
            simp only at hfi
            go_wp2_with fail
            generalize wr.alloc (.cells #[.int .i64 K, .int .i64 o, .int .i64 p, .int .i64 N] 35) = W at *
            generalize wr.heap.size = z at *
            refine hfi.mono ?_
            clear hfi
            rintro e w5 ⟨rfl, hg5⟩
            have ga5 := alloc_grown w5 (.cells #[.int .i64 x, .int .i64 y] 33)
            have hg5a := grown_trans hg5 ga5 (by simp)
            have kz5 := heap_kept hg5a kz (by simp)
            have s3 := cell_of (i := 3) (v := .int .i64 N) kz5 rfl
            have hB5 := hBw.grown hg5a
            have hS5 := Sb.new w5 x y
            have hrf := rfind_ry hB5.tw.r hB5.srt (by omega) N hN
            rw [hr.out] at hrf
            unfold Sd.val at hrf
            simp only at hrf
            clear q0 q1 q2 q3 c0 c1 c2 c3 kz hga hg5 ga5 hg5a hBw
            go_wp2_with fail
            generalize w5.alloc (.cells #[.int .i64 x, .int .i64 y] 33) = W5 at *
            generalize w5.heap.size = z5 at *
            refine hrf.mono ?_
            clear hrf
            rintro e w6 ⟨rfl, hg6⟩
            have ga6 := alloc_grown w6 (.cells #[.int .i64 x, .int .i64 y] 33)
            have hg6a := grown_trans hg6 ga6 (by simp)
            have hB6 := hB5.grown hg6a
            have hS6 := Sb.new w6 x y
            have hS56 := hS5.grown hg6a
            have t0 := hS56.c0
            have t1 := hS56.c1
            have u0 := hS6.c0
            have u1 := hS6.c1
            have nb := ne33
            have z0 : (!(decide (x = x) && decide (y = y))) = false := by simp
            have z1 : (v != v) = false := by simp
            clear kz5 s3 hg6 ga6 hg6a hB5 hS5
            go_wp2_with fail
            clear nb t0 t1 u0 u1 z0 z1 hS6 hS56

            have hte := tells_any (w6.alloc (.cells #[.int .i64 x, .int .i64 y] 33)) B B bx rb sn l (hB6.tw.x (by omega)) hB6.tw.r hs1 hs2 hB6.good (by omega)
            go_wp2_with fail
            refine hte.mono ?_
            clear hte
            rintro e wT ⟨rfl, hgT⟩
            have hBT := hB6.grown hgT
            clear hgT
            go_wp2
            go_roundw
            case rel => exact ⟨i + 1, bx, l, by go_num, rfl, by omega, by omega, hBT⟩
            case measure => simp [intOf]; omega
          · have f1 : (K == 1) = false := by simp; omega
            have f2 : (K == 2) = false := by simp; omega
            have f3 : (K == 3) = true := by simpa using hK
            clear hK
            have hBw := hBt.grown hga
            have hGw := grown_trans hGr hga (by simp)
            have hBlw := Nat.le_trans hBl hga.size
            clear hBt

            have hfi := at_any (hBw.tw.x (by omega)) (hD.grown hGw) (by omega) hBw.good hBw.srt N
            obtain ⟨⟨⟨x, y⟩, v⟩, hr⟩ : ∃ r, Hid (atR N l = r) := ⟨_, (rfl : atR N l = atR N l)⟩
            rw [hr.out] at hfi
            unfold Sd.val at hfi
            simp only at hfi
            go_wp2_with fail
            generalize wr.alloc (.cells #[.int .i64 K, .int .i64 o, .int .i64 p, .int .i64 N] 35) = W at *
            generalize wr.heap.size = z at *
            refine hfi.mono ?_
            clear hfi
            rintro e w5 ⟨rfl, hg5⟩
            have ga5 := alloc_grown w5 (.cells #[.int .i64 x, .int .i64 y] 33)
            have hg5a := grown_trans hg5 ga5 (by simp)
            have kz5 := heap_kept hg5a kz (by simp)
            have s3 := cell_of (i := 3) (v := .int .i64 N) kz5 rfl
            have hB5 := hBw.grown hg5a
            have hS5 := Sb.new w5 x y
            have hrf := rat_ry hB5.tw.r hB5.srt (by omega) N hN
            rw [hr.out] at hrf
            unfold Sd.val at hrf
            simp only at hrf
            clear q0 q1 q2 q3 c0 c1 c2 c3 kz hga hg5 ga5 hg5a hBw
            go_wp2_with fail
            generalize w5.alloc (.cells #[.int .i64 x, .int .i64 y] 33) = W5 at *
            generalize w5.heap.size = z5 at *
            refine hrf.mono ?_
            clear hrf
            rintro e w6 ⟨rfl, hg6⟩
            have ga6 := alloc_grown w6 (.cells #[.int .i64 x, .int .i64 y] 33)
            have hg6a := grown_trans hg6 ga6 (by simp)
            have hB6 := hB5.grown hg6a
            have hS6 := Sb.new w6 x y
            have hS56 := hS5.grown hg6a
            have t0 := hS56.c0
            have t1 := hS56.c1
            have u0 := hS6.c0
            have u1 := hS6.c1
            have nb := ne33
            have z0 : (!(decide (x = x) && decide (y = y))) = false := by simp
            have z1 : (v != v) = false := by simp
            clear kz5 s3 hg6 ga6 hg6a hB5 hS5
            go_wp2_with fail
            clear nb t0 t1 u0 u1 z0 z1 hS6 hS56

            have hte := tells_any (w6.alloc (.cells #[.int .i64 x, .int .i64 y] 33)) B B bx rb sn l (hB6.tw.x (by omega)) hB6.tw.r hs1 hs2 hB6.good (by omega)
            go_wp2_with fail
            refine hte.mono ?_
            clear hte
            rintro e wT ⟨rfl, hgT⟩
            have hBT := hB6.grown hgT
            clear hgT
            go_wp2
            go_roundw
            case rel => exact ⟨i + 1, bx, l, by go_num, rfl, by omega, by omega, hBT⟩
            case measure => simp [intOf]; omega
          · have f1 : (K == 1) = false := by simp; omega
            have f2 : (K == 2) = false := by simp; omega
            have f3 : (K == 3) = false := by simp; omega
            have f4 : (K == 4) = true := by simpa using hK
            clear hK
            have hBw := hBt.grown hga
            have hGw := grown_trans hGr hga (by simp)
            have hBlw := Nat.le_trans hBl hga.size
            clear hBt

            go_wp2_with fail
            generalize wr.alloc (.cells #[.int .i64 K, .int .i64 o, .int .i64 p, .int .i64 N] 35) = W at *
            generalize wr.heap.size = z at *
            have hgd := grown_drew W none
            have hBd := hBw.grown hgd
            have kzd := heap_kept hgd kz (by simp)
            have m3 := cell_of (i := 3) (v := .int .i64 N) kzd rfl
            have hBld := Nat.le_trans hBlw hgd.size
            have hcu := cut_tw hBd.tw hs1 (by omega) hBd.srt N
            have z1 : (((l.length - cutR N l : Nat) : Int) != ((l.length - cutR N l : Nat) : Int)) = false := by simp
            clear q0 q1 q2 q3 c0 c1 c2 c3 kz hga hBw

            refine wp_region_held_drew (S := fun w' => w'.cell? ⟨z, 2 + 1, none⟩ = some (.int .i64 N)) (by kernel_rfl) m3 (fun hHeld => ?_)
            refine wpAnyH_take (i := 0) (oi := { dst := some 149, op := Op.move (Operand.tmp 5), type := 24, pos := "law.go:87", after := #[], guard := none }) (v := ?_) rfl (by kernel_rfl) (by kernel_rfl) (by kernel_rfl) (fun _ _ _ h => h) (Or.inl ⟨by rfl, ?_⟩) (by assumption) ?_
            rotate_left
            · intro w hSw; (try dsimp only at hSw); go_simp
              try with_reducible rfl
            try simp only [Act.put, List.setIfInBounds_toArray, List.set_cons_zero, List.set_cons_succ]
            refine wpAnyH_take (i := 1) (oi := { dst := some 150, op := Op.fieldAddr 35 (Operand.tmp 9) 2, type := 0, pos := "law.go:87", after := #[], guard := none }) (v := ?_) rfl (by kernel_rfl) (by kernel_rfl) (by kernel_rfl) (fun _ _ _ h => h) (Or.inl ⟨by rfl, ?_⟩) (by assumption) ?_
            rotate_left
            · intro w hSw; (try dsimp only at hSw); go_simp
              try with_reducible rfl
            try simp only [Act.put, List.setIfInBounds_toArray, List.set_cons_zero, List.set_cons_succ]
            refine wpAnyH_take (i := 2) (oi := { dst := some 151, op := Op.load 2 (Operand.tmp 150), type := 2, pos := "law.go:87", after := #[{ on := 1, ground := Ground.data }], guard := none }) (v := ?_) rfl (by kernel_rfl) (by kernel_rfl) (by kernel_rfl) (fun _ _ _ h => h) (Or.inl ⟨by rfl, ?_⟩) (by assumption) ?_
            rotate_left
            · intro w hSw; (try dsimp only at hSw); go_simp
              try with_reducible rfl
            try simp only [Act.put, List.setIfInBounds_toArray, List.set_cons_zero, List.set_cons_succ]
            refine wpAnyH_take (i := 4) (oi := { dst := some 153, op := Op.move (Operand.tmp 7), type := 28, pos := "law.go:87", after := #[], guard := none }) (v := ?_) rfl (by kernel_rfl) (by kernel_rfl) (by kernel_rfl) (fun _ _ _ h => h) (Or.inl ⟨by rfl, ?_⟩) (by assumption) ?_
            rotate_left
            · intro w hSw; (try dsimp only at hSw); go_simp
              try with_reducible rfl
            try simp only [Act.put, List.setIfInBounds_toArray, List.set_cons_zero, List.set_cons_succ]
            refine wpAnyH_take (i := 5) (oi := { dst := some 154, op := Op.fieldAddr 35 (Operand.tmp 9) 2, type := 0, pos := "law.go:87", after := #[], guard := none }) (v := ?_) rfl (by kernel_rfl) (by kernel_rfl) (by kernel_rfl) (fun _ _ _ h => h) (Or.inl ⟨by rfl, ?_⟩) (by assumption) ?_
            rotate_left
            · intro w hSw; (try dsimp only at hSw); go_simp
              try with_reducible rfl
            try simp only [Act.put, List.setIfInBounds_toArray, List.set_cons_zero, List.set_cons_succ]
            refine wpAnyH_take (i := 6) (oi := { dst := some 155, op := Op.load 2 (Operand.tmp 154), type := 2, pos := "law.go:87", after := #[{ on := 5, ground := Ground.data }], guard := none }) (v := ?_) rfl (by kernel_rfl) (by kernel_rfl) (by kernel_rfl) (fun _ _ _ h => h) (Or.inl ⟨by rfl, ?_⟩) (by assumption) ?_
            rotate_left
            · intro w hSw; (try dsimp only at hSw); go_simp
              try with_reducible rfl
            try simp only [Act.put, List.setIfInBounds_toArray, List.set_cons_zero, List.set_cons_succ]
            refine wpAnyH_ready (rs := [3]) (by kernel_rfl) (by simp) ?_
            refine AllReadyH.cons (o := { dst := some 152, op := Op.call { callee := Callee.value (Operand.func 16), args := #[Operand.tmp 149, Operand.tmp 151], argTypes := #[24, 3] }, type := 3, pos := "law.go:87", after := #[{ on := 0, ground := Ground.data }, { on := 2, ground := Ground.data }], guard := none }) rfl (fun K hK => ?_) (AllReadyH.nil)
            go_simp
            go_at_call 16
            refine hcu.mono ?_
            clear hcu
            rintro e w5 ⟨rfl, hM, hc5, hk5⟩
            have kz5 := hk5 _ _ _ kzd
            have s3 := cell_of (i := 3) (v := .int .i64 N) kz5 rfl
            have hrc := rcut_mid hM (Nat.le_trans hBld hc5.size) hBd.srt (by omega)
            try go_simp
            refine hK.out _ _ s3 (fun hHeld => ?_)
            clear hK K
            try simp only [Act.put, List.setIfInBounds_toArray, List.set_cons_zero, List.set_cons_succ]
            refine wpAnyH_ready (rs := [7]) (by kernel_rfl) (by simp) ?_
            refine AllReadyH.cons (o := { dst := some 156, op := Op.call { callee := Callee.value (Operand.func 17), args := #[Operand.tmp 153, Operand.tmp 155], argTypes := #[28, 3] }, type := 3, pos := "law.go:87", after := #[{ on := 4, ground := Ground.data }, { on := 6, ground := Ground.data }, { on := 3, ground := Ground.chain }], guard := none }) rfl (fun K hK => ?_) (AllReadyH.nil)
            go_simp
            go_at_call 17
            refine hrc.mono ?_
            clear hrc
            rintro e w6 ⟨rfl, hT6, hc6, hk6⟩
            have s36 := cell_of (i := 3) (v := .int .i64 N) (hk6 _ _ _ kz5) rfl
            try go_simp
            refine hK.out _ _ s36 (fun hHeld => ?_)
            clear hK K
            try simp only [Act.put, List.setIfInBounds_toArray, List.set_cons_zero, List.set_cons_succ]
            refine wpAnyH_take (i := 8) (oi := { dst := some 157, op := Op.binOp BinOp.neq 3 (Operand.tmp 152) (Operand.tmp 156) 3, type := 4, pos := "law.go:87", after := #[{ on := 3, ground := Ground.data }, { on := 7, ground := Ground.data }], guard := none }) (v := ?_) rfl (by kernel_rfl) (by kernel_rfl) (by kernel_rfl) (fun _ _ _ h => h) (Or.inl ⟨by rfl, ?_⟩) (by assumption) ?_
            rotate_left
            · intro w hSw; (try dsimp only at hSw); go_simp
              try with_reducible rfl
            try simp only [Act.put, List.setIfInBounds_toArray, List.set_cons_zero, List.set_cons_succ]
            refine wpAnyH_done (by kernel_rfl) ?_ _
            clear hHeld
            have hB6 : Bt w2 w6 B bx rb sn (l.take (cutR N l)) := ⟨hT6, hBd.good.sub (List.take_sublist _ _), hBd.srt.sub (List.take_sublist _ _), hBd.puts.cut _, (hBd.chg.trans hc5).trans hc6⟩
            have hln2 : (l.take (cutR N l)).length ≤ l.length := by simp; omega
            clear hM hT6 hc5 hc6 hk5 hk6 kz5 s3 s36 m3 kzd hBd
            generalize l.take (cutR N l) = l2 at *

            have hte := tells_any w6 B B bx rb sn l2 (hB6.tw.x (by omega)) hB6.tw.r hs1 hs2 hB6.good (by omega)
            go_wp2_with fail
            refine hte.mono ?_
            clear hte
            rintro e wT ⟨rfl, hgT⟩
            have hBT := hB6.grown hgT
            clear hgT
            go_wp2
            go_roundw
            case rel => exact ⟨i + 1, bx, l2, by go_num, rfl, by omega, by omega, hBT⟩
            case measure => simp [intOf]; omega
          · have f1 : (K == 1) = false := by simp; omega
            have f2 : (K == 2) = false := by simp; omega
            have f3 : (K == 3) = false := by simp; omega
            have f4 : (K == 4) = false := by simp; omega
            have f5 : (K == 5) = true := by simpa using hK
            clear hK
            have hBw := hBt.grown hga
            have hGw := grown_trans hGr hga (by simp)
            have hBlw := Nat.le_trans hBl hga.size
            clear hBt

            have hcp := copy_any (hBw.tw.x (by omega)) (by omega)
            have hbxl : bx < (wr.alloc (.cells #[.int .i64 K, .int .i64 o, .int .i64 p, .int .i64 N] 35)).heap.size := by obtain ⟨_, _, _, _, h9, _⟩ := hBw.tw.ex; exact h9.lt
            go_wp2_with fail
            generalize wr.alloc (.cells #[.int .i64 K, .int .i64 o, .int .i64 p, .int .i64 N] 35) = W at *
            refine hcp.mono ?_
            clear hcp
            rintro e w5 ⟨b2, rfl, hX5, hg5⟩
            have hb2 := hX5.ge
            have eb : (binOp .eql 24 (.pointer (some ⟨b2, 0, none⟩)) (.pointer (some ⟨bx, 0, none⟩))).run Tryd.prog w5 = .ok (.bool false) w5 := by
              obtain ⟨⟨_, _, h8, _⟩, _, _⟩ := hX5
              obtain ⟨_, _, _, _, h9, _⟩ := (hBw.grown hg5).tw.ex
              exact eq24 w5 (by omega) h8 h9
            have hcu := cut_any hX5 (by omega) hBw.srt 0
            clear q0 q1 q2 q3 c0 c1 c2 c3 kz hga
            go_wp2_with fail
            refine hcu.mono ?_
            clear hcu
            rintro e w6 ⟨rfl, hX6, hc6⟩
            have hC6 : Chg W w6 (fun k => k = b2) := (Chg.of_grown hg5 _).trans hc6
            have hG6 : W.grownBy w6 none := hC6.grown (fun k hk e => by omega)
            have hB6 := hBw.grown hG6
            have hte1 := tells_any w6 B B bx rb sn l (hB6.tw.x (by omega)) hB6.tw.r hs1 hs2 hB6.good (by omega)
            clear hX5 hX6 hg5 hc6 hC6 hBw
            go_wp2_with fail
            refine hte1.mono ?_
            clear hte1
            rintro e w7 ⟨rfl, hg7⟩
            have hB7 := hB6.grown hg7
            have hcp := copy_any (hB7.tw.x (by omega)) (by omega)
            have hBl7 := Nat.le_trans hBlw (grown_trans hG6 hg7 (by simp)).size
            go_wp2_with fail
            refine hcp.mono ?_
            clear hcp
            rintro e w8 ⟨b3, rfl, hX8, hg8⟩
            have hB8 : Bt w2 w8 B b3 rb sn l := ⟨hB7.tw.turn hg8 hX8 hBl7 (Nat.le_refl _), hB7.good, hB7.srt, hB7.puts, hB7.chg.trans (Chg.of_grown hg8 _)⟩
            clear hX8 hg8 hB7 hB6 hg7 hG6

            have hte := tells_any w8 B B b3 rb sn l (hB8.tw.x (by omega)) hB8.tw.r hs1 hs2 hB8.good (by omega)
            go_wp2_with fail
            refine hte.mono ?_
            clear hte
            rintro e wT ⟨rfl, hgT⟩
            have hBT := hB8.grown hgT
            clear hgT
            go_wp2
            go_roundw
            case rel => exact ⟨i + 1, b3, l, by go_num, rfl, by omega, by omega, hBT⟩
            case measure => simp [intOf]; omega
          · have f1 : (K == 1) = false := by simp; omega
            have f2 : (K == 2) = false := by simp; omega
            have f3 : (K == 3) = false := by simp; omega
            have f4 : (K == 4) = false := by simp; omega
            have f5 : (K == 5) = false := by simp; omega
            have f6 : (K == 6) = true := by simpa using hK
            clear hK
            have hBw := hBt.grown hga
            have hGw := grown_trans hGr hga (by simp)
            have hBlw := Nat.le_trans hBl hga.size
            clear hBt

            have hby := bytes_any (hBw.tw.x (by omega)) hs1 hs2 hBw.good (by omega)
            go_wp2_with fail
            generalize wr.alloc (.cells #[.int .i64 K, .int .i64 o, .int .i64 p, .int .i64 N] 35) = W at *
            refine hby.mono ?_
            clear hby
            rintro e w5 ⟨bo, bc, rfl, hO5, hg5⟩
            have hB5 := hBw.grown hg5
            have hre := read_ok w5 (hD.grown (grown_trans hGw hg5 (by simp))) bo _ bc sn l hO5.shows hs1 hs2 (by omega) hB5.good hB5.puts
            have hBl5 := Nat.le_trans hBlw hg5.size
            have hbn : (iby sn l).length ≤ 4000 := by simp [iby, low_length, flatB_len]; omega
            obtain ⟨bn, hbn2⟩ : ∃ bn, Hid ((iby sn l).length = bn) := ⟨_, (rfl : (iby sn l).length = (iby sn l).length)⟩
            rw [hbn2.out] at hre hO5 hbn
            obtain ⟨by0, hby0⟩ : ∃ b, Hid (iby sn l = b) := ⟨_, (rfl : iby sn l = iby sn l)⟩
            rw [hby0.out] at hO5
            rw [hbn2.out]
            clear q0 q1 q2 q3 c0 c1 c2 c3 kz hga
            go_wp2_with fail
            refine hre.mono ?_
            clear hre
            rintro e w6 ⟨by6, base6, rfl, hX6, hb6, hg6⟩
            have hT6 := hB5.tw.turn hg6 hX6 hBl5 hb6
            have hO6 := hO5.grown hg6
            have hch6 := hB5.chg.trans (Chg.of_grown hg6 _)
            clear hX6 hO5 hg5
            go_wp2_with fail
            go_loopw [28] (fun v28 wr => ∃ (k : Nat) (Lx : List UInt8), k ≤ bn ∧ v28 = .int .i64 k ∧ Ow wr W.heap.size 5 bo bn bc Lx ∧ Chg w6 wr (fun q => blk bo = some q)) (fun v28 _ => bn - (intOf v28).toNat)
            case atStart => exact ⟨0, by0, Nat.zero_le _, rfl, hO6, Chg.refl _ _⟩
            case round =>
              obtain ⟨k, Lx, hk, rfl, ox, hcx⟩ := hrel
              by_cases hkl : k < bn
              · have hd2 : decide ((k : Int) < (bn : Int)) = true := by simp; omega
                have hd2n : decide (k < bn) = true := by simp; omega
                obtain ⟨gm, rfl, hgm1, hgm2⟩ := ox.addr (by omega)
                have hxl := ox.len
                have v0 := ox.shows.at (j := k) (by omega)
                rw [Nat.zero_add] at v0
                have vf := ox.there k
                obtain ⟨bt, hbt⟩ : ∃ bt, Hid (Lx[k].toNat = bt) := ⟨_, (rfl : Lx[k].toNat = Lx[k].toNat)⟩
                have hbl : bt < 256 := by rw [← hbt.out]; exact UInt8.toNat_lt _
                rw [hbt.out] at v0
                have hw8 : Value.int .u8 (IntKind.u8.wrap ((bt : Int) + 1)) = bv (UInt8.ofNat (bt + 1)) := by
                  have e9 : IntKind.u8.wrap ((bt : Int) + 1) = ((UInt8.ofNat (bt + 1)).toNat : Int) := by rw [UInt8.toNat_ofNat', IntKind.wrap_u8]; omega
                  rw [e9]
                  rfl
                have ox2 := ox.set k (UInt8.ofNat (bt + 1))
                rw [← hw8] at ox2
                have hc2 := hcx.trans ((setCell_chg wr gm k (Value.int .u8 (IntKind.u8.wrap ((bt : Int) + 1)))).mono (fun q _ e => by subst e; rfl))
                have j1 : (0 : Int) ≤ (k : Int) := by omega
                have j2 : (k : Int) < (bn : Int) := by omega
                have o3 : Hid _ := ox2
                have h3 : Hid _ := hc2
                clear ox hcx hw8 ox2 hc2
                go_wp2
                go_roundw
                case rel => exact ⟨k + 1, _, by omega, by go_num, o3.out, h3.out⟩
                case measure => simp [intOf]; omega
              · obtain rfl : k = bn := by omega
                have hd2 : decide ((k : Int) < (k : Int)) = false := by simp
                have hT7 := hT6.bytes hcx (fun q e => hO6.tyq q e)
                have hB7 : Bt w2 wr B by6 rb sn l := ⟨hT7, hB5.good, hB5.srt, hB5.puts, hch6.trans (hcx.mono (fun q _ e => by have := (hO6.from_base q e).1; omega))⟩
                clear hT7 hT6 hB5 hO6 ox hcx hch6 hBw

                have hte := tells_any wr B B by6 rb sn l (hB7.tw.x (by omega)) hB7.tw.r hs1 hs2 hB7.good (by omega)
                go_wp2_with fail
                refine hte.mono ?_
                clear hte
                rintro e wT ⟨rfl, hgT⟩
                have hBT := hB7.grown hgT
                clear hgT
                go_wp2
                go_roundw
                case rel => exact ⟨i + 1, by6, l, by go_num, rfl, by omega, by omega, hBT⟩
                case measure => simp [intOf]; omega
          · have f1 : (K == 1) = false := by simp; omega
            have f2 : (K == 2) = false := by simp; omega
            have f3 : (K == 3) = false := by simp; omega
            have f4 : (K == 4) = false := by simp; omega
            have f5 : (K == 5) = false := by simp; omega
            have f6 : (K == 6) = false := by simp; omega
            clear hK
            have hBw := hBt.grown hga
            have hGw := grown_trans hGr hga (by simp)
            have hBlw := Nat.le_trans hBl hga.size
            clear hBt

            have hB6 := hBw
            have hte := tells_any (wr.alloc (.cells #[.int .i64 K, .int .i64 o, .int .i64 p, .int .i64 N] 35)) B B bx rb sn l (hB6.tw.x (by omega)) hB6.tw.r hs1 hs2 hB6.good (by omega)
            go_wp2_with fail
            refine hte.mono ?_
            clear hte
            rintro e wT ⟨rfl, hgT⟩
            have hBT := hB6.grown hgT
            clear hgT
            go_wp2
            go_roundw
            case rel => exact ⟨i + 1, bx, l, by go_num, rfl, by omega, by omega, hBT⟩
            case measure => simp [intOf]; omega
        · obtain rfl : i = n := by omega
          have dl : decide ((i : Int) < (i : Int)) = false := by simp
          have hDr := hD.grown hGr
          clear hBt
          go_wp2_with fail
          refine (known_any _ hDr).mono ?_
          rintro e w9 ⟨rfl, hg9⟩
          have hG9 := grown_trans hGr hg9 (by simp)
          go_wp2
          go_ret
          exact ⟨rfl, hG9⟩
end Go.Proofs.YtbnoemfhcpjdjaaDoor
