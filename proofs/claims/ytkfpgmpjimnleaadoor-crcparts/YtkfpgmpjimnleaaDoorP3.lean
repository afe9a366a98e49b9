/-
  CrcParts: the walk.
-/
import Derived.Test.YtkfpgmpjimnleaaDoorC8
import Derived.Deep.RegionHeld
import Derived.Test.YtkfpgmpjimnleaaDoorP2
namespace Go.Proofs.YtkfpgmpjimnleaaDoor
open Go.RowKit
set_option linter.unusedVariables false

theorem sum_one (w : World) (po : Option Addr) (l : List UInt8) (hb : Pc w po 1 1 [l]) :
    Calls Tryd.prog 12 #[.slice po 1 1] w fun e w' => e = .returned (.int .u32 (sm l)) ∧ w.grownBy w' none := by
  have h := sum_any w po 1 1 [l] hb
  rw [show [l].flatten = l from by simp] at h
  exact h

theorem Pc.two_at (w : World) (g : Nat) (hg : g = w.heap.size) (ao bo : Option Addr) (n cap m d : Nat) (l k : List UInt8) (hb : Bs w ao n cap l) (hc : Bs w bo m d k) (e : TypeId) : Pc (w.alloc (.cells #[.slice ao n cap, .slice bo m d] e)) (some ⟨g, 0, none⟩) 2 2 [l, k] := by
  subst hg
  refine ⟨rfl, Nat.le_refl _, by decide, (by simp), fun a ha j u hu => ?_⟩
  obtain rfl := Option.some.inj ha
  match j, hu with
  | 0, hu =>
    simp at hu
    subst hu
    exact ⟨ao, n, cap, by simp [Addr.add], hb.grown (alloc_grown _ _)⟩
  | 1, hu =>
    simp at hu
    subst hu
    exact ⟨bo, m, d, by simp [Addr.add], hc.grown (alloc_grown _ _)⟩

theorem sum_two (w : World) (po : Option Addr) (l k : List UInt8) (hb : Pc w po 2 2 [l, k]) :
    Calls Tryd.prog 12 #[.slice po 2 2] w fun e w' => e = .returned (.int .u32 (sm (l ++ k))) ∧ w.grownBy w' none := by
  have h := sum_any w po 2 2 [l, k] hb
  rw [show [l, k].flatten = l ++ k from by simp] at h
  exact h

set_option maxRecDepth 100000 in
set_option maxHeartbeats 1000000 in
theorem crcParts_long (w : World) (ao bo co : Option Addr) (n m k c d f : Nat) (hD : Dt w) (h : 20000 < n ∨ 20000 < m ∨ 20000 < k) :
    Calls Tryd.prog 7 #[.slice ao n c, .slice bo m d, .slice co k f] w fun e w' => e = .returned (.bool true) ∧ w.grownBy w' none := by
  by_cases h1 : 20000 < n
  · go_enter Tryd.func7, Tryd.ntmps7
    go_wp2_with fail
    refine (works_any _ hD).mono ?_
    rintro e w1 ⟨rfl, hg1⟩
    go_wp2
    go_ret
    exact ⟨rfl, hg1⟩
  · by_cases h2 : 20000 < m
    · go_enter Tryd.func7, Tryd.ntmps7
      go_wp2_with fail
      refine (works_any _ hD).mono ?_
      rintro e w1 ⟨rfl, hg1⟩
      go_wp2
      go_ret
      exact ⟨rfl, hg1⟩
    · have h3 : 20000 < k := by omega
      go_enter Tryd.func7, Tryd.ntmps7
      go_wp2_with fail
      refine (works_any _ hD).mono ?_
      rintro e w1 ⟨rfl, hg1⟩
      go_wp2
      go_ret
      exact ⟨rfl, hg1⟩

theorem least3 (n m k : Nat) : ∃ N : Nat, (if (k : Int) < (if (m : Int) < (n : Int) then (m : Int) else (n : Int)) then (k : Int) else (if (m : Int) < (n : Int) then (m : Int) else (n : Int))) = (N : Int) ∧ N ≤ n ∧ N ≤ m ∧ N ≤ k := by
  refine ⟨min n (min m k), ?_, by omega, by omega, by omega⟩
  split <;> split <;> omega

/-- 'min(a, b, c)' of three lengths. -/
theorem wpList_min3 {P : Program} {w : World} {ops : Array Oper} {rest : List Oper} {o : Oper} {a : Act} {Q : Exit → Act → World → Prop} (hgd : o.guard = none) (s1 s2 s3 : Operand) (ts : Array TypeId)
    (ho : o.op = .call { callee := .builtin .min, args := #[s1, s2, s3], argTypes := ts }) {n m k : Nat} (h1 : a.eval s1 = .int .i64 n) (h2 : a.eval s2 = .int .i64 m) (h3 : a.eval s3 = .int .i64 k)
    (h : ∀ N : Nat, N ≤ n → N ≤ m → N ≤ k → wpList P ops Q rest (a.put o.dst (.int .i64 N)) w) : wpList P ops Q (o :: rest) a w := by
  refine wpList_plain hgd fun K hK => ?_
  obtain ⟨N, hmin, e1, e2, e3⟩ := least3 n m k
  have hrun := run_min_int3 (P := P) (w := w) ts o.type .i64 .i64 .i64 n m k
  rw [hmin] at hrun
  unfold Oper.wp
  simp [execOp, ho, resolve, invoke, builtin, h1, h2, h3, hrun, Result.andThen]
  exact hK _ _ (h N e1 e2 e3)

set_option maxRecDepth 100000 in
set_option maxHeartbeats 4000000 in
theorem crcParts_few (w : World) (ao bo co : Option Addr) (n m k c d f : Nat) (x y z : List UInt8) (ha : Bs w ao n c x) (hb : Bs w bo m d y) (hc : Bs w co k f z) (hD : Dt w) (hn : n ≤ 20000) (hm : m ≤ 20000) (hk : k ≤ 20000) :
    Calls Tryd.prog 7 #[.slice ao n c, .slice bo m d, .slice co k f] w fun e w' => e = .returned (.bool true) ∧ w.grownBy w' none := by
  have hxl := ha.len
  have hyl := hb.len
  have hd1 : decide ((20000 : Int) < (n : Int)) = false := by simp; omega
  have hd2 : decide ((20000 : Int) < (m : Int)) = false := by simp; omega
  have hd3 : decide ((20000 : Int) < (k : Int)) = false := by simp; omega
  obtain ⟨S, sx, sy, hs1, hs2, hsx, hsy, hmo, hcb⟩ : ∃ S sx sy : Nat,
      (∀ w po, Pc w po 1 1 [x ++ y] → Calls Tryd.prog 12 #[.slice po 1 1] w fun e w' => e = .returned (.int .u32 S) ∧ w.grownBy w' none) ∧
      (∀ w po, Pc w po 2 2 [x, y] → Calls Tryd.prog 12 #[.slice po 2 2] w fun e w' => e = .returned (.int .u32 S) ∧ w.grownBy w' none) ∧
      (∀ w po, Pc w po 1 1 [x] → Calls Tryd.prog 12 #[.slice po 1 1] w fun e w' => e = .returned (.int .u32 sx) ∧ w.grownBy w' none) ∧
      (∀ w po, Pc w po 1 1 [y] → Calls Tryd.prog 12 #[.slice po 1 1] w fun e w' => e = .returned (.int .u32 sy) ∧ w.grownBy w' none) ∧
      (∀ w, Bs w bo m d y → Calls Tryd.prog 14 #[.int .u32 sx, .slice bo m d] w fun e w' => e = .returned (.int .u32 S) ∧ w.grownBy w' none) ∧
      (∀ w, Dt w → Calls Tryd.prog 20 #[.int .u32 sx, .int .u32 sy, .int .i64 m] w fun e w' => e = .returned (.int .u32 S) ∧ w.grownBy w' none) := by
    refine ⟨sm (x ++ y), sm x, sm y, fun w po h => sum_one w po _ h, fun w po h => sum_two w po _ _ h, fun w po h => sum_one w po _ h, fun w po h => sum_one w po _ h, fun w h => ?_, fun w h => ?_⟩
    · rw [show sm (x ++ y) = mor (sm x) y from mor_append 0 x y]
      exact more_any w (sm x) (sm_lt x) bo m d y h
    · have h9 := combine_any w (sm x) (sm y) m (sm_lt x) (sm_lt y) (by omega) (by omega) h
      rw [show ((m : Int)).toNat = y.length from by omega, sm_append] at h9
      exact h9
  go_enter Tryd.func7, Tryd.ntmps7
  have hz0 := Ow.empty w w.heap.size 5 (Nat.le_refl _)
  have hb1 := ha.grown (alloc_grown w (.cells #[] 5))
  go_wp2_with (at_builtin; refine wpList_append_bs _ rfl _ _ 26 rfl w.heap.size 5 Tryd.underlying26 info5 rfl hz0 rfl hb1 (by omega) (by simp) ?_)
  intro ao2 cap2 w2 ho2 hg2
  have hG2 : w.grownBy w2 none := below_of_new (alloc_grown w _) hg2 (Nat.le_refl _)
  have hs22 := hG2.size
  clear hz0 hb1 hg2
  go_wp2_with (at_builtin; refine wpList_append_bs _ rfl _ _ 26 rfl w.heap.size 5 Tryd.underlying26 info5 rfl ho2 rfl (hb.grown hG2) (by omega) hs22 ?_)
  intro ao3 cap3 w3 ho3 hg3
  have hG3 : w.grownBy w3 none := grown_trans hG2 hg3 (fun k hk => Or.inr (ho2.from_base k hk).1)
  have hA3 := ho3.shows
  clear hg3 ho2 hG2 ho3
  go_wp2_with fail
  refine (hs1 _ _ (Pc.one _ _ _ _ _ hA3 26)).mono ?_
  rintro e w4 ⟨rfl, hg4⟩
  have hg34 := grown_trans (alloc_grown w3 _) hg4 (by simp)
  have hG4 := grown_trans hG3 hg34 (by simp)
  have hA4 := hA3.grown hg34
  clear hG3 hg4 hg34 hA3 hs1
  go_wp2_with fail
  refine (hs2 _ _ (Pc.two_at _ _ (by simp) _ _ _ _ _ _ _ _ (ha.grown hG4) (hb.grown hG4) 26)).mono ?_
  rintro e w5 ⟨rfl, hg5⟩
  have hg45 := grown_trans (alloc_grown w4 _) hg5 (by simp)
  have hG5 := grown_trans hG4 hg45 (by simp)
  have hA5 := hA4.grown hg45
  clear hG4 hg5 hg45 hA4 hs2
  go_wp2_with fail
  refine (hsx _ _ (Pc.one _ _ _ _ _ (ha.grown hG5) 26)).mono ?_
  rintro e w6 ⟨rfl, hg6⟩
  have hg56 := grown_trans (alloc_grown w5 _) hg6 (by simp)
  have hG6 := grown_trans hG5 hg56 (by simp)
  have hA6 := hA5.grown hg56
  clear hG5 hg6 hg56 hA5
  go_wp2_with fail
  refine (hmo _ (hb.grown hG6)).mono ?_
  rintro e w7 ⟨rfl, hg7⟩
  have hG7 := grown_trans hG6 hg7 (by simp)
  have hA7 := hA6.grown hg7
  clear hG6 hg7 hA6 hmo
  go_wp2_with fail
  refine (hsx _ _ (Pc.one _ _ _ _ _ (ha.grown hG7) 26)).mono ?_
  rintro e w8 ⟨rfl, hg8⟩
  have hg78 := grown_trans (alloc_grown w7 _) hg8 (by simp)
  have hG8 := grown_trans hG7 hg78 (by simp)
  have hA8 := hA7.grown hg78
  clear hG7 hg8 hg78 hA7 hsx
  go_wp2_with fail
  refine (hsy _ _ (Pc.one _ _ _ _ _ (hb.grown hG8) 26)).mono ?_
  rintro e w9 ⟨rfl, hg9⟩
  have hg89 := grown_trans (alloc_grown w8 _) hg9 (by simp)
  have hG9 := grown_trans hG8 hg89 (by simp)
  have hA9 := hA8.grown hg89
  clear hG8 hg9 hg89 hA8 hsy
  go_wp2_with fail
  refine (hcb _ (hD.grown hG9)).mono ?_
  rintro e w10 ⟨rfl, hg10⟩
  have hG10 := grown_trans hG9 hg10 (by simp)
  have hA10 := hA9.grown hg10
  clear hG9 hg10 hA9 hcb
  go_wp2_with fail
  refine (seal_any _ _ (n + m) cap3 (x ++ y) hA10 (by omega)).mono ?_
  rintro e w11 ⟨g11, rfl, ho11, hg11⟩
  have hG11 := grown_trans hG10 hg11 (by simp)
  have hA11 := hA10.grown hg11
  clear hG10 hg11 hA10
  go_wp2_with fail
  refine (open_sealed _ _ g11 (n + m) (x ++ y) ho11 (by simp [hxl, hyl]) (by omega)).mono ?_
  rintro e w12 ⟨g12, rfl, ho12, hg12⟩
  have hG12 := grown_trans hG11 hg12 (by simp)
  have hA12 := hA11.grown hg12
  clear hG11 hg12 hA11 ho11
  have hcv1 := run_string_bs (P := Tryd.prog) w12 26 9 5 Tryd.underlying26 Tryd.underlying5 Tryd.underlying9 ho12.shows
  have hcv2 := run_string_bs (P := Tryd.prog) w12 26 9 5 Tryd.underlying26 Tryd.underlying5 Tryd.underlying9 hA12
  have hs12 := hG12.size
  go_wp2_with (first
    | (go_at_call 28; refine (num_any _ _).mono ?_; rintro e w12 ⟨rfl, hw⟩; subst hw)
    | (refine wpList_min3 rfl (.tmp 81) (.tmp 83) (.tmp 85) #[3, 3, 3] rfl rfl rfl rfl ?_; intro N hNn hNm hNk)
    | (at_make; refine wpList_make_bs _ rfl _ _ 26 rfl w.heap.size 5 Tryd.underlying26 info5 N N rfl rfl (by omega) (by omega) (by omega) (by omega) hs12 ?_; intro g w13 ho13 hg13))
  have hG13 := grown_trans hG12 hg13 (by simp)
  have hgb := (ho13.from_base g rfl).1
  clear hG12 hA12 hcv1 hcv2 ho12 hg13
  have hX : (x.take N).length = N := by simp [hxl]; omega
  have hY : (y.take N).length = N := by simp [hyl]; omega
  have hZ : (z.take N).length = N := by simp [hc.len]; omega
  have hGl : (xor3 (x.take N) (y.take N) (z.take N)).length = N := by rw [xor3_length _ _ _ (by omega) (by omega)]; exact hX
  go_loopw [13] (fun i' wr => ∃ i : Nat, i ≤ N ∧ i' = .int .i64 i ∧ Ow wr w.heap.size 5 (some ⟨g, 0, none⟩) N N ((xor3 (x.take N) (y.take N) (z.take N)).take i ++ List.replicate (N - i) 0) ∧ w.grownBy wr none) (fun i' _ => N - (intOf i').toNat)
  case atStart => exact ⟨0, Nat.zero_le _, rfl, by simpa using ho13, hG13⟩
  case round =>
    obtain ⟨i, hi, rfl, ho, hg⟩ := hrel
    by_cases hlt : i < N
    · obtain ⟨b1, o1, rfl, l1⟩ := ha.addr (by omega)
      obtain ⟨b2, o2, rfl, l2⟩ := hb.addr (by omega)
      obtain ⟨b3, o3, rfl, l3⟩ := hc.addr (by omega)
      have i1 : i < x.length := by omega
      have i2 : i < y.length := by omega
      have i3 : i < z.length := by rw [hc.len]; omega
      have p1 := (ha.grown hg).at i1
      have p2 := (hb.grown hg).at i2
      have p3 := (hc.grown hg).at i3
      have u1 : x[i].toNat ^^^ y[i].toNat < 256 := Nat.xor_lt_two_pow (n := 8) x[i].toNat_lt y[i].toNat_lt
      have u2 : x[i].toNat ^^^ y[i].toNat ^^^ z[i].toNat < 256 := Nat.xor_lt_two_pow (n := 8) u1 z[i].toNat_lt
      have v1 := u8_xor_nat x[i].toNat y[i].toNat x[i].toNat_lt y[i].toNat_lt
      have v2 := u8_xor_nat (x[i].toNat ^^^ y[i].toNat) z[i].toNat u1 z[i].toNat_lt
      have hat := xor3_at (x.take N) (y.take N) (z.take N) i (by omega) (by omega) (by omega)
      simp only [List.getElem_take] at hat
      have hbv : bv (x[i] ^^^ y[i] ^^^ z[i]) = .int .u8 ((x[i].toNat ^^^ y[i].toNat ^^^ z[i].toNat : Nat) : Int) := by simp [bv, UInt8.toNat_xor]
      have hset := ho.set i (x[i] ^^^ y[i] ^^^ z[i])
      have hse : ((xor3 (x.take N) (y.take N) (z.take N)).take i ++ List.replicate (N - i) 0).set i (x[i] ^^^ y[i] ^^^ z[i]) = (xor3 (x.take N) (y.take N) (z.take N)).take (i + 1) ++ List.replicate (N - (i + 1)) 0 := by
        have h1 : ((xor3 (x.take N) (y.take N) (z.take N)).take i).length = i := by simp [hGl]; omega
        have h2 : i < (xor3 (x.take N) (y.take N) (z.take N)).length := by omega
        rw [List.getElem?_eq_getElem h2, Option.some.injEq] at hat
        rw [List.set_append_right _ _ (by omega), h1, Nat.sub_self, show N - i = (N - (i + 1)) + 1 from by omega, List.replicate_succ, List.set_cons_zero, List.take_succ_eq_append_getElem h2, hat]
        simp
      rw [hse, hbv] at hset
      replace hset := hset.grown (grown_drew _ none)
      have hj : i < ((xor3 (x.take N) (y.take N) (z.take N)).take i ++ List.replicate (N - i) 0).length := by rw [ho.len]; exact hlt
      have hcell := ho.shows.at hj
      rw [Nat.zero_add] at hcell
      have hfz := ho.there
      have hgs : w.grownBy (wr.setCell ⟨g, i, none⟩ (.int .u8 ((x[i].toNat ^^^ y[i].toNat ^^^ z[i].toNat : Nat) : Int))).drew none := grown_trans (below_of_new hg (setCell_grown _ _ _ _) hgb) (grown_drew _ none) (by simp)
      have t1 := (grown_drew _ none).cell ((setCell_grown wr g i (.int .u8 ((x[i].toNat ^^^ y[i].toNat ^^^ z[i].toNat : Nat) : Int))).cell p1 (by simp; omega)) (by simp)
      have t2 := (grown_drew _ none).cell ((setCell_grown wr g i (.int .u8 ((x[i].toNat ^^^ y[i].toNat ^^^ z[i].toNat : Nat) : Int))).cell p2 (by simp; omega)) (by simp)
      have t3 := (grown_drew _ none).cell ((setCell_grown wr g i (.int .u8 ((x[i].toNat ^^^ y[i].toNat ^^^ z[i].toNat : Nat) : Int))).cell p3 (by simp; omega)) (by simp)
      have hd4 : decide ((i : Int) < (N : Int)) = true := by simp; omega
      have q1 : wr.drew.cell? ⟨b1, o1 + i, none⟩ = _ := (grown_drew wr none).cell p1 (by simp)
      have q2 : wr.drew.cell? ⟨b2, o2 + i, none⟩ = _ := (grown_drew wr none).cell p2 (by simp)
      have q3 : wr.drew.cell? ⟨b3, o3 + i, none⟩ = _ := (grown_drew wr none).cell p3 (by simp)
      clear hat hbv hse ho
      obtain ⟨nx, hnx⟩ : ∃ nx, nx = (xor3 (x.take N) (y.take N) (z.take N)).take (i + 1) ++ List.replicate (N - (i + 1)) 0 := ⟨_, rfl⟩
      rw [← hnx] at hset
      have HNX : Hid (nx = (xor3 (x.take N) (y.take N) (z.take N)).take (i + 1) ++ List.replicate (N - (i + 1)) 0) := hnx
      clear hnx
      generalize ((xor3 (x.take N) (y.take N) (z.take N)).take i ++ List.replicate (N - i) 0)[i].toNat = old at *
      generalize x[i].toNat ^^^ y[i].toNat ^^^ z[i].toNat = V at *
      generalize x[i].toNat ^^^ y[i].toNat = U at *
      generalize x[i].toNat = c1 at *
      generalize y[i].toNat = c2 at *
      generalize z[i].toNat = c3 at *
      go_wp2_with fail
      go_region_held (fun w' => w'.cell? ⟨b1, o1 + i, none⟩ = some (.int .u8 c1) ∧ w'.cell? ⟨b2, o2 + i, none⟩ = some (.int .u8 c2) ∧ w'.cell? ⟨b3, o3 + i, none⟩ = some (.int .u8 c3))
        (first | exact ⟨q1, q2, q3⟩ | exact ⟨t1, t2, t3⟩)
        (fail)
      all_goals
        go_wp2
        go_roundw
        case rel => exact ⟨i + 1, by omega, by go_num, by rw [← HNX.out]; exact hset, hgs⟩
        case measure => simp [intOf]; omega
    · have hiN : i = N := by omega
      have hd4 : decide ((i : Int) < (N : Int)) = false := by simp; omega
      rw [hiN, Nat.sub_self, List.take_of_length_le (by omega)] at ho
      simp only [List.replicate_zero, List.append_nil] at ho
      have hx3 := sm_xor3 (x.take N) (y.take N) (z.take N) (by omega) (by omega)
      have w1 := xor_lt (sm_lt (x.take N)) (sm_lt (y.take N))
      have v1 := u32_xor_nat (sm (x.take N)) (sm (y.take N)) (sm_lt _) (sm_lt _)
      have v2 := u32_xor_nat (sm (x.take N) ^^^ sm (y.take N)) (sm (z.take N)) w1 (sm_lt _)
      have Bd := ho.shows
      have Ba := (ha.grown hg).take N hNn
      have Bb := (hb.grown hg).take N hNm
      have Bc := (hc.grown hg).take N hNk
      have r1 : (N : Int) ≤ (c : Int) := by have := ha.room; omega
      have r2 : (N : Int) ≤ (d : Int) := by have := hb.room; omega
      have r3 : (N : Int) ≤ (f : Int) := by have := hc.room; omega
      rw [← hx3] at v2
      have hDr := hD.grown hg
      clear hiN hx3 w1 ho
      generalize xor3 (x.take N) (y.take N) (z.take N) = dd at *
      generalize x.take N = xx at *
      generalize y.take N = yy at *
      generalize z.take N = zz at *
      obtain ⟨Sd, Sa, Sb, Sc, Sab, kd, ka, kb, kcc, hab, habc⟩ : ∃ Sd Sa Sb Sc Sab : Nat,
          (∀ w po, Pc w po 1 1 [dd] → Calls Tryd.prog 12 #[.slice po 1 1] w fun e w' => e = .returned (.int .u32 Sd) ∧ w.grownBy w' none) ∧
          (∀ w po, Pc w po 1 1 [xx] → Calls Tryd.prog 12 #[.slice po 1 1] w fun e w' => e = .returned (.int .u32 Sa) ∧ w.grownBy w' none) ∧
          (∀ w po, Pc w po 1 1 [yy] → Calls Tryd.prog 12 #[.slice po 1 1] w fun e w' => e = .returned (.int .u32 Sb) ∧ w.grownBy w' none) ∧
          (∀ w po, Pc w po 1 1 [zz] → Calls Tryd.prog 12 #[.slice po 1 1] w fun e w' => e = .returned (.int .u32 Sc) ∧ w.grownBy w' none) ∧
          bits .xor .u32 (Sa : Int) (Sb : Int) = (Sab : Int) ∧ bits .xor .u32 (Sab : Int) (Sc : Int) = (Sd : Int) :=
        ⟨sm dd, sm xx, sm yy, sm zz, sm xx ^^^ sm yy, fun w po h => sum_one w po _ h, fun w po h => sum_one w po _ h, fun w po h => sum_one w po _ h, fun w po h => sum_one w po _ h, v1, v2⟩
      clear v1 v2 hX hY hZ hGl hxl hyl
      go_wp2_with fail
      have hGd := grown_trans hg (grown_drew wr none) (by simp)
      have Bd' := Bd.grown (grown_drew wr none)
      have Ba' := Ba.grown (grown_drew wr none)
      have Bb' := Bb.grown (grown_drew wr none)
      have Bc' := Bc.grown (grown_drew wr none)
      have hDd := hDr.grown (grown_drew wr none)
      clear Bd Ba Bb Bc hDr hg hG13 ho13 hD
      refine wp_region_any (by kernel_rfl) ?_
      change wpAny _ _ _ _ _ _ _ (World.drew _)
      generalize wr.drew = w0 at *
      refine any_order (J := Jp w0 [(0, .slice ao n c), (1, .slice bo m d), (2, .slice co k f), (11, .int .i64 N), (12, .slice (some ⟨g, 0, none⟩) N N)]
        (fun
          | 0 => .slice (some ⟨g, 0, none⟩) N N | 2 => .int .u32 Sd | 3 => .slice ao n c | 4 => .int .i64 N | 5 => .slice ao N c | 7 => .int .u32 Sa | 8 => .slice bo m d | 9 => .int .i64 N | 10 => .slice bo N d
          | 12 => .int .u32 Sb | 13 => .int .u32 Sab | 14 => .slice co k f | 15 => .int .i64 N | 16 => .slice co N f | 18 => .int .u32 Sc | 19 => .int .u32 Sd | _ => .bool true)
        (fun
          | 1 => some dd | 6 => some xx | 11 => some yy | 17 => some zz | _ => none)) ?size ?step ?stop ?low _ _ _ _ ?init ?count
      case size => exact fun l a w h => h.size
      case low => exact low_of (by kernel_rfl)
      case count => exact left_all 25
      case init =>
        refine ⟨rfl, rfl, rfl, grown_refl _ _, fun s v hm => ?_, fun i hi hl => ?_⟩
        · simp only [List.mem_cons, Prod.mk.injEq, List.not_mem_nil, or_false] at hm
          rcases hm with ⟨rfl, rfl⟩ | ⟨rfl, rfl⟩ | ⟨rfl, rfl⟩ | ⟨rfl, rfl⟩ | ⟨rfl, rfl⟩
          all_goals exact ⟨by omega, rfl⟩
        · have h9 : (Array.replicate 25 false).getD i false = true := hl
          simp [hi] at h9
      case stop =>
        intro l a w' hJ hall
        have h6 := hJ.at 24 (by omega) (hall 24 (by simp)) rfl
        simp [slotOf] at h6
        have hGe := grown_trans hGd hJ.grown (by simp)
        have hdf := hJ.defers
        clear hJ hall
        go_wp2
        exact bodyPost_ret (v := .bool true) (by simp [results, Tryd.results7, go_sem, h6]) hdf ⟨rfl, hGe⟩
      case step =>
        intro l a w' i o hJ ho hl hdep
        have hi : i < 25 := by
          have h9 := (Array.getElem?_eq_some_iff.1 ho).1
          simpa using h9
        have e0 := (hJ.base 0 (.slice ao n c) (by simp)).2
        have e1 := (hJ.base 1 (.slice bo m d) (by simp)).2
        have e2 := (hJ.base 2 (.slice co k f) (by simp)).2
        have e11 := (hJ.base 11 (.int .i64 N) (by simp)).2
        have e12 := (hJ.base 12 (.slice (some ⟨g, 0, none⟩) N N) (by simp)).2
        match i, hi with
        | 0, _ =>
          cases ho
          refine wpOp_step rfl (fun K hK => ?_)
          go_simp
          exact hK _ _ (hJ.next 0 (by omega) _ (grown_refl _ _) ⟨fun _ => rfl, fun t ht => by cases ht⟩)
        | 1, _ =>
          cases ho
          have x1d := hdep { on := 0, ground := .data } (by simp) rfl
          have x1 := hJ.at 0 (by omega) x1d rfl
          simp [slotOf] at x1
          refine wpOp_step rfl (fun K hK => ?_)
          go_simp
          exact hK _ _ (hJ.next 1 (by omega) _ (alloc_grown _ _) ⟨(fun h => by cases h), fun t ht => by cases ht; exact ⟨_, rfl, Pc.one _ _ _ _ _ (Bd'.grown hJ.grown) 26⟩⟩)
        | 2, _ =>
          cases ho
          have x1d := hdep { on := 1, ground := .data } (by simp) rfl
          obtain ⟨x1q, x1, x1P⟩ := hJ.made 1 (by omega) x1d rfl
          simp [slotOf] at x1
          refine wpOp_step rfl (fun K hK => ?_)
          go_simp
          refine (kd _ _ x1P).mono ?_
          rintro e w2 ⟨rfl, hg2⟩
          try go_simp
          exact hK _ _ (hJ.next 2 (by omega) _ hg2 ⟨fun _ => rfl, fun t ht => by cases ht⟩)
        | 3, _ =>
          cases ho
          refine wpOp_step rfl (fun K hK => ?_)
          go_simp
          exact hK _ _ (hJ.next 3 (by omega) _ (grown_refl _ _) ⟨fun _ => rfl, fun t ht => by cases ht⟩)
        | 4, _ =>
          cases ho
          refine wpOp_step rfl (fun K hK => ?_)
          go_simp
          exact hK _ _ (hJ.next 4 (by omega) _ (grown_refl _ _) ⟨fun _ => rfl, fun t ht => by cases ht⟩)
        | 5, _ =>
          cases ho
          have x1d := hdep { on := 3, ground := .data } (by simp) rfl
          have x1 := hJ.at 3 (by omega) x1d rfl
          have x2d := hdep { on := 4, ground := .data } (by simp) rfl
          have x2 := hJ.at 4 (by omega) x2d rfl
          simp [slotOf] at x1 x2
          refine wpOp_step rfl (fun K hK => ?_)
          go_simp
          exact hK _ _ (hJ.next 5 (by omega) _ (grown_refl _ _) ⟨fun _ => rfl, fun t ht => by cases ht⟩)
        | 6, _ =>
          cases ho
          have x1d := hdep { on := 5, ground := .data } (by simp) rfl
          have x1 := hJ.at 5 (by omega) x1d rfl
          simp [slotOf] at x1
          refine wpOp_step rfl (fun K hK => ?_)
          go_simp
          exact hK _ _ (hJ.next 6 (by omega) _ (alloc_grown _ _) ⟨(fun h => by cases h), fun t ht => by cases ht; exact ⟨_, rfl, Pc.one _ _ _ _ _ (Ba'.grown hJ.grown) 26⟩⟩)
        | 7, _ =>
          cases ho
          have x1d := hdep { on := 6, ground := .data } (by simp) rfl
          obtain ⟨x1q, x1, x1P⟩ := hJ.made 6 (by omega) x1d rfl
          simp [slotOf] at x1
          refine wpOp_step rfl (fun K hK => ?_)
          go_simp
          refine (ka _ _ x1P).mono ?_
          rintro e w2 ⟨rfl, hg2⟩
          try go_simp
          exact hK _ _ (hJ.next 7 (by omega) _ hg2 ⟨fun _ => rfl, fun t ht => by cases ht⟩)
        | 8, _ =>
          cases ho
          refine wpOp_step rfl (fun K hK => ?_)
          go_simp
          exact hK _ _ (hJ.next 8 (by omega) _ (grown_refl _ _) ⟨fun _ => rfl, fun t ht => by cases ht⟩)
        | 9, _ =>
          cases ho
          refine wpOp_step rfl (fun K hK => ?_)
          go_simp
          exact hK _ _ (hJ.next 9 (by omega) _ (grown_refl _ _) ⟨fun _ => rfl, fun t ht => by cases ht⟩)
        | 10, _ =>
          cases ho
          have x1d := hdep { on := 8, ground := .data } (by simp) rfl
          have x1 := hJ.at 8 (by omega) x1d rfl
          have x2d := hdep { on := 9, ground := .data } (by simp) rfl
          have x2 := hJ.at 9 (by omega) x2d rfl
          simp [slotOf] at x1 x2
          refine wpOp_step rfl (fun K hK => ?_)
          go_simp
          exact hK _ _ (hJ.next 10 (by omega) _ (grown_refl _ _) ⟨fun _ => rfl, fun t ht => by cases ht⟩)
        | 11, _ =>
          cases ho
          have x1d := hdep { on := 10, ground := .data } (by simp) rfl
          have x1 := hJ.at 10 (by omega) x1d rfl
          simp [slotOf] at x1
          refine wpOp_step rfl (fun K hK => ?_)
          go_simp
          exact hK _ _ (hJ.next 11 (by omega) _ (alloc_grown _ _) ⟨(fun h => by cases h), fun t ht => by cases ht; exact ⟨_, rfl, Pc.one _ _ _ _ _ (Bb'.grown hJ.grown) 26⟩⟩)
        | 12, _ =>
          cases ho
          have x1d := hdep { on := 11, ground := .data } (by simp) rfl
          obtain ⟨x1q, x1, x1P⟩ := hJ.made 11 (by omega) x1d rfl
          simp [slotOf] at x1
          refine wpOp_step rfl (fun K hK => ?_)
          go_simp
          refine (kb _ _ x1P).mono ?_
          rintro e w2 ⟨rfl, hg2⟩
          try go_simp
          exact hK _ _ (hJ.next 12 (by omega) _ hg2 ⟨fun _ => rfl, fun t ht => by cases ht⟩)
        | 13, _ =>
          cases ho
          have x1d := hdep { on := 7, ground := .data } (by simp) rfl
          have x1 := hJ.at 7 (by omega) x1d rfl
          have x2d := hdep { on := 12, ground := .data } (by simp) rfl
          have x2 := hJ.at 12 (by omega) x2d rfl
          simp [slotOf] at x1 x2
          refine wpOp_step rfl (fun K hK => ?_)
          go_simp
          exact hK _ _ (hJ.next 13 (by omega) _ (grown_refl _ _) ⟨fun _ => rfl, fun t ht => by cases ht⟩)
        | 14, _ =>
          cases ho
          refine wpOp_step rfl (fun K hK => ?_)
          go_simp
          exact hK _ _ (hJ.next 14 (by omega) _ (grown_refl _ _) ⟨fun _ => rfl, fun t ht => by cases ht⟩)
        | 15, _ =>
          cases ho
          refine wpOp_step rfl (fun K hK => ?_)
          go_simp
          exact hK _ _ (hJ.next 15 (by omega) _ (grown_refl _ _) ⟨fun _ => rfl, fun t ht => by cases ht⟩)
        | 16, _ =>
          cases ho
          have x1d := hdep { on := 14, ground := .data } (by simp) rfl
          have x1 := hJ.at 14 (by omega) x1d rfl
          have x2d := hdep { on := 15, ground := .data } (by simp) rfl
          have x2 := hJ.at 15 (by omega) x2d rfl
          simp [slotOf] at x1 x2
          refine wpOp_step rfl (fun K hK => ?_)
          go_simp
          exact hK _ _ (hJ.next 16 (by omega) _ (grown_refl _ _) ⟨fun _ => rfl, fun t ht => by cases ht⟩)
        | 17, _ =>
          cases ho
          have x1d := hdep { on := 16, ground := .data } (by simp) rfl
          have x1 := hJ.at 16 (by omega) x1d rfl
          simp [slotOf] at x1
          refine wpOp_step rfl (fun K hK => ?_)
          go_simp
          exact hK _ _ (hJ.next 17 (by omega) _ (alloc_grown _ _) ⟨(fun h => by cases h), fun t ht => by cases ht; exact ⟨_, rfl, Pc.one _ _ _ _ _ (Bc'.grown hJ.grown) 26⟩⟩)
        | 18, _ =>
          cases ho
          have x1d := hdep { on := 17, ground := .data } (by simp) rfl
          obtain ⟨x1q, x1, x1P⟩ := hJ.made 17 (by omega) x1d rfl
          simp [slotOf] at x1
          refine wpOp_step rfl (fun K hK => ?_)
          go_simp
          refine (kcc _ _ x1P).mono ?_
          rintro e w2 ⟨rfl, hg2⟩
          try go_simp
          exact hK _ _ (hJ.next 18 (by omega) _ hg2 ⟨fun _ => rfl, fun t ht => by cases ht⟩)
        | 19, _ =>
          cases ho
          have x1d := hdep { on := 13, ground := .data } (by simp) rfl
          have x1 := hJ.at 13 (by omega) x1d rfl
          have x2d := hdep { on := 18, ground := .data } (by simp) rfl
          have x2 := hJ.at 18 (by omega) x2d rfl
          simp [slotOf] at x1 x2
          refine wpOp_step rfl (fun K hK => ?_)
          go_simp
          exact hK _ _ (hJ.next 19 (by omega) _ (grown_refl _ _) ⟨fun _ => rfl, fun t ht => by cases ht⟩)
        | 20, _ =>
          cases ho
          have x1d := hdep { on := 2, ground := .data } (by simp) rfl
          have x1 := hJ.at 2 (by omega) x1d rfl
          have x2d := hdep { on := 19, ground := .data } (by simp) rfl
          have x2 := hJ.at 19 (by omega) x2d rfl
          simp [slotOf] at x1 x2
          refine wpOp_step rfl (fun K hK => ?_)
          go_simp
          exact hK _ _ (hJ.next 20 (by omega) _ (grown_refl _ _) ⟨fun _ => rfl, fun t ht => by cases ht⟩)
        | 21, _ =>
          cases ho
          have x1d := hdep { on := 20, ground := .data } (by simp) rfl
          have x1 := hJ.at 20 (by omega) x1d rfl
          simp [slotOf] at x1
          refine wpOp_step rfl (fun K hK => ?_)
          go_simp
          exact hK _ _ (hJ.next 21 (by omega) _ (grown_refl _ _) ⟨fun _ => rfl, fun t ht => by cases ht⟩)
        | 22, _ =>
          cases ho
          have x1d : l.getD 21 false = true := hdep { on := 21, ground := .guard } (by simp) rfl
          have x1 := hJ.at 21 (by omega) x1d rfl
          simp [slotOf] at x1
          refine wpOp_step rfl (fun K hK => ?_)
          go_simp
          refine (works_any _ (hDd.grown hJ.grown)).mono ?_
          rintro e w2 ⟨rfl, hg2⟩
          try go_simp
          exact hK _ _ (hJ.next 22 (by omega) _ hg2 ⟨fun _ => rfl, fun t ht => by cases ht⟩)
        | 23, _ =>
          cases ho
          have x1d := hdep { on := 21, ground := .data } (by simp) rfl
          have x1 := hJ.at 21 (by omega) x1d rfl
          have x2d := hdep { on := 22, ground := .data } (by simp) rfl
          have x2 := hJ.at 22 (by omega) x2d rfl
          simp [slotOf] at x1 x2
          refine wpOp_step rfl (fun K hK => ?_)
          go_simp
          exact hK _ _ (hJ.next 23 (by omega) _ (grown_refl _ _) ⟨fun _ => rfl, fun t ht => by cases ht⟩)
        | 24, _ =>
          cases ho
          have x1d := hdep { on := 23, ground := .data } (by simp) rfl
          have x1 := hJ.at 23 (by omega) x1d rfl
          simp [slotOf] at x1
          refine wpOp_step rfl (fun K hK => ?_)
          go_simp
          exact hK _ _ (hJ.next 24 (by omega) _ (grown_refl _ _) ⟨fun _ => rfl, fun t ht => by cases ht⟩)

end Go.Proofs.YtkfpgmpjimnleaaDoor
