/-
  The document's Crash.
-/
import Derived.Test.YthkbakaodbceiaaBe
namespace Go.Proofs.Ythkbakaodbceiaa
open Go.RowKit
set_option linter.unusedVariables false

theorem tmods (x : Int) (k : Nat) (hx : 0 ≤ x) (hk : 0 < k) : ∃ y : Nat, x.tmod (k : Int) = (y : Int) ∧ x % (k : Int) = (y : Int) ∧ y < k := by
  have h1 : 0 ≤ x % (k : Int) := Int.emod_nonneg _ (by omega)
  have h2 : x % (k : Int) < (k : Int) := Int.emod_lt_of_pos _ (by omega)
  refine ⟨(x % (k : Int)).toNat, ?_, by omega, by omega⟩
  rw [Int.tmod_eq_emod_of_nonneg hx]
  omega

section
variable {w : World} {T : Nat → Prop} {rb : Nat} {L : List Rf} {fs : List (Int × Int)} {st : Int}

set_option maxRecDepth 100000 in
set_option maxHeartbeats 8000000 in
theorem crash_r (h : Rv w T rb L fs st) (hl : L.length ≤ 4000) (hsz : ∀ f ∈ L, f.la ≤ f.bs.length ∧ f.bs.length ≤ 1000000000000) (o : Option Addr) (pn pc : Nat) (l : List Int) (hi : Ip w o pn l) (hpn : pn ≤ 1000000000000) (hpos : ∀ x ∈ l, 0 ≤ x ∧ x < 9223372036854775808) :
    Calls Try.prog 34 #[.pointer (some ⟨rb, 0, none⟩), .slice o pn pc] w fun e w' => ∃ z vp vo, e = .returned (.tuple #[.pointer (some ⟨z, 0, none⟩), vp, vo, .int .i64 0]) ∧ (∃ T', Rv w' T' z (cgs l L).2 [] 0 ∧ ∀ k, T' k → w.heap.size ≤ k) ∧ w'.ownsRow w.heap.size 3 1 vp (cgs l L).1.length ((cgs l L).1.map (.int .i64)) ∧ w.grownBy w' none := by
  obtain ⟨ao, ac, fo, fn, fc, c0, _, _, _, hr, _⟩ := h.cells
  have hrm := hr.room
  unfold maxLen at hrm
  obtain ⟨hrm1, hrm2⟩ := hrm
  have HR : Hid _ := hr
  have hlen := hi.len
  have hcell : ∀ i x, l[i]? = some x → ∃ q f, o = some ⟨q, f, none⟩ ∧ w.cell? ⟨q, f + i, none⟩ = some (.int .i64 x) := hi.k
  clear hr h hi
  go_enter Try.func34, Try.ntmps34
  go_wp2_with fail
  go_loopw [8] (fun i wr => ∃ k : Nat, i = .int .i64 k ∧ k ≤ pn ∧ w = wr) (fun i _ => pn - (intOf i).toNat)
  case atStart => exact ⟨0, rfl, Nat.zero_le _, rfl⟩
  case round =>
    obtain ⟨k, rfl, hk, rfl⟩ := hrel
    by_cases hlt : k < pn
    · have hdd : decide ((k : Int) < (pn : Int)) = true := by simp; omega
      obtain ⟨x, hx⟩ : ∃ x, l[k]? = some x := ⟨_, List.getElem?_eq_getElem (by omega)⟩
      obtain ⟨q, f, rfl, hq⟩ := hcell k x hx
      have hx0 := (hpos x (List.mem_of_getElem? hx)).1
      have i1 : (0 : Int) ≤ (k : Int) := by omega
      have i2 : (k : Int) < (pn : Int) := by omega
      have hdx : decide (x < 0) = false := by simp; omega
      clear hcell hx HR
      go_wp2
      go_roundw
      case rel => exact ⟨k + 1, by go_num, by omega, by trivial⟩
      case measure => simp [intOf]; omega
    · obtain rfl : pn = k := by omega
      have hdd : decide ((pn : Int) < (pn : Int)) = false := by simp
      have hga := alloc_grown w (.cells #[.slice none 0 0, .slice none 0 0, .int .i64 0] 89)
      have hka := World.alloc_heap_new w (.cells #[.slice none 0 0, .slice none 0 0, .int .i64 0] 89)
      have hC0 : Hid (Ci w (w.alloc (.cells #[.slice none 0 0, .slice none 0 0, .int .i64 0] 89)) w.heap.size [] [] (.slice none 0 0) (.slice none 0 0) 0) := ⟨hga, ⟨none, 0, hka, Rr.nil _ _⟩, Nat.le_refl _, World.ownsRow_nil _ _ _ _, ⟨[], World.ownsRow_nil _ _ _ _⟩, fun a b e => by cases e⟩
      have hcl : Hid _ := hcell
      have hsz' : Hid _ := hsz
      clear hka hga hcell hsz
      go_wp2_with fail
      have hcell := hcl.out
      have hsz := hsz'.out
      go_loopw [10, 11, 12] (fun vp vo i' wv => ∃ (i m : Nat), i' = .int .i64 i ∧ i ≤ L.length ∧ m ≤ 2 * i ∧ Ci w wv w.heap.size (cgs l (L.take i)).2 (cgs l (L.take i)).1 vp vo m) (fun _ _ i' _ => L.length - (intOf i').toNat)
      case atStart => exact ⟨0, 0, rfl, Nat.zero_le _, Nat.zero_le _, hC0.out⟩
      case round =>
        clear hC0 hcl hsz'
        obtain ⟨i, m, rfl, hi, hm, hC⟩ := hrel
        have hgw := hC.g
        have c0r := hgw.cell c0 (by simp)
        have hrr := HR.out.own hgw (fun r e => by cases e)
        have hws := hgw.size
        by_cases hlt : i < L.length
        · have dl : decide ((i : Int) < (L.length : Int)) = true := by simp; omega
          have dl2 : decide (i < L.length) = true := by simpa using hlt
          obtain ⟨f, hf⟩ : ∃ f, L[i]? = some f := ⟨_, List.getElem?_eq_getElem hlt⟩
          obtain ⟨g, rfl, _, _⟩ := hrr.addr (by omega)
          have q0 := hrr.at hf 0 (by decide)
          have q1 := hrr.at hf 1 (by decide)
          have q2 := hrr.at hf 2 (by decide)
          have q3 := hrr.at hf 3 (by decide)
          have q4 := hrr.at hf 4 (by decide)
          simp only [Rf.cells, List.getElem?_cons_zero, List.getElem?_cons_succ, Nat.add_zero] at q0 q1 q2 q3 q4
          have i1 : (0 : Int) ≤ (i : Int) := by omega
          have i2 : (i : Int) < (L.length : Int) := by omega
          have wz : IntKind.i64.wrap ((i : Int) + 1) = ((i + 1 : Nat) : Int) := by rw [IntWalk.i64_in _ (by omega)]; push_cast; rfl
          have htk : L.take (i + 1) = L.take i ++ [f] := by rw [List.take_add_one, hf]; rfl
          have hnext : Hid (cgs l (L.take (i + 1)) = cgS l (cgs l (L.take i)) f) := (by show _ = _; rw [htk, cgs_snoc])
          have hcl := cgs_len l (L.take i)
          rw [List.length_take, Nat.min_eq_left hi] at hcl
          obtain ⟨hcl1, hcl2⟩ := hcl
          obtain ⟨hla, hbl⟩ := hsz f (List.mem_of_getElem? hf)
          clear hf htk hrr hsz hdd
          obtain ⟨P, M, hPM⟩ : ∃ P M, cgs l (L.take i) = (P, M) := ⟨_, _, rfl⟩
          rw [hPM] at hC hcl1 hcl2 hnext
          clear hPM
          dsimp only at hC hcl1 hcl2
          obtain ⟨po, pc0, hvp⟩ := hC.shapeP
          subst hvp
          obtain ⟨n, hn⟩ : ∃ n, P.length = n := ⟨_, rfl⟩
          rw [hn] at hC hcl1 ⊢
          obtain ⟨fs0, fb, la, th, nl⟩ := f
          dsimp only at q0 q1 q2 q3 q4 hla hbl
          have hJ := Cj.new (f := ⟨fs0, fb, la, th, nl⟩) hC
          dsimp only at hJ
          obtain ⟨z0, z1, z2, z3, z4⟩ := hJ.cells
          dsimp only at z0 z1 z2 z3 z4
          have hln : (⟨fb.toArray⟩ : ByteArray).size = fb.length := by simp [ByteArray.size]
          obtain ⟨u, hu⟩ : ∃ u, fb.length - la = u := ⟨_, rfl⟩
          obtain ⟨u1, hu1⟩ : ∃ u1, u + 1 = u1 := ⟨_, rfl⟩
          have wu : IntKind.i64.wrap ((fb.length : Int) - (la : Int)) = (u : Int) := by rw [IntWalk.i64_in _ (by omega)]; omega
          have wu1 : IntKind.i64.wrap ((u : Int) + 1) = (u1 : Int) := by rw [IntWalk.i64_in _ (by omega)]; omega
          have wla : IntKind.i64.wrap (la : Int) = (la : Int) := by rw [IntWalk.i64_in _ (by omega)]
          clear hC
          cases th with
          | false =>
            obtain ⟨n1, hn1⟩ : ∃ n1, n + 1 = n1 := ⟨_, rfl⟩
            obtain ⟨m1, hm1⟩ : ∃ m1, m + 1 = m1 := ⟨_, rfl⟩
            by_cases hin : n < pn
            · have dn : decide ((n : Int) < (pn : Int)) = true := by simp; omega
              have dn' : decide (n < pn) = true := by simp; omega
              obtain ⟨x, hx⟩ : ∃ x, l[n]? = some x := ⟨_, List.getElem?_eq_getElem (by omega)⟩
              obtain ⟨q, f0, ho, hq⟩ := hcell n x hx
              subst ho
              have hc1 := hJ.c.g.cell hq (by simp)
              obtain ⟨hx0, hx1⟩ := hpos x (List.mem_of_getElem? hx)
              have i3 : (0 : Int) ≤ (n : Int) := by omega
              have i4 : (n : Int) < (pn : Int) := by omega
              obtain ⟨y, hya, hyb, hyc⟩ := tmods x 2 hx0 (by omega)
              have hp2 : Hid (pickR l n 2 = (y : Int)) := (by show _ = _; unfold pickR; rw [hx]; exact hyb)
              change x.tmod 2 = (y : Int) at hya
              change x % 2 = (y : Int) at hyb
              clear hx hq
              go_wp2_with (at_builtin; (refine wpList_pushP rfl _ _ rfl hJ rfl (y : Int) (by first | rfl | (simp only [World.size_alloc]; rfl)) (by first | omega | (simp; omega)) (n1 := n1) ?_ ?_))
              · first | omega | (simp; omega)
              intro J1o J1c J1w J1
              clear z0 z1 z2 z3 z4
              obtain ⟨z0, z1, z2, z3, z4⟩ := J1.cells
              dsimp only at z0 z1 z2 z3 z4
              go_wp2_with (at_builtin; (refine wpList_pushO rfl _ _ rfl J1 rfl 2 (by first | rfl | (simp only [World.size_alloc]; rfl)) (by first | omega | (simp; omega)) (m1 := m1) ?_ ?_))
              · first | omega | (simp; omega)
              intro J2o J2c J2w J2
              clear z0 z1 z2 z3 z4
              obtain ⟨z0, z1, z2, z3, z4⟩ := J2.cells
              dsimp only at z0 z1 z2 z3 z4
              by_cases hy : y = 0
              · subst hy
                have dy : (((0 : Nat) : Int) == 0) = true := by simp
                have hfin : Hid (cgs l (L.take (i + 1)) = (P ++ [((0 : Nat) : Int)], M)) := (by show _ = _; rw [hnext.out]; simp [cgS, cgF, hn, hp2.out])
                have hC9 : Hid _ := J2.c
                clear z0 z1 z2 z3 z4
                go_wp2
                go_roundw
                case rel => exact ⟨i + 1, m1, by first | rfl | simp, by omega, by omega, by rw [hfin.out]; first | exact hC9.out | simpa using hC9.out⟩
                case measure => simp [intOf]; omega
              · have dy : ((y : Int) == 0) = false := by simp; omega
                have dy2 : ¬ ((y : Int) = 0) := by omega
                go_wp2_with fail
                refine wp_mono (reg34 _ wr.heap.size la fs0 ⟨fb.toArray⟩ fb (ba_take0 fb la (by omega)) (by rw [hln]; omega) J2.c (by omega) z0 z1 ⟨_, J2.k⟩ (fun ro rc _ hc => J2.n _ _ _ hc) _ _ _ _ _ _ _ _ _ _ _ _ _ _ _ _ _ _ _ _ _ _ _ _ _ _ _ _ _ _ _ _ _ _ _ _ _ _ _ _ _ _ _ _ _ _ _ _ _ _ _ _ _ _ _ _ _ _ _ _ _ _ _ _ _ _ _ _ _ _ _ _ _ _ _ _ _ _ _ _ _ _ _ _ _ _ _ _ _ _ _ _ _ _ _ _ _ _ _ _ _ _ _ _ _ _ _ _ _ _ _ _ _ _ _ _ _ _ _ _ _ _ _ _ _ _ _ _ _ _ _ _) ?_
                rintro e a' w9 ⟨rfl, u114, u115, u116, u117, u118, u119, u120, u121, u122, u123, u124, u125, u126, u127, u128, u129, u130, rfl, hC9'⟩
                have hC9 : Hid _ := hC9'
                have hfin : Hid (cgs l (L.take (i + 1)) = (P ++ [(y : Int)], M ++ [⟨fs0, fb.take la, la, true, true⟩])) := (by show _ = _; rw [hnext.out]; simp [cgS, cgF, cgU, hn, hp2.out, hy])
                clear z0 z1 z2 z3 z4 hC9'
                go_wp2
                go_roundw
                case rel => exact ⟨i + 1, m1, by first | rfl | simp, by omega, by omega, by rw [hfin.out]; first | exact hC9.out | simpa using hC9.out⟩
                case measure => simp [intOf]; omega
            · have dn : decide ((n : Int) < (pn : Int)) = false := by simp; omega
              have dn' : decide (n < pn) = false := by simp; omega
              have hp2 : Hid (pickR l n 2 = 0) := (by show _ = _; unfold pickR; rw [List.getElem?_eq_none (by omega)])
              go_wp2_with (at_builtin; (refine wpList_pushP rfl _ _ rfl hJ rfl 0 (by first | rfl | (simp only [World.size_alloc]; rfl)) (by first | omega | (simp; omega)) (n1 := n1) ?_ ?_))
              · first | omega | (simp; omega)
              intro J1o J1c J1w J1
              clear z0 z1 z2 z3 z4
              obtain ⟨z0, z1, z2, z3, z4⟩ := J1.cells
              dsimp only at z0 z1 z2 z3 z4
              go_wp2_with (at_builtin; (refine wpList_pushO rfl _ _ rfl J1 rfl 2 (by first | rfl | (simp only [World.size_alloc]; rfl)) (by first | omega | (simp; omega)) (m1 := m1) ?_ ?_))
              · first | omega | (simp; omega)
              intro J2o J2c J2w J2
              clear z0 z1 z2 z3 z4
              obtain ⟨z0, z1, z2, z3, z4⟩ := J2.cells
              dsimp only at z0 z1 z2 z3 z4
              have hfin : Hid (cgs l (L.take (i + 1)) = (P ++ [0], M)) := (by show _ = _; rw [hnext.out]; simp [cgS, cgF, hn, hp2.out])
              have hC9 : Hid _ := J2.c
              clear z0 z1 z2 z3 z4
              go_wp2
              go_roundw
              case rel => exact ⟨i + 1, m1, by first | rfl | simp, by omega, by omega, by rw [hfin.out]; first | exact hC9.out | simpa using hC9.out⟩
              case measure => simp [intOf]; omega
          | true =>
            cases nl with
            | false =>
              obtain ⟨n1, hn1⟩ : ∃ n1, n + 1 = n1 := ⟨_, rfl⟩
              obtain ⟨m1, hm1⟩ : ∃ m1, m + 1 = m1 := ⟨_, rfl⟩
              by_cases hin : n < pn
              · have dn : decide ((n : Int) < (pn : Int)) = true := by simp; omega
                have dn' : decide (n < pn) = true := by simp; omega
                obtain ⟨x, hx⟩ : ∃ x, l[n]? = some x := ⟨_, List.getElem?_eq_getElem (by omega)⟩
                obtain ⟨q, f0, ho, hq⟩ := hcell n x hx
                subst ho
                have hc1 := hJ.c.g.cell hq (by simp)
                obtain ⟨hx0, hx1⟩ := hpos x (List.mem_of_getElem? hx)
                have i3 : (0 : Int) ≤ (n : Int) := by omega
                have i4 : (n : Int) < (pn : Int) := by omega
                obtain ⟨y, hya, hyb, hyc⟩ := tmods x 2 hx0 (by omega)
                have hp2 : Hid (pickR l n 2 = (y : Int)) := (by show _ = _; unfold pickR; rw [hx]; exact hyb)
                change x.tmod 2 = (y : Int) at hya
                change x % 2 = (y : Int) at hyb
                clear hx hq
                go_wp2_with (at_builtin; (refine wpList_pushP rfl _ _ rfl hJ rfl (y : Int) (by first | rfl | (simp only [World.size_alloc]; rfl)) (by first | omega | (simp; omega)) (n1 := n1) ?_ ?_))
                · first | omega | (simp; omega)
                intro J1o J1c J1w J1
                clear z0 z1 z2 z3 z4
                obtain ⟨z0, z1, z2, z3, z4⟩ := J1.cells
                dsimp only at z0 z1 z2 z3 z4
                go_wp2_with (at_builtin; (refine wpList_pushO rfl _ _ rfl J1 rfl 2 (by first | rfl | (simp only [World.size_alloc]; rfl)) (by first | omega | (simp; omega)) (m1 := m1) ?_ ?_))
                · first | omega | (simp; omega)
                intro J2o J2c J2w J2
                clear z0 z1 z2 z3 z4
                obtain ⟨z0, z1, z2, z3, z4⟩ := J2.cells
                dsimp only at z0 z1 z2 z3 z4
                by_cases hy : y = 0
                · subst hy
                  have dy : (((0 : Nat) : Int) == 0) = true := by simp
                  have hfin : Hid (cgs l (L.take (i + 1)) = (P ++ [((0 : Nat) : Int)], M)) := (by show _ = _; rw [hnext.out]; simp [cgS, cgF, hn, hp2.out])
                  have hC9 : Hid _ := J2.c
                  clear z0 z1 z2 z3 z4
                  go_wp2
                  go_roundw
                  case rel => exact ⟨i + 1, m1, by first | rfl | simp, by omega, by omega, by rw [hfin.out]; first | exact hC9.out | simpa using hC9.out⟩
                  case measure => simp [intOf]; omega
                · have dy : ((y : Int) == 0) = false := by simp; omega
                  have dy2 : ¬ ((y : Int) = 0) := by omega
                  by_cases hul : la < fb.length
                  · have du : decide ((u : Int) > 0) = true := by simp; omega
                    have du2 : decide (0 < (u : Int)) = true := by simp; omega
                    have du3 : decide (0 < u) = true := by simp; omega
                    obtain ⟨n2, hn2⟩ : ∃ n2, n1 + 1 = n2 := ⟨_, rfl⟩
                    obtain ⟨m2, hm2⟩ : ∃ m2, m1 + 1 = m2 := ⟨_, rfl⟩
                    by_cases hin2 : n1 < pn
                    · have dn2 : decide ((n1 : Int) < (pn : Int)) = true := by simp; omega
                      have dn3 : decide (n1 < pn) = true := by simp; omega
                      obtain ⟨x2, hx2⟩ : ∃ x, l[n1]? = some x := ⟨_, List.getElem?_eq_getElem (by omega)⟩
                      obtain ⟨q2, f2, ho2, hq2⟩ := hcell n1 x2 hx2
                      cases ho2
                      have hc2 := J2.c.g.cell hq2 (by simp)
                      obtain ⟨hx20, hx21⟩ := hpos x2 (List.mem_of_getElem? hx2)
                      have j1 : (0 : Int) ≤ (n1 : Int) := by omega
                      have j2 : (n1 : Int) < (pn : Int) := by omega
                      have hu0 : ¬ (u1 : Int) = 0 := by omega
                      obtain ⟨qn, hqa, hqb, hqc⟩ := tmods x2 u1 hx20 (by omega)
                      have hp3 : Hid (pickR l n1 (((fb.length - la : Nat) : Int) + 1) = (qn : Int)) := (by show _ = _; rw [show ((fb.length - la : Nat) : Int) + 1 = (u1 : Int) by omega]; unfold pickR; rw [hx2]; exact hqb)
                      obtain ⟨k9, hk9⟩ : ∃ k9, la + qn = k9 := ⟨_, rfl⟩
                      have wk : IntKind.i64.wrap ((la : Int) + (qn : Int)) = (k9 : Int) := by rw [IntWalk.i64_in _ (by omega)]; omega
                      clear hx2
                      go_wp2_with (at_builtin; (refine wpList_pushP rfl _ _ rfl J2 rfl (qn : Int) (by first | rfl | (simp only [World.size_alloc]; rfl)) (by first | omega | (simp; omega)) (n1 := n2) ?_ ?_))
                      · first | omega | (simp; omega)
                      intro K1o K1c K1w K1
                      clear z0 z1 z2 z3 z4
                      obtain ⟨z0, z1, z2, z3, z4⟩ := K1.cells
                      dsimp only at z0 z1 z2 z3 z4
                      go_wp2_with (at_builtin; (refine wpList_pushO rfl _ _ rfl K1 rfl (u1 : Int) (by first | rfl | (simp only [World.size_alloc]; rfl)) (by first | omega | (simp; omega)) (m1 := m2) ?_ ?_))
                      · first | omega | (simp; omega)
                      intro K2o K2c K2w K2
                      clear z0 z1 z2 z3 z4
                      obtain ⟨z0, z1, z2, z3, z4⟩ := K2.cells
                      dsimp only at z0 z1 z2 z3 z4
                      go_wp2_with fail
                      refine wp_mono (reg34 _ wr.heap.size k9 fs0 ⟨fb.toArray⟩ fb (ba_take0 fb k9 (by omega)) (by rw [hln]; omega) K2.c (by omega) z0 z1 ⟨_, K2.k⟩ (fun ro rc _ hc => K2.n _ _ _ hc) _ _ _ _ _ _ _ _ _ _ _ _ _ _ _ _ _ _ _ _ _ _ _ _ _ _ _ _ _ _ _ _ _ _ _ _ _ _ _ _ _ _ _ _ _ _ _ _ _ _ _ _ _ _ _ _ _ _ _ _ _ _ _ _ _ _ _ _ _ _ _ _ _ _ _ _ _ _ _ _ _ _ _ _ _ _ _ _ _ _ _ _ _ _ _ _ _ _ _ _ _ _ _ _ _ _ _ _ _ _ _ _ _ _ _ _ _ _ _ _ _ _ _ _ _ _ _ _ _ _ _ _) ?_
                      rintro e a' w9 ⟨rfl, u114, u115, u116, u117, u118, u119, u120, u121, u122, u123, u124, u125, u126, u127, u128, u129, u130, rfl, hC9'⟩
                      have hC9 : Hid _ := hC9'
                      have hfin : Hid (cgs l (L.take (i + 1)) = (P ++ [(y : Int)] ++ [(qn : Int)], M ++ [⟨fs0, fb.take k9, k9, true, true⟩])) := (by show _ = _; rw [hnext.out]; simp [cgS, cgF, cgU, hn, hp2.out, hy, hul, hp3.out, hk9, hn1])
                      clear z0 z1 z2 z3 z4 hC9'
                      go_wp2
                      go_roundw
                      case rel => exact ⟨i + 1, m2, by first | rfl | simp, by omega, by omega, by rw [hfin.out]; first | exact hC9.out | simpa using hC9.out⟩
                      case measure => simp [intOf]; omega
                    · have dn2 : decide ((n1 : Int) < (pn : Int)) = false := by simp; omega
                      have dn3 : decide (n1 < pn) = false := by simp; omega
                      have hp3 : Hid (pickR l n1 (((fb.length - la : Nat) : Int) + 1) = 0) := (by show _ = _; unfold pickR; rw [List.getElem?_eq_none (by omega)])
                      go_wp2_with (at_builtin; (refine wpList_pushP rfl _ _ rfl J2 rfl 0 (by first | rfl | (simp only [World.size_alloc]; rfl)) (by first | omega | (simp; omega)) (n1 := n2) ?_ ?_))
                      · first | omega | (simp; omega)
                      intro K1o K1c K1w K1
                      clear z0 z1 z2 z3 z4
                      obtain ⟨z0, z1, z2, z3, z4⟩ := K1.cells
                      dsimp only at z0 z1 z2 z3 z4
                      go_wp2_with (at_builtin; (refine wpList_pushO rfl _ _ rfl K1 rfl (u1 : Int) (by first | rfl | (simp only [World.size_alloc]; rfl)) (by first | omega | (simp; omega)) (m1 := m2) ?_ ?_))
                      · first | omega | (simp; omega)
                      intro K2o K2c K2w K2
                      clear z0 z1 z2 z3 z4
                      obtain ⟨z0, z1, z2, z3, z4⟩ := K2.cells
                      dsimp only at z0 z1 z2 z3 z4
                      go_wp2_with fail
                      refine wp_mono (reg34 _ wr.heap.size la fs0 ⟨fb.toArray⟩ fb (ba_take0 fb la (by omega)) (by rw [hln]; omega) K2.c (by omega) z0 z1 ⟨_, K2.k⟩ (fun ro rc _ hc => K2.n _ _ _ hc) _ _ _ _ _ _ _ _ _ _ _ _ _ _ _ _ _ _ _ _ _ _ _ _ _ _ _ _ _ _ _ _ _ _ _ _ _ _ _ _ _ _ _ _ _ _ _ _ _ _ _ _ _ _ _ _ _ _ _ _ _ _ _ _ _ _ _ _ _ _ _ _ _ _ _ _ _ _ _ _ _ _ _ _ _ _ _ _ _ _ _ _ _ _ _ _ _ _ _ _ _ _ _ _ _ _ _ _ _ _ _ _ _ _ _ _ _ _ _ _ _ _ _ _ _ _ _ _ _ _ _ _) ?_
                      rintro e a' w9 ⟨rfl, u114, u115, u116, u117, u118, u119, u120, u121, u122, u123, u124, u125, u126, u127, u128, u129, u130, rfl, hC9'⟩
                      have hC9 : Hid _ := hC9'
                      have hfin : Hid (cgs l (L.take (i + 1)) = (P ++ [(y : Int)] ++ [0], M ++ [⟨fs0, fb.take la, la, true, true⟩])) := (by show _ = _; rw [hnext.out]; simp [cgS, cgF, cgU, hn, hp2.out, hy, hul, hp3.out, hn1])
                      clear z0 z1 z2 z3 z4 hC9'
                      go_wp2
                      go_roundw
                      case rel => exact ⟨i + 1, m2, by first | rfl | simp, by omega, by omega, by rw [hfin.out]; first | exact hC9.out | simpa using hC9.out⟩
                      case measure => simp [intOf]; omega
                  · have du : decide ((u : Int) > 0) = false := by simp; omega
                    have du2 : decide (0 < (u : Int)) = false := by simp; omega
                    have du3 : decide (0 < u) = false := by simp; omega
                    go_wp2_with fail
                    refine wp_mono (reg34 _ wr.heap.size la fs0 ⟨fb.toArray⟩ fb (ba_take0 fb la (by omega)) (by rw [hln]; omega) J2.c (by omega) z0 z1 ⟨_, J2.k⟩ (fun ro rc _ hc => J2.n _ _ _ hc) _ _ _ _ _ _ _ _ _ _ _ _ _ _ _ _ _ _ _ _ _ _ _ _ _ _ _ _ _ _ _ _ _ _ _ _ _ _ _ _ _ _ _ _ _ _ _ _ _ _ _ _ _ _ _ _ _ _ _ _ _ _ _ _ _ _ _ _ _ _ _ _ _ _ _ _ _ _ _ _ _ _ _ _ _ _ _ _ _ _ _ _ _ _ _ _ _ _ _ _ _ _ _ _ _ _ _ _ _ _ _ _ _ _ _ _ _ _ _ _ _ _ _ _ _ _ _ _ _ _ _ _) ?_
                    rintro e a' w9 ⟨rfl, u114, u115, u116, u117, u118, u119, u120, u121, u122, u123, u124, u125, u126, u127, u128, u129, u130, rfl, hC9'⟩
                    have hC9 : Hid _ := hC9'
                    have hfin : Hid (cgs l (L.take (i + 1)) = (P ++ [(y : Int)], M ++ [⟨fs0, fb.take la, la, true, true⟩])) := (by show _ = _; rw [hnext.out]; simp [cgS, cgF, cgU, hn, hp2.out, hy, hul])
                    clear z0 z1 z2 z3 z4 hC9'
                    go_wp2
                    go_roundw
                    case rel => exact ⟨i + 1, m1, by first | rfl | simp, by omega, by omega, by rw [hfin.out]; first | exact hC9.out | simpa using hC9.out⟩
                    case measure => simp [intOf]; omega
              · have dn : decide ((n : Int) < (pn : Int)) = false := by simp; omega
                have dn' : decide (n < pn) = false := by simp; omega
                have hp2 : Hid (pickR l n 2 = 0) := (by show _ = _; unfold pickR; rw [List.getElem?_eq_none (by omega)])
                go_wp2_with (at_builtin; (refine wpList_pushP rfl _ _ rfl hJ rfl 0 (by first | rfl | (simp only [World.size_alloc]; rfl)) (by first | omega | (simp; omega)) (n1 := n1) ?_ ?_))
                · first | omega | (simp; omega)
                intro J1o J1c J1w J1
                clear z0 z1 z2 z3 z4
                obtain ⟨z0, z1, z2, z3, z4⟩ := J1.cells
                dsimp only at z0 z1 z2 z3 z4
                go_wp2_with (at_builtin; (refine wpList_pushO rfl _ _ rfl J1 rfl 2 (by first | rfl | (simp only [World.size_alloc]; rfl)) (by first | omega | (simp; omega)) (m1 := m1) ?_ ?_))
                · first | omega | (simp; omega)
                intro J2o J2c J2w J2
                clear z0 z1 z2 z3 z4
                obtain ⟨z0, z1, z2, z3, z4⟩ := J2.cells
                dsimp only at z0 z1 z2 z3 z4
                have hfin : Hid (cgs l (L.take (i + 1)) = (P ++ [0], M)) := (by show _ = _; rw [hnext.out]; simp [cgS, cgF, hn, hp2.out])
                have hC9 : Hid _ := J2.c
                clear z0 z1 z2 z3 z4
                go_wp2
                go_roundw
                case rel => exact ⟨i + 1, m1, by first | rfl | simp, by omega, by omega, by rw [hfin.out]; first | exact hC9.out | simpa using hC9.out⟩
                case measure => simp [intOf]; omega
            | true =>
              by_cases hul : la < fb.length
              · have du : decide ((u : Int) > 0) = true := by simp; omega
                have du2 : decide (0 < (u : Int)) = true := by simp; omega
                have du3 : decide (0 < u) = true := by simp; omega
                obtain ⟨n1, hn1⟩ : ∃ n1, n + 1 = n1 := ⟨_, rfl⟩
                obtain ⟨m1, hm1⟩ : ∃ m1, m + 1 = m1 := ⟨_, rfl⟩
                by_cases hin2 : n < pn
                · have dn2 : decide ((n : Int) < (pn : Int)) = true := by simp; omega
                  have dn3 : decide (n < pn) = true := by simp; omega
                  obtain ⟨x2, hx2⟩ : ∃ x, l[n]? = some x := ⟨_, List.getElem?_eq_getElem (by omega)⟩
                  obtain ⟨q2, f2, ho2, hq2⟩ := hcell n x2 hx2
                  cases ho2
                  have hc2 := hJ.c.g.cell hq2 (by simp)
                  obtain ⟨hx20, hx21⟩ := hpos x2 (List.mem_of_getElem? hx2)
                  have j1 : (0 : Int) ≤ (n : Int) := by omega
                  have j2 : (n : Int) < (pn : Int) := by omega
                  have hu0 : ¬ (u1 : Int) = 0 := by omega
                  obtain ⟨qn, hqa, hqb, hqc⟩ := tmods x2 u1 hx20 (by omega)
                  have hp3 : Hid (pickR l n (((fb.length - la : Nat) : Int) + 1) = (qn : Int)) := (by show _ = _; rw [show ((fb.length - la : Nat) : Int) + 1 = (u1 : Int) by omega]; unfold pickR; rw [hx2]; exact hqb)
                  obtain ⟨k9, hk9⟩ : ∃ k9, la + qn = k9 := ⟨_, rfl⟩
                  have wk : IntKind.i64.wrap ((la : Int) + (qn : Int)) = (k9 : Int) := by rw [IntWalk.i64_in _ (by omega)]; omega
                  clear hx2
                  go_wp2_with (at_builtin; (refine wpList_pushP rfl _ _ rfl hJ rfl (qn : Int) (by first | rfl | (simp only [World.size_alloc]; rfl)) (by first | omega | (simp; omega)) (n1 := n1) ?_ ?_))
                  · first | omega | (simp; omega)
                  intro K1o K1c K1w K1
                  clear z0 z1 z2 z3 z4
                  obtain ⟨z0, z1, z2, z3, z4⟩ := K1.cells
                  dsimp only at z0 z1 z2 z3 z4
                  go_wp2_with (at_builtin; (refine wpList_pushO rfl _ _ rfl K1 rfl (u1 : Int) (by first | rfl | (simp only [World.size_alloc]; rfl)) (by first | omega | (simp; omega)) (m1 := m1) ?_ ?_))
                  · first | omega | (simp; omega)
                  intro K2o K2c K2w K2
                  clear z0 z1 z2 z3 z4
                  obtain ⟨z0, z1, z2, z3, z4⟩ := K2.cells
                  dsimp only at z0 z1 z2 z3 z4
                  go_wp2_with fail
                  refine wp_mono (reg34 _ wr.heap.size k9 fs0 ⟨fb.toArray⟩ fb (ba_take0 fb k9 (by omega)) (by rw [hln]; omega) K2.c (by omega) z0 z1 ⟨_, K2.k⟩ (fun ro rc _ hc => K2.n _ _ _ hc) _ _ _ _ _ _ _ _ _ _ _ _ _ _ _ _ _ _ _ _ _ _ _ _ _ _ _ _ _ _ _ _ _ _ _ _ _ _ _ _ _ _ _ _ _ _ _ _ _ _ _ _ _ _ _ _ _ _ _ _ _ _ _ _ _ _ _ _ _ _ _ _ _ _ _ _ _ _ _ _ _ _ _ _ _ _ _ _ _ _ _ _ _ _ _ _ _ _ _ _ _ _ _ _ _ _ _ _ _ _ _ _ _ _ _ _ _ _ _ _ _ _ _ _ _ _ _ _ _ _ _ _) ?_
                  rintro e a' w9 ⟨rfl, u114, u115, u116, u117, u118, u119, u120, u121, u122, u123, u124, u125, u126, u127, u128, u129, u130, rfl, hC9'⟩
                  have hC9 : Hid _ := hC9'
                  have hfin : Hid (cgs l (L.take (i + 1)) = (P ++ [(qn : Int)], M ++ [⟨fs0, fb.take k9, k9, true, true⟩])) := (by show _ = _; rw [hnext.out]; simp [cgS, cgF, cgU, hn, hul, hp3.out, hk9])
                  clear z0 z1 z2 z3 z4 hC9'
                  go_wp2
                  go_roundw
                  case rel => exact ⟨i + 1, m1, by first | rfl | simp, by omega, by omega, by rw [hfin.out]; first | exact hC9.out | simpa using hC9.out⟩
                  case measure => simp [intOf]; omega
                · have dn2 : decide ((n : Int) < (pn : Int)) = false := by simp; omega
                  have dn3 : decide (n < pn) = false := by simp; omega
                  have hp3 : Hid (pickR l n (((fb.length - la : Nat) : Int) + 1) = 0) := (by show _ = _; unfold pickR; rw [List.getElem?_eq_none (by omega)])
                  go_wp2_with (at_builtin; (refine wpList_pushP rfl _ _ rfl hJ rfl 0 (by first | rfl | (simp only [World.size_alloc]; rfl)) (by first | omega | (simp; omega)) (n1 := n1) ?_ ?_))
                  · first | omega | (simp; omega)
                  intro K1o K1c K1w K1
                  clear z0 z1 z2 z3 z4
                  obtain ⟨z0, z1, z2, z3, z4⟩ := K1.cells
                  dsimp only at z0 z1 z2 z3 z4
                  go_wp2_with (at_builtin; (refine wpList_pushO rfl _ _ rfl K1 rfl (u1 : Int) (by first | rfl | (simp only [World.size_alloc]; rfl)) (by first | omega | (simp; omega)) (m1 := m1) ?_ ?_))
                  · first | omega | (simp; omega)
                  intro K2o K2c K2w K2
                  clear z0 z1 z2 z3 z4
                  obtain ⟨z0, z1, z2, z3, z4⟩ := K2.cells
                  dsimp only at z0 z1 z2 z3 z4
                  go_wp2_with fail
                  refine wp_mono (reg34 _ wr.heap.size la fs0 ⟨fb.toArray⟩ fb (ba_take0 fb la (by omega)) (by rw [hln]; omega) K2.c (by omega) z0 z1 ⟨_, K2.k⟩ (fun ro rc _ hc => K2.n _ _ _ hc) _ _ _ _ _ _ _ _ _ _ _ _ _ _ _ _ _ _ _ _ _ _ _ _ _ _ _ _ _ _ _ _ _ _ _ _ _ _ _ _ _ _ _ _ _ _ _ _ _ _ _ _ _ _ _ _ _ _ _ _ _ _ _ _ _ _ _ _ _ _ _ _ _ _ _ _ _ _ _ _ _ _ _ _ _ _ _ _ _ _ _ _ _ _ _ _ _ _ _ _ _ _ _ _ _ _ _ _ _ _ _ _ _ _ _ _ _ _ _ _ _ _ _ _ _ _ _ _ _ _ _ _) ?_
                  rintro e a' w9 ⟨rfl, u114, u115, u116, u117, u118, u119, u120, u121, u122, u123, u124, u125, u126, u127, u128, u129, u130, rfl, hC9'⟩
                  have hC9 : Hid _ := hC9'
                  have hfin : Hid (cgs l (L.take (i + 1)) = (P ++ [0], M ++ [⟨fs0, fb.take la, la, true, true⟩])) := (by show _ = _; rw [hnext.out]; simp [cgS, cgF, cgU, hn, hul, hp3.out])
                  clear z0 z1 z2 z3 z4 hC9'
                  go_wp2
                  go_roundw
                  case rel => exact ⟨i + 1, m1, by first | rfl | simp, by omega, by omega, by rw [hfin.out]; first | exact hC9.out | simpa using hC9.out⟩
                  case measure => simp [intOf]; omega
              · have du : decide ((u : Int) > 0) = false := by simp; omega
                have du2 : decide (0 < (u : Int)) = false := by simp; omega
                have du3 : decide (0 < u) = false := by simp; omega
                go_wp2_with fail
                refine wp_mono (reg34 _ wr.heap.size la fs0 ⟨fb.toArray⟩ fb (ba_take0 fb la (by omega)) (by rw [hln]; omega) hJ.c (by omega) z0 z1 ⟨_, hJ.k⟩ (fun ro rc _ hc => hJ.n _ _ _ hc) _ _ _ _ _ _ _ _ _ _ _ _ _ _ _ _ _ _ _ _ _ _ _ _ _ _ _ _ _ _ _ _ _ _ _ _ _ _ _ _ _ _ _ _ _ _ _ _ _ _ _ _ _ _ _ _ _ _ _ _ _ _ _ _ _ _ _ _ _ _ _ _ _ _ _ _ _ _ _ _ _ _ _ _ _ _ _ _ _ _ _ _ _ _ _ _ _ _ _ _ _ _ _ _ _ _ _ _ _ _ _ _ _ _ _ _ _ _ _ _ _ _ _ _ _ _ _ _ _ _ _ _) ?_
                rintro e a' w9 ⟨rfl, u114, u115, u116, u117, u118, u119, u120, u121, u122, u123, u124, u125, u126, u127, u128, u129, u130, rfl, hC9'⟩
                have hC9 : Hid _ := hC9'
                have hfin : Hid (cgs l (L.take (i + 1)) = (P, M ++ [⟨fs0, fb.take la, la, true, true⟩])) := (by show _ = _; rw [hnext.out]; simp [cgS, cgF, cgU, List.append_nil, hul])
                clear z0 z1 z2 z3 z4 hC9'
                go_wp2
                go_roundw
                case rel => exact ⟨i + 1, m, by first | rfl | simp, by omega, by omega, by rw [hfin.out]; first | exact hC9.out | simpa using hC9.out⟩
                case measure => simp [intOf]; omega
        · obtain rfl : i = L.length := by omega
          have dl : decide ((L.length : Int) < (L.length : Int)) = false := by simp
          rw [List.take_of_length_le (Nat.le_refl _)] at hC
          have HC : Hid _ := hC
          clear hrr hC hcell hsz
          have hEnd : ∃ T', Rv wr T' w.heap.size (cgs l L).2 [] 0 ∧ ∀ k, T' k → w.heap.size ≤ k := by
            have hC := HC.out
            obtain ⟨ro, rc, h1, h2⟩ := hC.hz
            refine ⟨fun k => w.heap.size ≤ k ∧ k < wr.heap.size, ⟨⟨ro, rc, none, 0, 0, h1, ⟨h2.len, h2.row.1, ?_⟩, ⟨rfl, Nat.le_refl _, Nat.zero_le _, (fun a e => by cases e), (fun _ => rfl), (fun b i e => by cases e)⟩, (fun a e => by cases e), fun q hq => h2.from_base q hq⟩, ⟨hC.zl, lt_of_heap h1⟩, fun k hk => hk.2⟩, fun k hk => hk.1⟩
            rcases h2.row.2 with h9 | ⟨g, c', cur, hv, hb', h9⟩
            · exact .inl h9
            · exact .inr ⟨g, c', cur, hv, Nat.zero_le _, h9⟩
          have HE : Hid _ := hEnd
          clear hEnd
          go_wp2
          exact bodyPost_ret (v := .tuple #[.pointer (some ⟨w.heap.size, 0, none⟩), u10, u11, .int .i64 0]) (by simp [results, Try.results34, go_sem]) rfl ⟨_, _, _, rfl, HE.out, HC.out.p, hgw⟩
end
end Go.Proofs.Ythkbakaodbceiaa
