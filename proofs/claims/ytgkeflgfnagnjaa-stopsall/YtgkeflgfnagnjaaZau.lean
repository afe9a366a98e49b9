import Derived.Test.YtgkeflgfnagnjaaZas
import Derived.Test.YtgkeflgfnagnjaaZat
/-
  Picks that came in within something: of none of them nothing is said of where they lie.
-/
namespace Go.Proofs.Ytgkeflgfnagnjaa
open Go.RowKit
set_option linter.unusedVariables false
set_option maxRecDepth 100000

/-- Picks. -/
structure Ip (w : World) (o : Option Addr) (n : Nat) (l : List Int) : Prop where
  len : l.length = n
  k : ∀ i x, l[i]? = some x → ∃ q f, o = some ⟨q, f, none⟩ ∧ w.cell? ⟨q, f + i, none⟩ = some (.int .i64 x)
theorem Ip.chg {w w' : World} {o : Option Addr} {n : Nat} {l : List Int} {S : Nat → Prop} (h : Ip w o n l) (hc : Chg w w' S) (hS : ∀ a, o = some a → n = 0 ∨ ¬ S a.block) : Ip w' o n l :=
  ⟨h.len, fun i x hx => by
    obtain ⟨q, f, h1, h2⟩ := h.k i x hx
    have hi2 := (List.getElem?_eq_some_iff.1 hx).1
    have := h.len
    refine ⟨q, f, h1, hc.cell h2 ?_⟩
    rcases hS _ h1 with h3 | h3
    · omega
    · exact h3⟩
theorem Ip.grown {w w' : World} {o : Option Addr} {n : Nat} {l : List Int} (h : Ip w o n l) (hg : w.grownBy w' none) : Ip w' o n l := h.chg (Chg.of_grown hg (fun _ => False)) (fun _ _ => .inr (fun e => e))
end Go.Proofs.Ytgkeflgfnagnjaa

/-
  The document's Crash with a pick below nought.
-/
namespace Go.Proofs.Ytgkeflgfnagnjaa
open Go.RowKit
set_option linter.unusedVariables false
set_option maxRecDepth 100000

section
variable {w : World} {T : Nat → Prop} {rb : Nat} {L : List Rf} {fs : List (Int × Int)} {st : Int}

set_option maxRecDepth 100000 in
set_option maxHeartbeats 2000000 in
theorem crash_r_neg (o : Option Addr) (pn pc : Nat) (l : List Int) (hi : Ip w o pn l) (hpn : pn ≤ 1000000000000) (hneg : ¬ ∀ x ∈ l, 0 ≤ x) :
    Calls Try.prog 16 #[.pointer (some ⟨rb, 0, none⟩), .slice o pn pc] w fun e w' => e = .returned (.tuple #[.pointer none, .slice none 0 0, .slice none 0 0, .int .i64 2]) ∧ w' = w := by
  have hlen := hi.len
  have hcell : ∀ i x, l[i]? = some x → ∃ q f, o = some ⟨q, f, none⟩ ∧ w.cell? ⟨q, f + i, none⟩ = some (.int .i64 x) := hi.k
  have HN : Hid _ := hneg
  have HC : Hid _ := hcell
  clear hi hneg hcell
  go_enter Try.func16, Try.ntmps16
  go_wp2_with fail
  go_loopw [8] (fun i wr => ∃ k : Nat, i = .int .i64 k ∧ k ≤ pn ∧ w = wr ∧ Hid (∀ x ∈ l.take k, 0 ≤ x)) (fun i _ => pn - (intOf i).toNat)
  case atStart => exact ⟨0, rfl, Nat.zero_le _, rfl, (by show ∀ x ∈ l.take 0, 0 ≤ x; simp)⟩
  case round =>
    obtain ⟨k, rfl, hk, rfl, hall⟩ := hrel
    by_cases hlt : k < pn
    · have hdd : decide ((k : Int) < (pn : Int)) = true := by simp; omega
      obtain ⟨x, hx⟩ : ∃ x, l[k]? = some x := ⟨_, List.getElem?_eq_getElem (by omega)⟩
      obtain ⟨q, f, rfl, hq⟩ := HC.out k x hx
      have i1 : (0 : Int) ≤ (k : Int) := by omega
      have i2 : (k : Int) < (pn : Int) := by omega
      by_cases hx0 : x < 0
      · have hdx : decide (x < 0) = true := by simp; omega
        clear hx hall HC HN
        go_wp2
        exact bodyPost_ret (v := .tuple #[.pointer none, .slice none 0 0, .slice none 0 0, .int .i64 2]) (by simp [results, Try.results16, go_sem]) rfl ⟨rfl, rfl⟩
      · have hdx : decide (x < 0) = false := by simp; omega
        have hall2 : Hid (∀ x ∈ l.take (k + 1), 0 ≤ x) := (by
          show ∀ x ∈ l.take (k + 1), 0 ≤ x
          intro y hy
          rw [List.take_add_one, hx] at hy
          simp at hy
          rcases hy with hy | rfl
          · exact hall.out y hy
          · omega)
        clear hx hall HC HN
        go_wp2
        go_roundw
        case rel => exact ⟨k + 1, by go_num, by omega, by trivial, hall2⟩
        case measure => simp [intOf]; omega
    · obtain rfl : pn = k := by omega
      exfalso
      refine HN.out ?_
      have h9 := hall.out
      rwa [List.take_of_length_le (by omega)] at h9
end
end Go.Proofs.Ytgkeflgfnagnjaa

/-
  The document's Crash.
-/
namespace Go.Proofs.Ytgkeflgfnagnjaa
open Go.RowKit
set_option linter.unusedVariables false
set_option maxRecDepth 100000

theorem tmods (x : Int) (k : Nat) (hx : 0 ≤ x) (hk : 0 < k) : ∃ y : Nat, x.tmod (k : Int) = (y : Int) ∧ x % (k : Int) = (y : Int) ∧ y < k := by
  have h1 : 0 ≤ x % (k : Int) := Int.emod_nonneg _ (by omega)
  have h2 : x % (k : Int) < (k : Int) := Int.emod_lt_of_pos _ (by omega)
  refine ⟨(x % (k : Int)).toNat, ?_, by omega, by omega⟩
  rw [Int.tmod_eq_emod_of_nonneg hx]
  omega
section
variable {w : World} {T : Nat → Prop} {rb : Nat} {L : List Rf} {fs : List (Int × Int)} {st : Int}

set_option maxRecDepth 100000 in
set_option maxHeartbeats 8000000 in
theorem crash_r (h : Rv w T rb L fs st) (hl : L.length ≤ 4000) (hsz : ∀ f ∈ L, f.la ≤ f.bs.length ∧ f.bs.length ≤ 1000000000000) (o : Option Addr) (pn pc : Nat) (l : List Int) (hi : Ip w o pn l) (hpn : pn ≤ 1000000000000) (hpos : ∀ x ∈ l, 0 ≤ x ∧ x < 9223372036854775808) :
    Calls Try.prog 16 #[.pointer (some ⟨rb, 0, none⟩), .slice o pn pc] w fun e w' => ∃ z vp vo, e = .returned (.tuple #[.pointer (some ⟨z, 0, none⟩), vp, vo, .int .i64 0]) ∧ (∃ T', Rv w' T' z (cgs l L).2 [] 0 ∧ ∀ k, T' k → w.heap.size ≤ k) ∧ w'.ownsRow w.heap.size 3 1 vp (cgs l L).1.length ((cgs l L).1.map (.int .i64)) ∧ w.grownBy w' none := by
  obtain ⟨ao, ac, fo, fn, fc, c0, _, _, _, hr, _⟩ := h.cells
  have hrm := hr.room
  unfold maxLen at hrm
  obtain ⟨hrm1, hrm2⟩ := hrm
  have HR : Hid _ := hr
  have hlen := hi.len
  have hcell : ∀ i x, l[i]? = some x → ∃ q f, o = some ⟨q, f, none⟩ ∧ w.cell? ⟨q, f + i, none⟩ = some (.int .i64 x) := hi.k
  clear hr h hi
  go_enter Try.func16, Try.ntmps16
  go_wp2_with fail
  go_loopw [8] (fun i wr => ∃ k : Nat, i = .int .i64 k ∧ k ≤ pn ∧ w = wr) (fun i _ => pn - (intOf i).toNat)
  case atStart => exact ⟨0, rfl, Nat.zero_le _, rfl⟩
  case round =>
    obtain ⟨k, rfl, hk, rfl⟩ := hrel
    by_cases hlt : k < pn
    · have hdd : decide ((k : Int) < (pn : Int)) = true := by simp; omega
      obtain ⟨x, hx⟩ : ∃ x, l[k]? = some x := ⟨_, List.getElem?_eq_getElem (by omega)⟩
      obtain ⟨q, f, rfl, hq⟩ := hcell k x hx
      have hx0 := (hpos x (List.mem_of_getElem? hx)).1
      have i1 : (0 : Int) ≤ (k : Int) := by omega
      have i2 : (k : Int) < (pn : Int) := by omega
      have hdx : decide (x < 0) = false := by simp; omega
      clear hcell hx HR
      go_wp2
      go_roundw
      case rel => exact ⟨k + 1, by go_num, by omega, by trivial⟩
      case measure => simp [intOf]; omega
    · obtain rfl : pn = k := by omega
      have hdd : decide ((pn : Int) < (pn : Int)) = false := by simp
      have hga := alloc_grown w (.cells #[.slice none 0 0, .slice none 0 0, .int .i64 0] 74)
      have hka := World.alloc_heap_new w (.cells #[.slice none 0 0, .slice none 0 0, .int .i64 0] 74)
      have hC0 : Hid (Ci w (w.alloc (.cells #[.slice none 0 0, .slice none 0 0, .int .i64 0] 74)) w.heap.size [] [] (.slice none 0 0) (.slice none 0 0) 0) := ⟨hga, ⟨none, 0, hka, Rr.nil _ _⟩, Nat.le_refl _, World.ownsRow_nil _ _ _ _, ⟨[], World.ownsRow_nil _ _ _ _⟩, fun a b e => by cases e⟩
      have hcl : Hid _ := hcell
      have hsz' : Hid _ := hsz
      clear hka hga hcell hsz
      go_wp2_with fail
      have hcell := hcl.out
      have hsz := hsz'.out
      go_loopw [10, 11, 12] (fun vp vo i' wv => ∃ (i m : Nat), i' = .int .i64 i ∧ i ≤ L.length ∧ m ≤ 2 * i ∧ Ci w wv w.heap.size (cgs l (L.take i)).2 (cgs l (L.take i)).1 vp vo m) (fun _ _ i' _ => L.length - (intOf i').toNat)
      case atStart => exact ⟨0, 0, rfl, Nat.zero_le _, Nat.zero_le _, hC0.out⟩
      case round =>
        clear hC0 hcl hsz'
        obtain ⟨i, m, rfl, hi, hm, hC⟩ := hrel
        have hgw := hC.g
        have c0r := hgw.cell c0 (by simp)
        have hrr := HR.out.own hgw (fun r e => by cases e)
        have hws := hgw.size
        by_cases hlt : i < L.length
        · have dl : decide ((i : Int) < (L.length : Int)) = true := by simp; omega
          have dl2 : decide (i < L.length) = true := by simpa using hlt
          obtain ⟨f, hf⟩ : ∃ f, L[i]? = some f := ⟨_, List.getElem?_eq_getElem hlt⟩
          obtain ⟨g, rfl, _, _⟩ := hrr.addr (by omega)
          have q0 := hrr.at hf 0 (by decide)
          have q1 := hrr.at hf 1 (by decide)
          have q2 := hrr.at hf 2 (by decide)
          have q3 := hrr.at hf 3 (by decide)
          have q4 := hrr.at hf 4 (by decide)
          simp only [Rf.cells, List.getElem?_cons_zero, List.getElem?_cons_succ, Nat.add_zero] at q0 q1 q2 q3 q4
          have i1 : (0 : Int) ≤ (i : Int) := by omega
          have i2 : (i : Int) < (L.length : Int) := by omega
          have wz : IntKind.i64.wrap ((i : Int) + 1) = ((i + 1 : Nat) : Int) := by rw [IntWalk.i64_in _ (by omega)]; push_cast; rfl
          have htk : L.take (i + 1) = L.take i ++ [f] := by rw [List.take_add_one, hf]; rfl
          have hnext : Hid (cgs l (L.take (i + 1)) = cgS l (cgs l (L.take i)) f) := (by show _ = _; rw [htk, cgs_snoc])
          have hcl := cgs_len l (L.take i)
          rw [List.length_take, Nat.min_eq_left hi] at hcl
          obtain ⟨hcl1, hcl2⟩ := hcl
          obtain ⟨hla, hbl⟩ := hsz f (List.mem_of_getElem? hf)
          clear hf htk hrr hsz hdd
          obtain ⟨P, M, hPM⟩ : ∃ P M, cgs l (L.take i) = (P, M) := ⟨_, _, rfl⟩
          rw [hPM] at hC hcl1 hcl2 hnext
          clear hPM
          dsimp only at hC hcl1 hcl2
          obtain ⟨po, pc0, hvp⟩ := hC.shapeP
          subst hvp
          obtain ⟨n, hn⟩ : ∃ n, P.length = n := ⟨_, rfl⟩
          rw [hn] at hC hcl1 ⊢
          obtain ⟨fs0, fb, la, th, nl⟩ := f
          dsimp only at q0 q1 q2 q3 q4 hla hbl
          have hJ := Cj.new (f := ⟨fs0, fb, la, th, nl⟩) hC
          dsimp only at hJ
          obtain ⟨z0, z1, z2, z3, z4⟩ := hJ.cells
          dsimp only at z0 z1 z2 z3 z4
          have hln : (⟨fb.toArray⟩ : ByteArray).size = fb.length := by simp [ByteArray.size]
          obtain ⟨u, hu⟩ : ∃ u, fb.length - la = u := ⟨_, rfl⟩
          obtain ⟨u1, hu1⟩ : ∃ u1, u + 1 = u1 := ⟨_, rfl⟩
          have wu : IntKind.i64.wrap ((fb.length : Int) - (la : Int)) = (u : Int) := by rw [IntWalk.i64_in _ (by omega)]; omega
          have wu1 : IntKind.i64.wrap ((u : Int) + 1) = (u1 : Int) := by rw [IntWalk.i64_in _ (by omega)]; omega
          have wla : IntKind.i64.wrap (la : Int) = (la : Int) := by rw [IntWalk.i64_in _ (by omega)]
          clear hC
          cases th with
          | false =>
            obtain ⟨n1, hn1⟩ : ∃ n1, n + 1 = n1 := ⟨_, rfl⟩
            obtain ⟨m1, hm1⟩ : ∃ m1, m + 1 = m1 := ⟨_, rfl⟩
            by_cases hin : n < pn
            · have dn : decide ((n : Int) < (pn : Int)) = true := by simp; omega
              have dn' : decide (n < pn) = true := by simp; omega
              obtain ⟨x, hx⟩ : ∃ x, l[n]? = some x := ⟨_, List.getElem?_eq_getElem (by omega)⟩
              obtain ⟨q, f0, ho, hq⟩ := hcell n x hx
              subst ho
              have hc1 := hJ.c.g.cell hq (by simp)
              obtain ⟨hx0, hx1⟩ := hpos x (List.mem_of_getElem? hx)
              have i3 : (0 : Int) ≤ (n : Int) := by omega
              have i4 : (n : Int) < (pn : Int) := by omega
              obtain ⟨y, hya, hyb, hyc⟩ := tmods x 2 hx0 (by omega)
              have hp2 : Hid (pickR l n 2 = (y : Int)) := (by show _ = _; unfold pickR; rw [hx]; exact hyb)
              change x.tmod 2 = (y : Int) at hya
              change x % 2 = (y : Int) at hyb
              clear hx hq
              go_wp2_with (at_builtin; (refine wpList_pushP rfl _ _ rfl hJ rfl (y : Int) (by first | rfl | (simp only [World.size_alloc]; rfl)) (by first | omega | (simp; omega)) (n1 := n1) ?_ ?_))
              · first | omega | (simp; omega)
              intro J1o J1c J1w J1
              clear z0 z1 z2 z3 z4
              obtain ⟨z0, z1, z2, z3, z4⟩ := J1.cells
              dsimp only at z0 z1 z2 z3 z4
              go_wp2_with (at_builtin; (refine wpList_pushO rfl _ _ rfl J1 rfl 2 (by first | rfl | (simp only [World.size_alloc]; rfl)) (by first | omega | (simp; omega)) (m1 := m1) ?_ ?_))
              · first | omega | (simp; omega)
              intro J2o J2c J2w J2
              clear z0 z1 z2 z3 z4
              obtain ⟨z0, z1, z2, z3, z4⟩ := J2.cells
              dsimp only at z0 z1 z2 z3 z4
              by_cases hy : y = 0
              · subst hy
                have dy : (((0 : Nat) : Int) == 0) = true := by simp
                have hfin : Hid (cgs l (L.take (i + 1)) = (P ++ [((0 : Nat) : Int)], M)) := (by show _ = _; rw [hnext.out]; simp [cgS, cgF, hn, hp2.out])
                have hC9 : Hid _ := J2.c
                clear z0 z1 z2 z3 z4
                go_wp2
                go_roundw
                case rel => exact ⟨i + 1, m1, by first | rfl | simp, by omega, by omega, by rw [hfin.out]; first | exact hC9.out | simpa using hC9.out⟩
                case measure => simp [intOf]; omega
              · have dy : ((y : Int) == 0) = false := by simp; omega
                have dy2 : ¬ ((y : Int) = 0) := by omega
                go_wp2_with fail
                refine wp_mono (reg34 _ wr.heap.size la fs0 ⟨fb.toArray⟩ fb (ba_take0 fb la (by omega)) (by rw [hln]; omega) J2.c (by omega) z0 z1 ⟨_, J2.k⟩ (fun ro rc _ hc => J2.n _ _ _ hc) _ _ _ _ _ _ _ _ _ _ _ _ _ _ _ _ _ _ _ _ _ _ _ _ _ _ _ _ _ _ _ _ _ _ _ _ _ _ _ _ _ _ _ _ _ _ _ _ _ _ _ _ _ _ _ _ _ _ _ _ _ _ _ _ _ _ _ _ _ _ _ _ _ _ _ _ _ _ _ _ _ _ _ _ _ _ _ _ _ _ _ _ _ _ _ _ _ _ _ _ _ _ _ _ _ _ _ _ _ _ _ _ _ _ _ _ _ _ _ _ _ _ _ _ _ _ _ _ _ _ _ _) ?_
                rintro e a' w9 ⟨rfl, u114, u115, u116, u117, u118, u119, u120, u121, u122, u123, u124, u125, u126, u127, u128, u129, u130, rfl, hC9'⟩
                have hC9 : Hid _ := hC9'
                have hfin : Hid (cgs l (L.take (i + 1)) = (P ++ [(y : Int)], M ++ [⟨fs0, fb.take la, la, true, true⟩])) := (by show _ = _; rw [hnext.out]; simp [cgS, cgF, cgU, hn, hp2.out, hy])
                clear z0 z1 z2 z3 z4 hC9'
                go_wp2
                go_roundw
                case rel => exact ⟨i + 1, m1, by first | rfl | simp, by omega, by omega, by rw [hfin.out]; first | exact hC9.out | simpa using hC9.out⟩
                case measure => simp [intOf]; omega
            · have dn : decide ((n : Int) < (pn : Int)) = false := by simp; omega
              have dn' : decide (n < pn) = false := by simp; omega
              have hp2 : Hid (pickR l n 2 = 0) := (by show _ = _; unfold pickR; rw [List.getElem?_eq_none (by omega)])
              go_wp2_with (at_builtin; (refine wpList_pushP rfl _ _ rfl hJ rfl 0 (by first | rfl | (simp only [World.size_alloc]; rfl)) (by first | omega | (simp; omega)) (n1 := n1) ?_ ?_))
              · first | omega | (simp; omega)
              intro J1o J1c J1w J1
              clear z0 z1 z2 z3 z4
              obtain ⟨z0, z1, z2, z3, z4⟩ := J1.cells
              dsimp only at z0 z1 z2 z3 z4
              go_wp2_with (at_builtin; (refine wpList_pushO rfl _ _ rfl J1 rfl 2 (by first | rfl | (simp only [World.size_alloc]; rfl)) (by first | omega | (simp; omega)) (m1 := m1) ?_ ?_))
              · first | omega | (simp; omega)
              intro J2o J2c J2w J2
              clear z0 z1 z2 z3 z4
              obtain ⟨z0, z1, z2, z3, z4⟩ := J2.cells
              dsimp only at z0 z1 z2 z3 z4
              have hfin : Hid (cgs l (L.take (i + 1)) = (P ++ [0], M)) := (by show _ = _; rw [hnext.out]; simp [cgS, cgF, hn, hp2.out])
              have hC9 : Hid _ := J2.c
              clear z0 z1 z2 z3 z4
              go_wp2
              go_roundw
              case rel => exact ⟨i + 1, m1, by first | rfl | simp, by omega, by omega, by rw [hfin.out]; first | exact hC9.out | simpa using hC9.out⟩
              case measure => simp [intOf]; omega
          | true =>
            cases nl with
            | false =>
              obtain ⟨n1, hn1⟩ : ∃ n1, n + 1 = n1 := ⟨_, rfl⟩
              obtain ⟨m1, hm1⟩ : ∃ m1, m + 1 = m1 := ⟨_, rfl⟩
              by_cases hin : n < pn
              · have dn : decide ((n : Int) < (pn : Int)) = true := by simp; omega
                have dn' : decide (n < pn) = true := by simp; omega
                obtain ⟨x, hx⟩ : ∃ x, l[n]? = some x := ⟨_, List.getElem?_eq_getElem (by omega)⟩
                obtain ⟨q, f0, ho, hq⟩ := hcell n x hx
                subst ho
                have hc1 := hJ.c.g.cell hq (by simp)
                obtain ⟨hx0, hx1⟩ := hpos x (List.mem_of_getElem? hx)
                have i3 : (0 : Int) ≤ (n : Int) := by omega
                have i4 : (n : Int) < (pn : Int) := by omega
                obtain ⟨y, hya, hyb, hyc⟩ := tmods x 2 hx0 (by omega)
                have hp2 : Hid (pickR l n 2 = (y : Int)) := (by show _ = _; unfold pickR; rw [hx]; exact hyb)
                change x.tmod 2 = (y : Int) at hya
                change x % 2 = (y : Int) at hyb
                clear hx hq
                go_wp2_with (at_builtin; (refine wpList_pushP rfl _ _ rfl hJ rfl (y : Int) (by first | rfl | (simp only [World.size_alloc]; rfl)) (by first | omega | (simp; omega)) (n1 := n1) ?_ ?_))
                · first | omega | (simp; omega)
                intro J1o J1c J1w J1
                clear z0 z1 z2 z3 z4
                obtain ⟨z0, z1, z2, z3, z4⟩ := J1.cells
                dsimp only at z0 z1 z2 z3 z4
                go_wp2_with (at_builtin; (refine wpList_pushO rfl _ _ rfl J1 rfl 2 (by first | rfl | (simp only [World.size_alloc]; rfl)) (by first | omega | (simp; omega)) (m1 := m1) ?_ ?_))
                · first | omega | (simp; omega)
                intro J2o J2c J2w J2
                clear z0 z1 z2 z3 z4
                obtain ⟨z0, z1, z2, z3, z4⟩ := J2.cells
                dsimp only at z0 z1 z2 z3 z4
                by_cases hy : y = 0
                · subst hy
                  have dy : (((0 : Nat) : Int) == 0) = true := by simp
                  have hfin : Hid (cgs l (L.take (i + 1)) = (P ++ [((0 : Nat) : Int)], M)) := (by show _ = _; rw [hnext.out]; simp [cgS, cgF, hn, hp2.out])
                  have hC9 : Hid _ := J2.c
                  clear z0 z1 z2 z3 z4
                  go_wp2
                  go_roundw
                  case rel => exact ⟨i + 1, m1, by first | rfl | simp, by omega, by omega, by rw [hfin.out]; first | exact hC9.out | simpa using hC9.out⟩
                  case measure => simp [intOf]; omega
                · have dy : ((y : Int) == 0) = false := by simp; omega
                  have dy2 : ¬ ((y : Int) = 0) := by omega
                  by_cases hul : la < fb.length
                  · have du : decide ((u : Int) > 0) = true := by simp; omega
                    have du2 : decide (0 < (u : Int)) = true := by simp; omega
                    have du3 : decide (0 < u) = true := by simp; omega
                    obtain ⟨n2, hn2⟩ : ∃ n2, n1 + 1 = n2 := ⟨_, rfl⟩
                    obtain ⟨m2, hm2⟩ : ∃ m2, m1 + 1 = m2 := ⟨_, rfl⟩
                    by_cases hin2 : n1 < pn
                    · have dn2 : decide ((n1 : Int) < (pn : Int)) = true := by simp; omega
                      have dn3 : decide (n1 < pn) = true := by simp; omega
                      obtain ⟨x2, hx2⟩ : ∃ x, l[n1]? = some x := ⟨_, List.getElem?_eq_getElem (by omega)⟩
                      obtain ⟨q2, f2, ho2, hq2⟩ := hcell n1 x2 hx2
                      cases ho2
                      have hc2 := J2.c.g.cell hq2 (by simp)
                      obtain ⟨hx20, hx21⟩ := hpos x2 (List.mem_of_getElem? hx2)
                      have j1 : (0 : Int) ≤ (n1 : Int) := by omega
                      have j2 : (n1 : Int) < (pn : Int) := by omega
                      have hu0 : ¬ (u1 : Int) = 0 := by omega
                      obtain ⟨qn, hqa, hqb, hqc⟩ := tmods x2 u1 hx20 (by omega)
                      have hp3 : Hid (pickR l n1 (((fb.length - la : Nat) : Int) + 1) = (qn : Int)) := (by show _ = _; rw [show ((fb.length - la : Nat) : Int) + 1 = (u1 : Int) by omega]; unfold pickR; rw [hx2]; exact hqb)
                      obtain ⟨k9, hk9⟩ : ∃ k9, la + qn = k9 := ⟨_, rfl⟩
                      have wk : IntKind.i64.wrap ((la : Int) + (qn : Int)) = (k9 : Int) := by rw [IntWalk.i64_in _ (by omega)]; omega
                      clear hx2
                      go_wp2_with (at_builtin; (refine wpList_pushP rfl _ _ rfl J2 rfl (qn : Int) (by first | rfl | (simp only [World.size_alloc]; rfl)) (by first | omega | (simp; omega)) (n1 := n2) ?_ ?_))
                      · first | omega | (simp; omega)
                      intro K1o K1c K1w K1
                      clear z0 z1 z2 z3 z4
                      obtain ⟨z0, z1, z2, z3, z4⟩ := K1.cells
                      dsimp only at z0 z1 z2 z3 z4
                      go_wp2_with (at_builtin; (refine wpList_pushO rfl _ _ rfl K1 rfl (u1 : Int) (by first | rfl | (simp only [World.size_alloc]; rfl)) (by first | omega | (simp; omega)) (m1 := m2) ?_ ?_))
                      · first | omega | (simp; omega)
                      intro K2o K2c K2w K2
                      clear z0 z1 z2 z3 z4
                      obtain ⟨z0, z1, z2, z3, z4⟩ := K2.cells
                      dsimp only at z0 z1 z2 z3 z4
                      go_wp2_with fail
                      refine wp_mono (reg34 _ wr.heap.size k9 fs0 ⟨fb.toArray⟩ fb (ba_take0 fb k9 (by omega)) (by rw [hln]; omega) K2.c (by omega) z0 z1 ⟨_, K2.k⟩ (fun ro rc _ hc => K2.n _ _ _ hc) _ _ _ _ _ _ _ _ _ _ _ _ _ _ _ _ _ _ _ _ _ _ _ _ _ _ _ _ _ _ _ _ _ _ _ _ _ _ _ _ _ _ _ _ _ _ _ _ _ _ _ _ _ _ _ _ _ _ _ _ _ _ _ _ _ _ _ _ _ _ _ _ _ _ _ _ _ _ _ _ _ _ _ _ _ _ _ _ _ _ _ _ _ _ _ _ _ _ _ _ _ _ _ _ _ _ _ _ _ _ _ _ _ _ _ _ _ _ _ _ _ _ _ _ _ _ _ _ _ _ _ _) ?_
                      rintro e a' w9 ⟨rfl, u114, u115, u116, u117, u118, u119, u120, u121, u122, u123, u124, u125, u126, u127, u128, u129, u130, rfl, hC9'⟩
                      have hC9 : Hid _ := hC9'
                      have hfin : Hid (cgs l (L.take (i + 1)) = (P ++ [(y : Int)] ++ [(qn : Int)], M ++ [⟨fs0, fb.take k9, k9, true, true⟩])) := (by show _ = _; rw [hnext.out]; simp [cgS, cgF, cgU, hn, hp2.out, hy, hul, hp3.out, hk9, hn1])
                      clear z0 z1 z2 z3 z4 hC9'
                      go_wp2
                      go_roundw
                      case rel => exact ⟨i + 1, m2, by first | rfl | simp, by omega, by omega, by rw [hfin.out]; first | exact hC9.out | simpa using hC9.out⟩
                      case measure => simp [intOf]; omega
                    · have dn2 : decide ((n1 : Int) < (pn : Int)) = false := by simp; omega
                      have dn3 : decide (n1 < pn) = false := by simp; omega
                      have hp3 : Hid (pickR l n1 (((fb.length - la : Nat) : Int) + 1) = 0) := (by show _ = _; unfold pickR; rw [List.getElem?_eq_none (by omega)])
                      go_wp2_with (at_builtin; (refine wpList_pushP rfl _ _ rfl J2 rfl 0 (by first | rfl | (simp only [World.size_alloc]; rfl)) (by first | omega | (simp; omega)) (n1 := n2) ?_ ?_))
                      · first | omega | (simp; omega)
                      intro K1o K1c K1w K1
                      clear z0 z1 z2 z3 z4
                      obtain ⟨z0, z1, z2, z3, z4⟩ := K1.cells
                      dsimp only at z0 z1 z2 z3 z4
                      go_wp2_with (at_builtin; (refine wpList_pushO rfl _ _ rfl K1 rfl (u1 : Int) (by first | rfl | (simp only [World.size_alloc]; rfl)) (by first | omega | (simp; omega)) (m1 := m2) ?_ ?_))
                      · first | omega | (simp; omega)
                      intro K2o K2c K2w K2
                      clear z0 z1 z2 z3 z4
                      obtain ⟨z0, z1, z2, z3, z4⟩ := K2.cells
                      dsimp only at z0 z1 z2 z3 z4
                      go_wp2_with fail
                      refine wp_mono (reg34 _ wr.heap.size la fs0 ⟨fb.toArray⟩ fb (ba_take0 fb la (by omega)) (by rw [hln]; omega) K2.c (by omega) z0 z1 ⟨_, K2.k⟩ (fun ro rc _ hc => K2.n _ _ _ hc) _ _ _ _ _ _ _ _ _ _ _ _ _ _ _ _ _ _ _ _ _ _ _ _ _ _ _ _ _ _ _ _ _ _ _ _ _ _ _ _ _ _ _ _ _ _ _ _ _ _ _ _ _ _ _ _ _ _ _ _ _ _ _ _ _ _ _ _ _ _ _ _ _ _ _ _ _ _ _ _ _ _ _ _ _ _ _ _ _ _ _ _ _ _ _ _ _ _ _ _ _ _ _ _ _ _ _ _ _ _ _ _ _ _ _ _ _ _ _ _ _ _ _ _ _ _ _ _ _ _ _ _) ?_
                      rintro e a' w9 ⟨rfl, u114, u115, u116, u117, u118, u119, u120, u121, u122, u123, u124, u125, u126, u127, u128, u129, u130, rfl, hC9'⟩
                      have hC9 : Hid _ := hC9'
                      have hfin : Hid (cgs l (L.take (i + 1)) = (P ++ [(y : Int)] ++ [0], M ++ [⟨fs0, fb.take la, la, true, true⟩])) := (by show _ = _; rw [hnext.out]; simp [cgS, cgF, cgU, hn, hp2.out, hy, hul, hp3.out, hn1])
                      clear z0 z1 z2 z3 z4 hC9'
                      go_wp2
                      go_roundw
                      case rel => exact ⟨i + 1, m2, by first | rfl | simp, by omega, by omega, by rw [hfin.out]; first | exact hC9.out | simpa using hC9.out⟩
                      case measure => simp [intOf]; omega
                  · have du : decide ((u : Int) > 0) = false := by simp; omega
                    have du2 : decide (0 < (u : Int)) = false := by simp; omega
                    have du3 : decide (0 < u) = false := by simp; omega
                    go_wp2_with fail
                    refine wp_mono (reg34 _ wr.heap.size la fs0 ⟨fb.toArray⟩ fb (ba_take0 fb la (by omega)) (by rw [hln]; omega) J2.c (by omega) z0 z1 ⟨_, J2.k⟩ (fun ro rc _ hc => J2.n _ _ _ hc) _ _ _ _ _ _ _ _ _ _ _ _ _ _ _ _ _ _ _ _ _ _ _ _ _ _ _ _ _ _ _ _ _ _ _ _ _ _ _ _ _ _ _ _ _ _ _ _ _ _ _ _ _ _ _ _ _ _ _ _ _ _ _ _ _ _ _ _ _ _ _ _ _ _ _ _ _ _ _ _ _ _ _ _ _ _ _ _ _ _ _ _ _ _ _ _ _ _ _ _ _ _ _ _ _ _ _ _ _ _ _ _ _ _ _ _ _ _ _ _ _ _ _ _ _ _ _ _ _ _ _ _) ?_
                    rintro e a' w9 ⟨rfl, u114, u115, u116, u117, u118, u119, u120, u121, u122, u123, u124, u125, u126, u127, u128, u129, u130, rfl, hC9'⟩
                    have hC9 : Hid _ := hC9'
                    have hfin : Hid (cgs l (L.take (i + 1)) = (P ++ [(y : Int)], M ++ [⟨fs0, fb.take la, la, true, true⟩])) := (by show _ = _; rw [hnext.out]; simp [cgS, cgF, cgU, hn, hp2.out, hy, hul])
                    clear z0 z1 z2 z3 z4 hC9'
                    go_wp2
                    go_roundw
                    case rel => exact ⟨i + 1, m1, by first | rfl | simp, by omega, by omega, by rw [hfin.out]; first | exact hC9.out | simpa using hC9.out⟩
                    case measure => simp [intOf]; omega
              · have dn : decide ((n : Int) < (pn : Int)) = false := by simp; omega
                have dn' : decide (n < pn) = false := by simp; omega
                have hp2 : Hid (pickR l n 2 = 0) := (by show _ = _; unfold pickR; rw [List.getElem?_eq_none (by omega)])
                go_wp2_with (at_builtin; (refine wpList_pushP rfl _ _ rfl hJ rfl 0 (by first | rfl | (simp only [World.size_alloc]; rfl)) (by first | omega | (simp; omega)) (n1 := n1) ?_ ?_))
                · first | omega | (simp; omega)
                intro J1o J1c J1w J1
                clear z0 z1 z2 z3 z4
                obtain ⟨z0, z1, z2, z3, z4⟩ := J1.cells
                dsimp only at z0 z1 z2 z3 z4
                go_wp2_with (at_builtin; (refine wpList_pushO rfl _ _ rfl J1 rfl 2 (by first | rfl | (simp only [World.size_alloc]; rfl)) (by first | omega | (simp; omega)) (m1 := m1) ?_ ?_))
                · first | omega | (simp; omega)
                intro J2o J2c J2w J2
                clear z0 z1 z2 z3 z4
                obtain ⟨z0, z1, z2, z3, z4⟩ := J2.cells
                dsimp only at z0 z1 z2 z3 z4
                have hfin : Hid (cgs l (L.take (i + 1)) = (P ++ [0], M)) := (by show _ = _; rw [hnext.out]; simp [cgS, cgF, hn, hp2.out])
                have hC9 : Hid _ := J2.c
                clear z0 z1 z2 z3 z4
                go_wp2
                go_roundw
                case rel => exact ⟨i + 1, m1, by first | rfl | simp, by omega, by omega, by rw [hfin.out]; first | exact hC9.out | simpa using hC9.out⟩
                case measure => simp [intOf]; omega
            | true =>
              by_cases hul : la < fb.length
              · have du : decide ((u : Int) > 0) = true := by simp; omega
                have du2 : decide (0 < (u : Int)) = true := by simp; omega
                have du3 : decide (0 < u) = true := by simp; omega
                obtain ⟨n1, hn1⟩ : ∃ n1, n + 1 = n1 := ⟨_, rfl⟩
                obtain ⟨m1, hm1⟩ : ∃ m1, m + 1 = m1 := ⟨_, rfl⟩
                by_cases hin2 : n < pn
                · have dn2 : decide ((n : Int) < (pn : Int)) = true := by simp; omega
                  have dn3 : decide (n < pn) = true := by simp; omega
                  obtain ⟨x2, hx2⟩ : ∃ x, l[n]? = some x := ⟨_, List.getElem?_eq_getElem (by omega)⟩
                  obtain ⟨q2, f2, ho2, hq2⟩ := hcell n x2 hx2
                  cases ho2
                  have hc2 := hJ.c.g.cell hq2 (by simp)
                  obtain ⟨hx20, hx21⟩ := hpos x2 (List.mem_of_getElem? hx2)
                  have j1 : (0 : Int) ≤ (n : Int) := by omega
                  have j2 : (n : Int) < (pn : Int) := by omega
                  have hu0 : ¬ (u1 : Int) = 0 := by omega
                  obtain ⟨qn, hqa, hqb, hqc⟩ := tmods x2 u1 hx20 (by omega)
                  have hp3 : Hid (pickR l n (((fb.length - la : Nat) : Int) + 1) = (qn : Int)) := (by show _ = _; rw [show ((fb.length - la : Nat) : Int) + 1 = (u1 : Int) by omega]; unfold pickR; rw [hx2]; exact hqb)
                  obtain ⟨k9, hk9⟩ : ∃ k9, la + qn = k9 := ⟨_, rfl⟩
                  have wk : IntKind.i64.wrap ((la : Int) + (qn : Int)) = (k9 : Int) := by rw [IntWalk.i64_in _ (by omega)]; omega
                  clear hx2
                  go_wp2_with (at_builtin; (refine wpList_pushP rfl _ _ rfl hJ rfl (qn : Int) (by first | rfl | (simp only [World.size_alloc]; rfl)) (by first | omega | (simp; omega)) (n1 := n1) ?_ ?_))
                  · first | omega | (simp; omega)
                  intro K1o K1c K1w K1
                  clear z0 z1 z2 z3 z4
                  obtain ⟨z0, z1, z2, z3, z4⟩ := K1.cells
                  dsimp only at z0 z1 z2 z3 z4
                  go_wp2_with (at_builtin; (refine wpList_pushO rfl _ _ rfl K1 rfl (u1 : Int) (by first | rfl | (simp only [World.size_alloc]; rfl)) (by first | omega | (simp; omega)) (m1 := m1) ?_ ?_))
                  · first | omega | (simp; omega)
                  intro K2o K2c K2w K2
                  clear z0 z1 z2 z3 z4
                  obtain ⟨z0, z1, z2, z3, z4⟩ := K2.cells
                  dsimp only at z0 z1 z2 z3 z4
                  go_wp2_with fail
                  refine wp_mono (reg34 _ wr.heap.size k9 fs0 ⟨fb.toArray⟩ fb (ba_take0 fb k9 (by omega)) (by rw [hln]; omega) K2.c (by omega) z0 z1 ⟨_, K2.k⟩ (fun ro rc _ hc => K2.n _ _ _ hc) _ _ _ _ _ _ _ _ _ _ _ _ _ _ _ _ _ _ _ _ _ _ _ _ _ _ _ _ _ _ _ _ _ _ _ _ _ _ _ _ _ _ _ _ _ _ _ _ _ _ _ _ _ _ _ _ _ _ _ _ _ _ _ _ _ _ _ _ _ _ _ _ _ _ _ _ _ _ _ _ _ _ _ _ _ _ _ _ _ _ _ _ _ _ _ _ _ _ _ _ _ _ _ _ _ _ _ _ _ _ _ _ _ _ _ _ _ _ _ _ _ _ _ _ _ _ _ _ _ _ _ _) ?_
                  rintro e a' w9 ⟨rfl, u114, u115, u116, u117, u118, u119, u120, u121, u122, u123, u124, u125, u126, u127, u128, u129, u130, rfl, hC9'⟩
                  have hC9 : Hid _ := hC9'
                  have hfin : Hid (cgs l (L.take (i + 1)) = (P ++ [(qn : Int)], M ++ [⟨fs0, fb.take k9, k9, true, true⟩])) := (by show _ = _; rw [hnext.out]; simp [cgS, cgF, cgU, hn, hul, hp3.out, hk9])
                  clear z0 z1 z2 z3 z4 hC9'
                  go_wp2
                  go_roundw
                  case rel => exact ⟨i + 1, m1, by first | rfl | simp, by omega, by omega, by rw [hfin.out]; first | exact hC9.out | simpa using hC9.out⟩
                  case measure => simp [intOf]; omega
                · have dn2 : decide ((n : Int) < (pn : Int)) = false := by simp; omega
                  have dn3 : decide (n < pn) = false := by simp; omega
                  have hp3 : Hid (pickR l n (((fb.length - la : Nat) : Int) + 1) = 0) := (by show _ = _; unfold pickR; rw [List.getElem?_eq_none (by omega)])
                  go_wp2_with (at_builtin; (refine wpList_pushP rfl _ _ rfl hJ rfl 0 (by first | rfl | (simp only [World.size_alloc]; rfl)) (by first | omega | (simp; omega)) (n1 := n1) ?_ ?_))
                  · first | omega | (simp; omega)
                  intro K1o K1c K1w K1
                  clear z0 z1 z2 z3 z4
                  obtain ⟨z0, z1, z2, z3, z4⟩ := K1.cells
                  dsimp only at z0 z1 z2 z3 z4
                  go_wp2_with (at_builtin; (refine wpList_pushO rfl _ _ rfl K1 rfl (u1 : Int) (by first | rfl | (simp only [World.size_alloc]; rfl)) (by first | omega | (simp; omega)) (m1 := m1) ?_ ?_))
                  · first | omega | (simp; omega)
                  intro K2o K2c K2w K2
                  clear z0 z1 z2 z3 z4
                  obtain ⟨z0, z1, z2, z3, z4⟩ := K2.cells
                  dsimp only at z0 z1 z2 z3 z4
                  go_wp2_with fail
                  refine wp_mono (reg34 _ wr.heap.size la fs0 ⟨fb.toArray⟩ fb (ba_take0 fb la (by omega)) (by rw [hln]; omega) K2.c (by omega) z0 z1 ⟨_, K2.k⟩ (fun ro rc _ hc => K2.n _ _ _ hc) _ _ _ _ _ _ _ _ _ _ _ _ _ _ _ _ _ _ _ _ _ _ _ _ _ _ _ _ _ _ _ _ _ _ _ _ _ _ _ _ _ _ _ _ _ _ _ _ _ _ _ _ _ _ _ _ _ _ _ _ _ _ _ _ _ _ _ _ _ _ _ _ _ _ _ _ _ _ _ _ _ _ _ _ _ _ _ _ _ _ _ _ _ _ _ _ _ _ _ _ _ _ _ _ _ _ _ _ _ _ _ _ _ _ _ _ _ _ _ _ _ _ _ _ _ _ _ _ _ _ _ _) ?_
                  rintro e a' w9 ⟨rfl, u114, u115, u116, u117, u118, u119, u120, u121, u122, u123, u124, u125, u126, u127, u128, u129, u130, rfl, hC9'⟩
                  have hC9 : Hid _ := hC9'
                  have hfin : Hid (cgs l (L.take (i + 1)) = (P ++ [0], M ++ [⟨fs0, fb.take la, la, true, true⟩])) := (by show _ = _; rw [hnext.out]; simp [cgS, cgF, cgU, hn, hul, hp3.out])
                  clear z0 z1 z2 z3 z4 hC9'
                  go_wp2
                  go_roundw
                  case rel => exact ⟨i + 1, m1, by first | rfl | simp, by omega, by omega, by rw [hfin.out]; first | exact hC9.out | simpa using hC9.out⟩
                  case measure => simp [intOf]; omega
              · have du : decide ((u : Int) > 0) = false := by simp; omega
                have du2 : decide (0 < (u : Int)) = false := by simp; omega
                have du3 : decide (0 < u) = false := by simp; omega
                go_wp2_with fail
                refine wp_mono (reg34 _ wr.heap.size la fs0 ⟨fb.toArray⟩ fb (ba_take0 fb la (by omega)) (by rw [hln]; omega) hJ.c (by omega) z0 z1 ⟨_, hJ.k⟩ (fun ro rc _ hc => hJ.n _ _ _ hc) _ _ _ _ _ _ _ _ _ _ _ _ _ _ _ _ _ _ _ _ _ _ _ _ _ _ _ _ _ _ _ _ _ _ _ _ _ _ _ _ _ _ _ _ _ _ _ _ _ _ _ _ _ _ _ _ _ _ _ _ _ _ _ _ _ _ _ _ _ _ _ _ _ _ _ _ _ _ _ _ _ _ _ _ _ _ _ _ _ _ _ _ _ _ _ _ _ _ _ _ _ _ _ _ _ _ _ _ _ _ _ _ _ _ _ _ _ _ _ _ _ _ _ _ _ _ _ _ _ _ _ _) ?_
                rintro e a' w9 ⟨rfl, u114, u115, u116, u117, u118, u119, u120, u121, u122, u123, u124, u125, u126, u127, u128, u129, u130, rfl, hC9'⟩
                have hC9 : Hid _ := hC9'
                have hfin : Hid (cgs l (L.take (i + 1)) = (P, M ++ [⟨fs0, fb.take la, la, true, true⟩])) := (by show _ = _; rw [hnext.out]; simp [cgS, cgF, cgU, List.append_nil, hul])
                clear z0 z1 z2 z3 z4 hC9'
                go_wp2
                go_roundw
                case rel => exact ⟨i + 1, m, by first | rfl | simp, by omega, by omega, by rw [hfin.out]; first | exact hC9.out | simpa using hC9.out⟩
                case measure => simp [intOf]; omega
        · obtain rfl : i = L.length := by omega
          have dl : decide ((L.length : Int) < (L.length : Int)) = false := by simp
          rw [List.take_of_length_le (Nat.le_refl _)] at hC
          have HC : Hid _ := hC
          clear hrr hC hcell hsz
          have hEnd : ∃ T', Rv wr T' w.heap.size (cgs l L).2 [] 0 ∧ ∀ k, T' k → w.heap.size ≤ k := by
            have hC := HC.out
            obtain ⟨ro, rc, h1, h2⟩ := hC.hz
            refine ⟨fun k => w.heap.size ≤ k ∧ k < wr.heap.size, ⟨⟨ro, rc, none, 0, 0, h1, ⟨h2.len, h2.row.1, ?_⟩, ⟨rfl, Nat.le_refl _, Nat.zero_le _, (fun a e => by cases e), (fun _ => rfl), (fun b i e => by cases e)⟩, (fun a e => by cases e), fun q hq => h2.from_base q hq⟩, ⟨hC.zl, lt_of_heap h1⟩, fun k hk => hk.2⟩, fun k hk => hk.1⟩
            rcases h2.row.2 with h9 | ⟨g, c', cur, hv, hb', h9⟩
            · exact .inl h9
            · exact .inr ⟨g, c', cur, hv, Nat.zero_le _, h9⟩
          have HE : Hid _ := hEnd
          clear hEnd
          go_wp2
          exact bodyPost_ret (v := .tuple #[.pointer (some ⟨w.heap.size, 0, none⟩), u10, u11, .int .i64 0]) (by simp [results, Try.results16, go_sem]) rfl ⟨_, _, _, rfl, HE.out, HC.out.p, hgw⟩
end
end Go.Proofs.Ytgkeflgfnagnjaa

/-
  Calls on both disks, in one word.
-/
namespace Go.Proofs.Ytgkeflgfnagnjaa
open Go.RowKit Go.Maps Go.WideMaps
set_option linter.unusedVariables false
set_option maxRecDepth 100000

/-- What a call answers and leaves. -/
structure An where
  c : Int
  L : List Rf
  fs : List (Int × Int)
  st : Int
section
variable {w w' : World} {b rb i : Nat} {fs : List (Int × Int)} {st : Int} {T U : Nat → Prop} {L : List Rf} {s : ByteArray}

def hitA (L : List Rf) (fs : List (Int × Int)) (st : Int) (s : ByteArray) (k : Nat → Rf → An) : An :=
  if (findR L s).2 ≠ 0 then ⟨(findR L s).2, L, fs, st⟩ else match atN L s with
    | none => ⟨0, L, fs, st⟩
    | some j => match L[j]? with | none => ⟨0, L, fs, st⟩ | some f => k j f
theorem hitA_lost (k : Nat → Rf → An) (hc : (findR L s).2 ≠ 0) : hitA L fs st s k = ⟨(findR L s).2, L, fs, st⟩ := by unfold hitA; rw [if_pos hc]
theorem hitA_hit (k : Nat → Rf → An) {j : Nat} {f : Rf} (hh : Hit L s j f) : hitA L fs st s k = k j f := by
  unfold hitA
  rw [hh.find, if_neg (by simp), hh.at']
  simp only [hh.get]
def creA (L : List Rf) (fs : List (Int × Int)) (st : Int) (s : ByteArray) : An := ⟨(creL L fs s).1, (creL L fs s).2.2, if (creL L fs s).2.1 then fs.tail else fs, if (creL L fs s).2.1 then st + 1 else st⟩
def synA (L : List Rf) (fs : List (Int × Int)) (st : Int) (s : ByteArray) : An := hitA L fs st s fun j f => ⟨(stepR fs ((f.bs.length : Int) - f.la)).2, L.set j { f with la := f.la + (stepR fs ((f.bs.length : Int) - f.la)).1.toNat }, fs.tail, st + 1⟩
def appA (L : List Rf) (fs : List (Int × Int)) (st : Int) (s : ByteArray) (x : List UInt8) : An := hitA L fs st s fun j f => ⟨(stepR fs (x.length : Int)).2, L.set j { f with bs := f.bs ++ x.take (stepR fs (x.length : Int)).1.toNat }, fs.tail, st + 1⟩
def remA (L : List Rf) (fs : List (Int × Int)) (st : Int) (s : ByteArray) : An := hitA L fs st s fun j f => ⟨(stepC fs).1, if (stepC fs).1 = 0 then rmL L j f else L, fs.tail, st + 1⟩
def sdA (L : List Rf) (fs : List (Int × Int)) (st : Int) : An := ⟨(stepC fs).1, if (stepC fs).1 = 0 then sdL L else L, fs.tail, st + 1⟩
theorem step_nat (fs : List (Int × Int)) (z : Nat) : (stepR fs (z : Int)).1 = ((stepR fs (z : Int)).1.toNat : Int) ∧ (stepR fs (z : Int)).1.toNat ≤ z := by
  obtain ⟨j, h1, h2⟩ := stepR_le fs z
  rw [h1]
  simpa using h2
/-- What the program's call leaves. -/
def PA (w : World) (T : Nat → Prop) (b i : Nat) (A : An) (e : Ending) (w' : World) : Prop := e = .returned (.int .i64 A.c) ∧ Pn w w' T b A.L A.fs A.st (i + 1)
def RA' (w : World) (U : Nat → Prop) (rb : Nat) (A : An) (e : Ending) (w' : World) : Prop := e = .returned (.int .i64 A.c) ∧ Rn w w' U rb A.L A.fs A.st
theorem Rn.refl (h : Rv w U rb L fs st) : Rn w w U rb L fs st := Rn.of h (Chg.refl _ _)
theorem cre_P (h : Pv w T b L fs st i) (hi : i < 300) (s : ByteArray) : Calls Try.prog 24 #[.pointer (some ⟨b, 0, none⟩), .string s] w (PA w T b i (creA L fs st s)) := create_p h hi s
theorem syn_P (h : Pv w T b L fs st i) (hi : i < 300) (s : ByteArray) : Calls Try.prog 35 #[.pointer (some ⟨b, 0, none⟩), .string s] w (PA w T b i (synA L fs st s)) := by
  rcases find_or L s with hc | ⟨j, f, hh, hlk, hc⟩
  · unfold synA
    rw [hitA_lost _ hc]
    refine (sync_lost (h.lost s hc)).mono ?_
    rintro e w2 ⟨rfl, rfl⟩
    exact ⟨rfl, Pn.refl h⟩
  · unfold synA
    rw [hitA_hit _ hh]
    have hw := (h.lw.fl f (lk_mem hlk)).1
    have := step_nat fs (f.bs.length - f.la)
    rw [show ((f.bs.length - f.la : Nat) : Int) = (f.bs.length : Int) - f.la by omega] at this
    exact sync_p h hi hh _ this.1
theorem app_P (h : Pv w T b L fs st i) (hi : i < 300) (s : ByteArray) {xo : Option Addr} {k xc : Nat} {x : List UInt8} (hx : Bs w xo k xc x) (hk : k ≤ 3000) (hxT : ∀ a, xo = some a → k = 0 ∨ ¬ T a.block) : Calls Try.prog 25 #[.pointer (some ⟨b, 0, none⟩), .string s, .slice xo k xc] w (PA w T b i (appA L fs st s x)) := by
  rcases find_or L s with hc | ⟨j, f, hh, hlk, hc⟩
  · unfold appA
    rw [hitA_lost _ hc]
    refine (append_lost (h.lost s hc) _).mono ?_
    rintro e w2 ⟨rfl, rfl⟩
    exact ⟨rfl, Pn.refl h⟩
  · unfold appA
    rw [hitA_hit _ hh, hx.len]
    exact append_p h hi hh hx hk hxT _ (step_nat fs k).1
theorem rem_P (h : Pv w T b L fs st i) (hi : i < 300) (s : ByteArray) : Calls Try.prog 39 #[.pointer (some ⟨b, 0, none⟩), .string s] w (PA w T b i (remA L fs st s)) := by
  rcases find_or L s with hc | ⟨j, f, hh, hlk, hc⟩
  · unfold remA
    rw [hitA_lost _ hc]
    refine (remove_lost (h.lost s hc)).mono ?_
    rintro e w2 ⟨rfl, rfl⟩
    exact ⟨rfl, Pn.refl h⟩
  · unfold remA
    rw [hitA_hit _ hh]
    exact remove_p h hi hh
theorem sd_P (h : Pv w T b L fs st i) (hi : i < 300) : Calls Try.prog 37 #[.pointer (some ⟨b, 0, none⟩)] w (PA w T b i (sdA L fs st)) := syncdir_p h hi
theorem cre_R (h : Rv w U rb L fs st) (hw : Lw L fs st i) (hi : i < 300) (s : ByteArray) : Calls Try.prog 33 #[.pointer (some ⟨rb, 0, none⟩), .string s] w (RA' w U rb (creA L fs st s)) := by
  have := hw.len
  have := hw.st1
  exact create_r h (by omega) hw.st0 (by omega) s
theorem syn_R (h : Rv w U rb L fs st) (hw : Lw L fs st i) (hi : i < 300) (s : ByteArray) : Calls Try.prog 36 #[.pointer (some ⟨rb, 0, none⟩), .string s] w (RA' w U rb (synA L fs st s)) := by
  have hl := hw.len
  have h1 := hw.st1
  rcases find_or L s with hc | ⟨j, f, hh, hlk, hc⟩
  · unfold synA
    rw [hitA_lost _ hc]
    refine (sync_r_lost h (by omega) s hc).mono ?_
    rintro e w2 ⟨rfl, rfl⟩
    exact ⟨rfl, Rn.refl h⟩
  · unfold synA
    rw [hitA_hit _ hh]
    have hf := hw.fl f (lk_mem hlk)
    have := step_nat fs (f.bs.length - f.la)
    rw [show ((f.bs.length - f.la : Nat) : Int) = (f.bs.length : Int) - f.la by omega] at this
    refine (sync_r h (by omega) hw.st0 (by omega) hh hf.1 (by omega) _ this.1).mono ?_
    rintro e w2 ⟨rfl, h2, h3⟩
    exact ⟨rfl, Rn.of h2 h3⟩
theorem app_R (h : Rv w U rb L fs st) (hw : Lw L fs st i) (hi : i < 300) (s : ByteArray) {xo : Option Addr} {k xc : Nat} {x : List UInt8} (hx : Bs w xo k xc x) (hk : k ≤ 3000) (hxT : ∀ a, xo = some a → k = 0 ∨ ¬ U a.block) : Calls Try.prog 34 #[.pointer (some ⟨rb, 0, none⟩), .string s, .slice xo k xc] w (RA' w U rb (appA L fs st s x)) := by
  have hl := hw.len
  have h1 := hw.st1
  rcases find_or L s with hc | ⟨j, f, hh, hlk, hc⟩
  · unfold appA
    rw [hitA_lost _ hc]
    refine (append_r_lost h (by omega) s hc _).mono ?_
    rintro e w2 ⟨rfl, rfl⟩
    exact ⟨rfl, Rn.refl h⟩
  · unfold appA
    rw [hitA_hit _ hh, hx.len]
    have hf := hw.fl f (lk_mem hlk)
    refine (append_r h (by omega) hw.st0 (by omega) hh hx hxT (by omega) _ (step_nat fs k).1).mono ?_
    rintro e w2 ⟨rfl, h2, h3⟩
    exact ⟨rfl, Rn.of h2 h3⟩
theorem rem_R (h : Rv w U rb L fs st) (hw : Lw L fs st i) (hi : i < 300) (s : ByteArray) : Calls Try.prog 40 #[.pointer (some ⟨rb, 0, none⟩), .string s] w (RA' w U rb (remA L fs st s)) := by
  have hl := hw.len
  have h1 := hw.st1
  rcases find_or L s with hc | ⟨j, f, hh, hlk, hc⟩
  · unfold remA
    rw [hitA_lost _ hc]
    refine (remove_r_lost h (by omega) s hc).mono ?_
    rintro e w2 ⟨rfl, rfl⟩
    exact ⟨rfl, Rn.refl h⟩
  · unfold remA
    rw [hitA_hit _ hh]
    exact remove_r h (by omega) hw.st0 (by omega) hh (hw.fl f (lk_mem hlk)).1
theorem sd_R (h : Rv w U rb L fs st) (hw : Lw L fs st i) (hi : i < 300) : Calls Try.prog 38 #[.pointer (some ⟨rb, 0, none⟩)] w (RA' w U rb (sdA L fs st)) := by
  have hl := hw.len
  have h1 := hw.st1
  exact syncdir_r h (by omega) hw.st0 (by omega)
/-! Files that may come back last, behind each call. -/
theorem Gd.set (h : Gd L) {j : Nat} {f : Rf} (hf : f.la ≤ f.bs.length) (ht : f.th = false → f.la = f.bs.length) : Gd (L.set j f) := fun g hg => by
  rcases List.mem_or_eq_of_mem_set hg with h1 | rfl
  · exact h g h1
  · exact ⟨hf, ht⟩
theorem hitA_gd (h : Gd L) (k : Nat → Rf → An) (hk : ∀ j f, Hit L s j f → Gd (k j f).L) : Gd (hitA L fs st s k).L := by
  rcases find_or L s with hc | ⟨j, f, hh, hlk, hc⟩
  · rw [hitA_lost _ hc]; exact h
  · rw [hitA_hit _ hh]; exact hk j f hh
theorem cre_gd (h : Gd L) (s : ByteArray) : Gd (creA L fs st s).L := by
  unfold creA creL
  simp only
  split
  · exact h
  · split
    · exact h
    · simp only
      split
      · intro f hf
        unfold insL at hf
        simp only [List.mem_append, List.mem_singleton] at hf
        rcases hf with (h1 | rfl) | h1
        · exact h f (List.mem_of_mem_take h1)
        · simp
        · exact h f (List.mem_of_mem_drop h1)
      · exact h
theorem syn_gd (h : Gd L) (s : ByteArray) : Gd (synA L fs st s).L := hitA_gd h _ fun j f hh => by
  have hf := h f (List.mem_of_getElem? hh.get)
  have := step_nat fs (f.bs.length - f.la)
  rw [show ((f.bs.length - f.la : Nat) : Int) = (f.bs.length : Int) - f.la by omega] at this
  exact h.set (by simp only; omega) (fun e => by rw [hh.th] at e; cases e)
theorem app_gd (h : Gd L) (s : ByteArray) (x : List UInt8) : Gd (appA L fs st s x).L := hitA_gd h _ fun j f hh => by
  have hf := h f (List.mem_of_getElem? hh.get)
  exact h.set (by simp; omega) (fun e => by rw [hh.th] at e; cases e)
theorem rem_gd (h : Gd L) (s : ByteArray) : Gd (remA L fs st s).L := hitA_gd h _ fun j f hh => by
  have hf := h f (List.mem_of_getElem? hh.get)
  simp only
  split
  · unfold rmL
    split
    · exact h.set (by simp; omega) (fun e => by simp; omega)
    · exact fun g hg => h g ((cut_sub L j).subset hg)
  · exact h
theorem sd_gd (h : Gd L) : Gd (sdA L fs st).L := by
  unfold sdA
  simp only
  split
  · intro f hf
    unfold sdL at hf
    obtain ⟨g, hg, rfl⟩ := List.mem_map.1 hf
    have := List.mem_filter.1 hg
    have h1 := h g this.1
    exact ⟨h1.1, fun e => by have h2 := this.2; simp only at e h2; rw [e] at h2; cases h2⟩
  · exact h
end
end Go.Proofs.Ytgkeflgfnagnjaa
