/-
  taken: the walk.
-/
import Derived.Test.YtkcgpjmjaedlbaaL2
import Derived.WalkMore
import Derived.Lib.MinMax
namespace Go.Proofs.Ytkcgpjmjaedlbaa
open Go.RowKit
set_option linter.unusedVariables false

/-- What taken answers. -/
def TakE (take : Int) (L : List Rl) (e : Ending) : Prop := ∃ k : Nat, e = .returned (.int .i64 k) ∧ Tk take L k
theorem TakE.of {take : Int} {L : List Rl} {k : Nat} (h : Tk take L k) : TakE take L (.returned (.int .i64 k)) := ⟨k, rfl, h⟩

theorem Tk.nil {take : Int} (h : 1 ≤ take) : Tk take [] 0 := ⟨Nat.le_refl _, by show (0 : Int) ≤ take; omega, fun e => absurd rfl e, by simp [Fit, flat, szs], fun e => by simp at e⟩
theorem not_fit {L : List Rl} {k c s : Nat} {x : Rl} (j : Nat) (hk : k < L.length) (hx : L[k] = x) (hj : j < x.l.length) (hc : (flat (L.take k)).length = c) (hs : szs (flat (L.take k)) = s)
    (h : 256 < c + (j + 1) ∨ 65536 < 20 + s + szs (x.l.take (j + 1))) : ¬ Fit (L.take (k + 1)) := by
  intro hf
  unfold Fit at hf
  rw [flat_succ hk, szs_append, List.length_append, hx, hc, hs] at hf
  have h1 := szs_take_le x.l (j + 1)
  omega

set_option maxRecDepth 100000 in
set_option maxHeartbeats 4000000 in
theorem taken_any (w : World) (take : Int) (ao : Option Addr) (n cap : Nat) (L : List Rl) (ha : Ls w ao n cap L) (hok : ∀ x ∈ L, (fitsR x.l).2 = 0) (ht : 1 ≤ take) (hn4 : n ≤ 4096) :
    Calls Try.prog 39 #[.int .i64 take, .slice ao n cap] w fun e w' => TakE take L e ∧ w.grownBy w' none := by
  have hlen := ha.len
  by_cases h0 : n = 0
  · subst h0
    obtain rfl : L = [] := List.eq_nil_of_length_eq_zero hlen
    go_enter Try.func39, Try.ntmps39
    go_wp2
    go_step3
    go_wp2
    rw [Exit.noGoto_ret]
    go_ret
    exact ⟨TakE.of (Tk.nil ht), grown_refl _ _⟩
  · have hz : ((n : Int) == 0) = false := by simp; omega
    obtain ⟨b, o, rfl, hbl⟩ := ha.vs.addr (by omega)
    have h1 : 0 < L.length := by omega
    obtain ⟨a1, ak⟩ := ha.at h1
    obtain ⟨hm0, hne0, hl0, hz0, hF0⟩ := fitsR_ok (hok _ (List.getElem_mem h1))
    have hxl := ak.len
    have hf1 : Hid (flat (L.take 1) = (L[0]).l) := by show _ = _; rw [flat_succ h1]; simp [flat]
    have hc0 := fits_any w.drew _ _ _ _ (ak.grown (grown_drew w none)) (small_of ak (by omega))
    rw [hF0] at hc0
    rw [Nat.add_zero] at a1
    generalize hx0 : L[0] = x0 at *
    have hd0 : (0 : Int) < (n : Int) := by omega
    clear hF0 hm0 hne0 hx0
    have hcount : Hid ((flat (L.take 1)).length = x0.n) := by show _ = _; rw [hf1.out, hxl]
    have hsize : Hid (szs (flat (L.take 1)) = szs x0.l) := by show _ = _; rw [hf1.out]
    have hfit1 : Hid (Fit (L.take 1)) := by show Fit _; unfold Fit; rw [hf1.out]; exact ⟨hl0, hz0⟩
    generalize szs x0.l = S0 at *
    obtain ⟨M, hM, hMt, hMn, hMm⟩ : ∃ M : Int, min take (n : Int) = M ∧ M ≤ take ∧ M ≤ (n : Int) ∧ (take ≤ M ∨ (n : Int) ≤ M) := ⟨_, rfl, by omega, by omega, by omega⟩
    go_enter Try.func39, Try.ntmps39
    go_wp2_with fail
    go_step3
    go_wp2_with fail
    go_region
    go_wp2_with fail
    refine hc0.mono ?_
    rintro e w1 ⟨rfl, hg1'⟩
    have hg1 := grown_trans (grown_drew w none) hg1' (by simp)
    clear hc0 a1 ak hg1'
    go_wp2_with fail
    go_step3
    go_wp2_with fail
    go_loopw [5, 6, 7, 10, 36] (fun n' c' s' _ _ wr => ∃ k c s : Nat, 1 ≤ k ∧ k ≤ n ∧ (k : Int) ≤ take ∧ n' = .int .i64 k ∧ c' = .int .i64 c ∧ s' = .int .i64 (20 + s : Nat) ∧ Hid ((flat (L.take k)).length = c) ∧ Hid (szs (flat (L.take k)) = s) ∧ c ≤ 256 ∧ 20 + s ≤ 65536 ∧ w.grownBy wr none) (fun n' _ _ _ _ _ => n - (intOf n').toNat)
    case atStart => exact ⟨1, x0.n, S0, Nat.le_refl _, by omega, ht, rfl, rfl, rfl, hcount, hsize, by omega, hz0, hg1⟩
    case round =>
      obtain ⟨k, c, s, hk1, hkn, hkt, rfl, rfl, rfl, hC, hS, hc, hs, hg⟩ := hrel
      have hfit : Hid (Fit (L.take k)) := by show Fit _; unfold Fit; rw [hC.out, hS.out]; exact ⟨hc, hs⟩
      by_cases hlt : k < n ∧ (k : Int) < take
      · have hd : decide ((k : Int) < M) = true := by simp; omega
        have h2 : k < L.length := by omega
        obtain ⟨a2, ak⟩ := (ha.grown hg).at h2
        obtain ⟨hm2, hne2, hl2, hz2, hF2⟩ := fitsR_ok (hok _ (List.getElem_mem h2))
        have hT : Hid (∀ x j, L[k] = x → j < x.l.length → 256 < c + (j + 1) ∨ 65536 < 20 + s + szs (x.l.take (j + 1)) → Tk take L k) := fun x j hx hj h9 => ⟨by omega, hkt, fun _ => hk1, hfit.out, fun _ _ => not_fit j h2 hx hj hC.out hS.out h9⟩
        have hC1 : Hid ((flat (L.take (k + 1))).length = c + (L[k]).l.length) := by show _ = _; rw [flat_succ h2, List.length_append, hC.out]
        have hS1 : Hid (szs (flat (L.take (k + 1))) = s + szs (L[k]).l) := by show _ = _; rw [flat_succ h2, szs_append, hS.out]
        have hkk : ∀ W, w.grownBy W none → Rs W (L[k]).o (L[k]).n (L[k]).c (L[k]).l := fun W hW => (ha.grown hW).shows _ (List.getElem_mem h2)
        have hxl2 := ak.len
        have hxp : 0 < (L[k]).n := by have := List.length_pos_iff.2 hne2; omega
        obtain ⟨b3, o3, ho3, hb3⟩ := ak.addr hxp
        rw [ho3] at a2 hkk
        clear ak hF2 hm2 hne2 hC hS hfit ho3
        generalize hx : L[k] = x at *
        have hT2 : Hid (∀ j, j < x.l.length → 256 < c + (j + 1) ∨ 65536 < 20 + s + szs (x.l.take (j + 1)) → Tk take L k) := fun j hj h9 => hT.out x j rfl hj h9
        clear hT hx
        have hkn1 : (k : Int) < (n : Int) := by omega
        have hk0 : (0 : Int) ≤ (k : Int) := by omega
        go_wp2_with fail
        go_loopw [6, 7, 10, 36] (fun c' s' _ j' wr => ∃ j z : Nat, j ≤ x.n ∧ j' = .int .i64 j ∧ c' = .int .i64 (c + j : Nat) ∧ s' = .int .i64 (20 + s + z : Nat) ∧ Hid (szs (x.l.take j) = z) ∧ c + j ≤ 256 ∧ 20 + s + z ≤ 65536 ∧ w.grownBy wr none) (fun _ _ _ j' _ => x.n - (intOf j').toNat)
        case atStart => exact ⟨0, 0, Nat.zero_le _, rfl, rfl, rfl, (by simp [szs] : szs (x.l.take 0) = 0), by omega, by omega, hg⟩
        case round =>
          rename_i wr0
          obtain ⟨j, z, hj, rfl, rfl, rfl, hz9, hcj, hsj, hg2⟩ := hrel
          by_cases hlt2 : j < x.n
          · have h3 : j < x.l.length := by omega
            have hd3 : decide ((j : Int) < (x.n : Int)) = true := by simp; omega
            have hR := hkk _ hg2
            obtain ⟨q1, q2, q3, qk⟩ := hR.at h3
            have hzs := szs_snoc h3
            rw [hz9.out] at hzs
            have HZ : Hid (szs (x.l.take (j + 1)) = z + (12 + (x.l[j]).kn + (x.l[j]).vn)) := hzs
            have hkb := qk.kb
            have hvb := qk.vb
            have hkr := qk.key.room
            have hvr := qk.value.room
            have hX : Hid (256 < c + (j + 1) ∨ 65536 < 20 + s + (z + (12 + (x.l[j]).kn + (x.l[j]).vn)) → Tk take L k) := fun h9 => hT2.out j h3 (by rw [HZ.out]; exact h9)
            clear hzs hR hz9
            generalize x.l[j] = r at *
            have ga := alloc_grown wr (.cells #[.int .i64 r.t, .slice r.ko r.kn r.kc, .slice r.vo r.vn r.vc] 81)
            go_wp2_with fail
            refine (size_any _ r (qk.grown ga)).mono ?_
            rintro e w2 ⟨rfl, hg3⟩
            have hG := grown_trans (grown_trans hg2 ga (by simp)) hg3 (by simp)
            clear q1 q2 q3 qk ga hg3
            by_cases h256 : 256 < c + (j + 1)
            · have hd4 : decide ((256 : Int) < (c : Int) + (j : Int) + 1) = true := by simp; omega
              have hTT := hX.out (Or.inl h256)
              go_wp2
              rw [Exit.noGoto_ret]
              go_ret
              exact ⟨TakE.of hTT, hG⟩
            · have hd4 : decide ((256 : Int) < (c : Int) + (j : Int) + 1) = false := by simp; omega
              by_cases h65 : 65536 < 20 + s + (z + (12 + r.kn + r.vn))
              · have hd5 : decide ((65536 : Int) < 20 + (s : Int) + (z : Int) + (12 + (r.kn : Int) + (r.vn : Int))) = true := by simp; omega
                have hTT := hX.out (Or.inr h65)
                go_wp2
                rw [Exit.noGoto_ret]
                go_ret
                exact ⟨TakE.of hTT, hG⟩
              · have hd5 : decide ((65536 : Int) < 20 + (s : Int) + (z : Int) + (12 + (r.kn : Int) + (r.vn : Int))) = false := by simp; omega
                go_wp2
                go_roundw
                case rel => exact ⟨j + 1, z + (12 + r.kn + r.vn), by omega, by go_num, by congr 1, by congr 1; push_cast; omega, HZ, by omega, by omega, hG⟩
                case measure => simp [intOf]; omega
          · obtain rfl : j = x.n := by omega
            have hd3 : decide ((x.n : Int) < (x.n : Int)) = false := by simp
            have hzx : Hid (szs x.l = z) := by
              have h9 := hz9.out
              rwa [List.take_of_length_le (by omega)] at h9
            go_wp2
            go_roundw
            case rel => exact ⟨k + 1, c + x.n, s + z, by omega, by omega, by omega, by go_num, rfl, by rw [Nat.add_assoc], by show _ = _; rw [hC1.out, hxl2], by show _ = _; rw [hS1.out, hzx.out], by omega, by omega, hg2⟩
            case measure => simp [intOf]; omega
      · have hd : decide ((k : Int) < M) = false := by simp; omega
        have hT : Hid (Tk take L k) := (⟨by omega, hkt, fun _ => hk1, hfit.out, fun g1 g2 => absurd ⟨by omega, g2⟩ hlt⟩ : Tk take L k)
        go_wp2
        rw [Exit.noGoto_ret]
        go_ret
        exact ⟨TakE.of hT.out, hg⟩
end Go.Proofs.Ytkcgpjmjaedlbaa
