/-
  The document's Seal and Open: the walks.
-/
import Derived.Test.YtkfpgmpjimnleaaDoorC4
import Derived.Test.YtkfpgmpjimnleaaDoorC8
namespace Go.Proofs.YtkfpgmpjimnleaaDoor
open Go.RowKit
set_option linter.unusedVariables false

theorem Bs.four (w : World) (v0 v1 v2 v3 : Value) (b0 b1 b2 b3 : UInt8) (e : TypeId) (h0 : v0 = bv b0) (h1 : v1 = bv b1) (h2 : v2 = bv b2) (h3 : v3 = bv b3) : Bs (w.alloc (.cells #[v0, v1, v2, v3] e)) (some ⟨w.heap.size, 0, none⟩) 4 4 [b0, b1, b2, b3] := by
  subst h0 h1 h2 h3
  refine ⟨rfl, Nat.le_refl _, by decide, (by simp), fun a ha j u hu => ?_⟩
  obtain rfl := Option.some.inj ha
  rw [Addr.add_lit, Nat.zero_add, World.cell?_alloc_mark]
  match j, hu with
  | 0, hu => simpa using hu
  | 1, hu => simpa using hu
  | 2, hu => simpa using hu
  | 3, hu => simpa using hu

theorem low_four (s : Nat) : low s 4 = [UInt8.ofNat s, UInt8.ofNat (s / 256), UInt8.ofNat (s / 65536), UInt8.ofNat (s / 16777216)] := by
  simp [low, List.range_succ]

theorem bv_div (s d : Nat) : Value.int .u8 ((s : Int) / (d : Int) % 256) = bv (UInt8.ofNat (s / d)) := by
  rw [← Int.natCast_ediv]
  exact bv_mod _

set_option maxRecDepth 100000 in
set_option maxHeartbeats 1000000 in
theorem rseal_any (w : World) (ao : Option Addr) (n cap : Nat) (l : List UInt8) (hb : Bs w ao n cap l) (hsz : n + 8 ≤ 140737488355328) :
    Calls Tryd.prog 27 #[.slice ao n cap] w fun e w' => ∃ ao' cap', e = .returned (.slice ao' (n + 4 : Nat) cap') ∧ Ow w' w.heap.size 5 ao' (n + 4) cap' (l ++ low (sm l) 4) ∧ w.grownBy w' none := by
  have hsl := sm_lt l
  go_enter Tryd.func27, Tryd.ntmps27
  go_wp2_with fail
  refine (rsum_any _ _ _ _ l hb).mono ?_
  rintro e w ⟨rfl, hw⟩
  subst hw
  have hz0 := Ow.empty w w.heap.size 5 (Nat.le_refl _)
  have hb1 := hb.grown (alloc_grown w (.cells #[] 5))
  go_wp2_with (at_builtin; refine wpList_append_bs _ rfl _ _ 26 rfl w.heap.size 5 Tryd.underlying26 info5 rfl hz0 rfl hb1 (by omega) (by simp) ?_)
  intro ao2 cap2 w2 ho2 hg2
  have hG2 : w.grownBy w2 none := below_of_new (alloc_grown w _) hg2 (Nat.le_refl _)
  have hs2 := hG2.size
  have hbs := Bs.four w2 (.int .u8 ((sm l : Int) % 256)) (.int .u8 ((sm l : Int) / 256 % 256)) (.int .u8 ((sm l : Int) / 65536 % 256)) (.int .u8 ((sm l : Int) / 16777216)) _ _ _ _ 5 (bv_mod (sm l)) (bv_div (sm l) 256) (bv_div (sm l) 65536) (by rw [← bv_div (sm l) 16777216]; congr 1; omega)
  rw [← low_four] at hbs
  clear hz0 hb1 hg2
  go_wp2_with (at_builtin; refine wpList_append_bs _ rfl _ _ 26 rfl w.heap.size 5 Tryd.underlying26 info5 rfl (ho2.grown (alloc_grown w2 _)) rfl hbs (by omega) (by simp; omega) ?_)
  intro ao3 cap3 w3 ho3 hg3
  have hG3 : w.grownBy w3 none := grown_trans (grown_trans hG2 (alloc_grown w2 _) (by simp)) hg3 (fun k hk => Or.inr (ho2.from_base k hk).1)
  clear hbs hg3 ho2 hG2
  go_wp2
  go_ret
  exact ⟨ao3, cap3, rfl, ho3, hG3⟩

set_option maxHeartbeats 400000 in
theorem ropen_short (w : World) (ao : Option Addr) (n cap : Nat) (hn : n < 4) :
    Calls Tryd.prog 24 #[.slice ao n cap] w fun e w' => e = .returned (.tuple #[.slice none 0 0, .int .i64 120]) ∧ w' = w := by
  have hd : decide ((n : Int) - 4 < 0) = true := by simp; omega
  go_enter Tryd.func24, Tryd.ntmps24
  go_wp2
  go_ret2
  exact ⟨rfl, rfl⟩

theorem four_of {l : List UInt8} (h : l.length = 4) : ∃ x0 x1 x2 x3, l = [x0, x1, x2, x3] := by
  match l, h with
  | [x0, x1, x2, x3], _ => exact ⟨x0, x1, x2, x3, rfl⟩

/-- The four bytes behind. -/
theorem behind4 {w : World} {b o m cap : Nat} {l : List UInt8} (hb : Bs w (some ⟨b, o, none⟩) (m + 4) cap l) : ∃ c0 c1 c2 c3 : Nat, (c0 < 256 ∧ c1 < 256 ∧ c2 < 256 ∧ c3 < 256) ∧ val (l.drop m) = c0 + 256 * (c1 + 256 * (c2 + 256 * c3)) ∧
    w.cell? ⟨b, o + m, none⟩ = some (.int .u8 c0) ∧ w.cell? ⟨b, o + (m + 1), none⟩ = some (.int .u8 c1) ∧ w.cell? ⟨b, o + (m + 2), none⟩ = some (.int .u8 c2) ∧ w.cell? ⟨b, o + (m + 3), none⟩ = some (.int .u8 c3) := by
  obtain ⟨_, h2⟩ := open_parts hb
  obtain ⟨x0, x1, x2, x3, hx⟩ := four_of h2.len
  rw [hx] at h2 ⊢
  refine ⟨x0.toNat, x1.toNat, x2.toNat, x3.toNat, ⟨x0.toNat_lt, x1.toNat_lt, x2.toNat_lt, x3.toNat_lt⟩, by simp [val], ?_, ?_, ?_, ?_⟩
  · exact h2.at (j := 0) (by simp)
  · have h3 := h2.at (j := 1) (by simp); rw [Nat.add_assoc] at h3; exact h3
  · have h3 := h2.at (j := 2) (by simp); rw [Nat.add_assoc] at h3; exact h3
  · have h3 := h2.at (j := 3) (by simp); rw [Nat.add_assoc] at h3; exact h3

set_option maxRecDepth 100000 in
set_option maxHeartbeats 2000000 in
theorem ropen_ok (w : World) (b o m cap : Nat) (l : List UInt8) (hb : Bs w (some ⟨b, o, none⟩) (m + 4) cap l) (hsz : m ≤ 140737488355328) (hne : sm (l.take m) = val (l.drop m)) :
    Calls Tryd.prog 24 #[.slice (some ⟨b, o, none⟩) (m + 4 : Nat) cap] w fun e w' => e = .returned (.tuple #[.slice (some ⟨b, o, none⟩) m cap, .int .i64 0]) ∧ w' = w := by
  obtain ⟨h1, _⟩ := open_parts hb
  obtain ⟨c0, c1, c2, c3, ⟨l0, l1, l2, l3⟩, hv, k0, k1, k2, k3⟩ := behind4 hb
  have hroom := hb.room
  have hsum := fun w (h : Bs w (some ⟨b, o, none⟩) m cap (l.take m)) => rsum_any w _ _ _ _ h
  have hsl := sm_lt (l.take m)
  have hd : decide ((m : Int) < 0) = false := by simp
  rw [hv] at hne
  generalize sm (l.take m) = s at *
  have q0 : (c0 : Int) = (s : Int) % 256 := by omega
  have q1 : (c1 : Int) = (s : Int) / 256 % 256 := by omega
  have q2 : (c2 : Int) = (s : Int) / 65536 % 256 := by omega
  have q3 : (c3 : Int) = (s : Int) / 16777216 % 256 := by omega
  rw [q0] at k0
  rw [q1] at k1
  rw [q2] at k2
  rw [q3] at k3
  have hi2 : (m : Int) ≤ (cap : Int) := by omega
  clear q0 q1 q2 q3 hne hv
  go_enter Tryd.func24, Tryd.ntmps24
  go_wp2_with (go_at_call 13; refine (hsum _ h1).mono ?_; rintro e w ⟨rfl, hw⟩; subst hw)
  go_ret2
  exact ⟨rfl, rfl⟩

set_option maxRecDepth 100000 in
set_option maxHeartbeats 2000000 in
theorem ropen_not (w : World) (b o m cap : Nat) (l : List UInt8) (hb : Bs w (some ⟨b, o, none⟩) (m + 4) cap l) (hsz : m ≤ 140737488355328) (hne : sm (l.take m) ≠ val (l.drop m)) :
    Calls Tryd.prog 24 #[.slice (some ⟨b, o, none⟩) (m + 4 : Nat) cap] w fun e w' => e = .returned (.tuple #[.slice none 0 0, .int .i64 121]) ∧ w' = w := by
  obtain ⟨h1, _⟩ := open_parts hb
  obtain ⟨c0, c1, c2, c3, ⟨l0, l1, l2, l3⟩, hv, k0, k1, k2, k3⟩ := behind4 hb
  have hroom := hb.room
  have hsum := fun w (h : Bs w (some ⟨b, o, none⟩) m cap (l.take m)) => rsum_any w _ _ _ _ h
  have hsl := sm_lt (l.take m)
  have hd : decide ((m : Int) < 0) = false := by simp
  rw [hv] at hne
  generalize sm (l.take m) = s at *
  have hi2 : (m : Int) ≤ (cap : Int) := by omega
  by_cases q0 : (c0 : Int) = (s : Int) % 256
  · rw [q0] at k0
    by_cases q1 : (c1 : Int) = (s : Int) / 256 % 256
    · rw [q1] at k1
      by_cases q2 : (c2 : Int) = (s : Int) / 65536 % 256
      · rw [q2] at k2
        have q3 : ¬ (c3 : Int) = (s : Int) / 16777216 % 256 := by omega
        have t3 : ((c3 : Int) != (s : Int) / 16777216 % 256) = true := by simpa using q3
        clear q0 q1 q2 hne hv
        go_enter Tryd.func24, Tryd.ntmps24
        go_wp2_with (go_at_call 13; refine (hsum _ h1).mono ?_; rintro e w ⟨rfl, hw⟩; subst hw)
        go_ret2
        exact ⟨rfl, rfl⟩
      · have t2 : ((c2 : Int) != (s : Int) / 65536 % 256) = true := by simpa using q2
        clear q0 q1 hne hv
        go_enter Tryd.func24, Tryd.ntmps24
        go_wp2_with (go_at_call 13; refine (hsum _ h1).mono ?_; rintro e w ⟨rfl, hw⟩; subst hw)
        go_ret2
        exact ⟨rfl, rfl⟩
    · have t1 : ((c1 : Int) != (s : Int) / 256 % 256) = true := by simpa using q1
      clear q0 hne hv
      go_enter Tryd.func24, Tryd.ntmps24
      go_wp2_with (go_at_call 13; refine (hsum _ h1).mono ?_; rintro e w ⟨rfl, hw⟩; subst hw)
      go_ret2
      exact ⟨rfl, rfl⟩
  · have t0 : ((c0 : Int) != (s : Int) % 256) = true := by simpa using q0
    clear hne hv
    go_enter Tryd.func24, Tryd.ntmps24
    go_wp2_with (go_at_call 13; refine (hsum _ h1).mono ?_; rintro e w ⟨rfl, hw⟩; subst hw)
    go_ret2
    exact ⟨rfl, rfl⟩

end Go.Proofs.YtkfpgmpjimnleaaDoor
