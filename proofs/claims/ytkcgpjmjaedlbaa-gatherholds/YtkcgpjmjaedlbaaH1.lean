/-
  GatherHolds: the walk.
-/
import Derived.Test.YtkcgpjmjaedlbaaL9
namespace Go.Proofs.Ytkcgpjmjaedlbaa
open Go.RowKit
set_option linter.unusedVariables false

theorem together_fit (w : World) (ao : Option Addr) (n cap : Nat) (L : List Rl) (ha : Ls w ao n cap L) (hs : ∀ x ∈ L, x.n ≤ 4096) (hn4 : n ≤ 4096) (h : lref L = 0) (hf : Fit L) :
    Calls Try.prog 13 #[.slice ao n cap] w fun e w' => (∃ g m, e = .returned (.tuple #[.slice (some ⟨g, 0, none⟩) m m, .int .i64 0])) ∧ w.grownBy w' none := by
  refine (together_ok w ao n cap L ha hs hn4 h).mono ?_
  rintro e w' ⟨h9 | ⟨_, g, rs, rfl, _⟩, hg⟩
  · exact absurd hf h9.1
  · exact ⟨⟨_, _, rfl⟩, hg⟩
theorem together_over (w : World) (ao : Option Addr) (n cap : Nat) (L : List Rl) (ha : Ls w ao n cap L) (hs : ∀ x ∈ L, x.n ≤ 4096) (hn4 : n ≤ 4096) (h : lref L = 0) (hf : ¬ Fit L) :
    Calls Try.prog 13 #[.slice ao n cap] w fun e w' => e = .returned (.tuple #[.slice none 0 0, .int .i64 8]) ∧ w.grownBy w' none := by
  refine (together_ok w ao n cap L ha hs hn4 h).mono ?_
  rintro e w' ⟨⟨_, rfl⟩ | h9, hg⟩
  · exact ⟨rfl, hg⟩
  · exact absurd h9.1 hf

set_option maxRecDepth 100000 in
set_option maxHeartbeats 8000000 in
theorem gatherHolds_any (w : World) (take : Int) (ao : Option Addr) (n cap : Nat) (L : List Rl) (ha : Ls w ao n cap L) (ht1 : -9223372036854775808 ≤ take) (ht2 : take < 9223372036854775808) :
    Calls Try.prog 6 #[.int .i64 take, .slice ao n cap] w fun e w' => e = .returned (.bool true) ∧ w.grownBy w' none := by
  have hlen := ha.len
  go_enter Try.func6, Try.ntmps6
  go_wp2_with fail
  refine (many_any _ ao n cap L ha).mono ?_
  rintro e w0 ⟨⟨B, rfl, hB⟩, hw0⟩
  replace hw0 := hw0.symm
  subst hw0
  cases B
  · obtain ⟨hn3, hs3⟩ := hB rfl
    have hs : ∀ x ∈ L, x.n ≤ 4096 := fun x hx => Nat.le_trans (hs3 x hx) (by decide)
    clear hB hs3
    by_cases hr : refR take L = 0
    · obtain ⟨ht, hl⟩ := refR_pos hr
      go_wp2_with fail
      refine (plan_ok _ take ao n cap L ha hs (by omega) hr).mono ?_
      rintro e w1 ⟨⟨ps, po, pc, rfl, hP, hv⟩, hg1⟩
      go_wp2_with fail
      refine (count_ok _ take ao n cap L (ha.grown hg1) hs (by omega) hr).mono ?_
      rintro e w2 ⟨⟨k, rfl, hk⟩, hg2⟩
      have hv2 := hv.grown hg2
      have hG2 := grown_trans hg1 hg2 (by simp)
      have hpl := hP.len
      clear hv hg1 hg2
      by_cases h0 : n = 0
      · subst h0
        obtain rfl : L = [] := List.eq_nil_of_length_eq_zero hlen
        obtain rfl := hP.none
        obtain rfl : k = 0 := by have := hk.le; simpa using this
        simp only [List.length_nil]
        go_wp2_with (first | (go_at_call 18; refine (num_any _ _).mono ?_; rintro e w' ⟨rfl, hw'⟩; replace hw' := hw'.symm; subst hw') | (go_at_call 9; refine (works_any _).mono ?_; rintro e w3 ⟨rfl, hg3⟩))
        go_ret
        exact ⟨rfl, grown_trans hG2 hg3 (by simp)⟩
      · obtain ⟨p0, ps0, rfl⟩ : ∃ p0 ps0, ps = p0 :: ps0 := by
          cases ps with
          | nil => have := hP.end; subst this; simp at hlen; omega
          | cons a b => exact ⟨a, b, rfl⟩
        obtain rfl : p0 = k := hP.head.2.1.one hk
        obtain ⟨pb, rfl, hpb, _⟩ := hv2.addr (by simp)
        have hcell : ∀ W, w2.grownBy W none → ∀ i p, (p0 :: ps0)[i]? = some p → W.cell? ⟨pb, i, none⟩ = some (.int .i64 (p : Nat)) := fun W hW i p hp => by
          have h9 := (hv2.grown hW).shows.at (j := i) (u := iv p) (by rw [List.getElem?_map, hp]; rfl)
          rwa [Nat.zero_add] at h9
        have hc00 : ∀ W, w2.grownBy W none → W.cell? ⟨pb, 0, none⟩ = some (.int .i64 (p0 : Nat)) := fun W hW => hcell W hW 0 p0 rfl
        have hpos : 0 < (p0 :: ps0).length := by simp
        clear hv2
        generalize hps : p0 :: ps0 = ps at *
        generalize hpll : ps.length = pl at *
        have hz : ((pl : Int) == 0) = false := by simp; omega
        have hPH : Hid (Pn take L ps) := hP
        clear hP
        go_wp2_with (go_at_call 18; refine (num_any _ _).mono ?_; rintro e w' ⟨rfl, hw'⟩; replace hw' := hw'.symm; subst hw')
        go_loopw [9, 10, 11, 12, 13, 14] (fun f' i' _ _ _ _ wr => ∃ f i : Nat, f ≤ n ∧ i ≤ pl ∧ f' = .int .i64 f ∧ i' = .int .i64 i ∧ Hid (Pn take (L.drop f) (ps.drop i)) ∧ w2.grownBy wr none) (fun _ i' _ _ _ _ _ => pl - (intOf i').toNat)
        case atStart => exact ⟨0, 0, Nat.zero_le _, Nat.zero_le _, rfl, rfl, hPH, grown_refl _ _⟩
        case round =>
          obtain ⟨f, i, hf, hi, rfl, rfl, hPi, hg⟩ := hrel
          have hGr := grown_trans hG2 hg (by simp)
          by_cases hlt : i < pl
          · have h1 : i < ps.length := by omega
            obtain ⟨p, hpe⟩ : ∃ p, ps[i] = p := ⟨_, rfl⟩
            have hdr : ps.drop i = p :: ps.drop (i + 1) := by rw [List.drop_eq_getElem_cons h1, hpe]
            have hh := hPi.out
            rw [hdr] at hh
            obtain ⟨hne, hT, hrest⟩ := hh.head
            have hci : ∀ W, w2.grownBy W none → W.cell? ⟨pb, i, none⟩ = some (.int .i64 (p : Nat)) := fun W hW => hcell W hW i p (by rw [List.getElem?_eq_getElem h1, hpe])
            have hp1 := hT.pos hne
            have hpt := hT.most
            have hpn : p ≤ n - f := by have := hT.le; simp at this; omega
            have hrest' : Hid (Pn take (L.drop (f + p)) (ps.drop (i + 1))) := by have h9 := hrest; rw [List.drop_drop] at h9; exact h9
            have hfit : Hid (Fit ((L.drop f).take p)) := hT.fit
            have hnext : Hid (f + p < n → (p : Int) < take → ¬ Fit ((L.drop f).take (p + 1))) := fun g1 g2 => hT.next (by simp; omega) g2
            have hl1 := lref_part hl f p
            have hl2 := lref_part hl f (p + 1)
            have hs1 : ∀ m, ∀ x ∈ (L.drop f).take m, x.n ≤ 4096 := fun m x hx => hs x (List.mem_of_mem_drop (List.mem_of_mem_take hx))
            clear hPi hh hdr hne hT hrest
            have hd : decide ((i : Int) < (pl : Int)) = true := by simp; omega
            have e1 : decide ((p : Int) < 1) = false := by simp; omega
            have e2 : decide (take < (p : Int)) = false := by simp; omega
            have e3 : decide ((n : Int) - (f : Int) < (p : Int)) = false := by simp; omega
            have i1 : (0 : Int) ≤ (i : Int) := by omega
            have i2 : (i : Int) < (pl : Int) := by omega
            have hc := hci _ hg
            have hroom := ha.vs.room
            go_wp2_with (refine wpList_part _ rfl (.tmp 92) (.tmp 93) (.tmp 99) 22 rfl 32 Try.underlying22 Try.size32 rfl hroom ha.plain f p rfl rfl rfl (by push_cast; rfl) (by omega) ?_)
            intro xo' c' hpart hplain
            have hL1 : ∀ W, w.grownBy W none → Ls W xo' p c' ((L.drop f).take p) := fun W hW => (ha.grown hW).part (hpart _ _ (ha.grown hW).vs) hplain
            go_wp2_with fail
            refine (together_fit _ xo' p c' _ (hL1 _ hGr) (hs1 p) (by omega) hl1 hfit.out).mono ?_
            rintro e w3 ⟨⟨tg, tm, rfl⟩, hg3⟩
            have hg3' := grown_trans hg hg3 (by simp)
            have hG3 := grown_trans hGr hg3 (by simp)
            have hc3 := hci _ hg3'
            clear hL1 hpart hg hGr hc hg3
            by_cases hmore : f + p < n ∧ (p : Int) < take
            · have e4 : decide ((f : Int) + (p : Int) < (n : Int)) = true := by simp; omega
              have e5 : decide ((p : Int) < take) = true := by simp; omega
              go_wp2_with (first | (go_at_call 18; refine (num_any _ _).mono ?_; rintro e w' ⟨rfl, hw'⟩; replace hw' := hw'.symm; subst hw') | (refine wpList_part _ rfl (.tmp 126) (.tmp 132) (.tmp 134) 22 rfl 32 Try.underlying22 Try.size32 rfl hroom ha.plain f (p + 1) rfl rfl (by omega) (by push_cast; omega) (by omega) ?_))
              intro xo2 c2 hpart2 hplain2
              have hL2 : ∀ W, w.grownBy W none → Ls W xo2 (p + 1) c2 ((L.drop f).take (p + 1)) := fun W hW => (ha.grown hW).part (hpart2 _ _ (ha.grown hW).vs) hplain2
              go_wp2_with fail
              refine (together_over _ xo2 (p + 1) c2 _ (hL2 _ hG3) (hs1 (p + 1)) (by omega) hl2 (hnext.out hmore.1 hmore.2)).mono ?_
              rintro e w4 ⟨rfl, hg4⟩
              have hg4' := grown_trans hg3' hg4 (by simp)
              clear hL2 hpart2 hg4
              go_wp2_with (go_at_call 18; refine (num_any _ _).mono ?_; rintro e w' ⟨rfl, hw'⟩; replace hw' := hw'.symm; subst hw')
              go_roundw
              case rel => exact ⟨f + p, i + 1, by omega, by omega, by go_num, by go_num, hrest', hg4'⟩
              case measure => simp [intOf]; omega
            · by_cases hfn : f + p < n
              · have e4 : decide ((f : Int) + (p : Int) < (n : Int)) = true := by simp; omega
                have e5 : decide ((p : Int) < take) = false := by simp; omega
                go_wp2_with (go_at_call 18; refine (num_any _ _).mono ?_; rintro e w' ⟨rfl, hw'⟩; replace hw' := hw'.symm; subst hw')
                go_roundw
                case rel => exact ⟨f + p, i + 1, by omega, by omega, by go_num, by go_num, hrest', hg3'⟩
                case measure => simp [intOf]; omega
              · have e4 : decide ((f : Int) + (p : Int) < (n : Int)) = false := by simp; omega
                go_wp2_with (go_at_call 18; refine (num_any _ _).mono ?_; rintro e w' ⟨rfl, hw'⟩; replace hw' := hw'.symm; subst hw')
                go_roundw
                case rel => exact ⟨f + p, i + 1, by omega, by omega, by go_num, by go_num, hrest', hg3'⟩
                case measure => simp [intOf]; omega
          · obtain rfl : i = pl := by omega
            have hd : decide ((i : Int) < (i : Int)) = false := by simp
            obtain rfl : f = n := by
              have h9 := hPi.out
              rw [show ps.drop i = [] from List.drop_eq_nil_of_le (by omega)] at h9
              have h8 := congrArg List.length h9.end
              simp at h8
              omega
            have hc0 := hc00 _ hg
            have i2 : (0 : Int) < (i : Int) := by omega
            by_cases h1000 : take < 1000
            · have e6 : decide (take < 1000) = true := by simpa using h1000
              go_wp2_with fail
              refine (count_ok _ (take + 1) ao f cap L (ha.grown hGr) hs (by omega) (by unfold refR; rw [if_neg (by omega)]; exact hl)).mono ?_
              rintro e w3 ⟨⟨m, rfl, hm⟩, hg3⟩
              have hmk := hk.mono hm (by omega)
              have e7 : decide ((m : Int) < (p0 : Int)) = false := by simp; omega
              have hc3 := hg3.cell hc0 (by simp)
              clear hc0
              go_wp2_with (first | (go_at_call 18; refine (num_any _ _).mono ?_; rintro e w' ⟨rfl, hw'⟩; replace hw' := hw'.symm; subst hw') | (go_at_call 9; refine (works_any _).mono ?_; rintro e w5 ⟨rfl, hg5⟩))
              go_ret
              exact ⟨rfl, grown_trans (grown_trans hGr hg3 (by simp)) hg5 (by simp)⟩
            · have e6 : decide (take < 1000) = false := by simpa using h1000
              go_wp2_with (first | (go_at_call 18; refine (num_any _ _).mono ?_; rintro e w' ⟨rfl, hw'⟩; replace hw' := hw'.symm; subst hw') | (go_at_call 9; refine (works_any _).mono ?_; rintro e w5 ⟨rfl, hg5⟩))
              go_ret
              exact ⟨rfl, grown_trans hGr hg5 (by simp)⟩
    · have h1 := plan_no w take ao n cap L ha hs (by omega) hr
      have h2 := fun W (hW : w.grownBy W none) => count_no W take ao n cap L (ha.grown hW) hs (by omega) hr
      generalize refR take L = R at *
      have hd : (R != 0) = true := by simpa using hr
      have hd2 : (R == R) = true := by simp
      go_wp2_with fail
      refine h1.mono ?_
      rintro e w1 ⟨rfl, hg1⟩
      go_wp2_with fail
      refine (h2 _ hg1).mono ?_
      rintro e w2 ⟨rfl, hg2⟩
      go_wp2_with (first | (go_at_call 18; refine (num_any _ _).mono ?_; rintro e w' ⟨rfl, hw'⟩; replace hw' := hw'.symm; subst hw') | (go_at_call 9; refine (works_any _).mono ?_; rintro e w3 ⟨rfl, hg3⟩))
      go_ret
      exact ⟨rfl, grown_trans (grown_trans hg1 hg2 (by simp)) hg3 (by simp)⟩
  · go_wp2_with fail
    refine (works_any _).mono ?_
    rintro e w1 ⟨rfl, hg1⟩
    go_wp2
    go_ret
    exact ⟨rfl, hg1⟩
end Go.Proofs.Ytkcgpjmjaedlbaa
