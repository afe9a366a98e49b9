/-
  Feed of a disk without fates; New.
-/
import Derived.Test.YthkbakaodbceiaaH6
namespace Go.Proofs.Ythkbakaodbceiaa
open Go.RowKit
set_option linter.unusedVariables false

/-- May these be fates? -/
def fw (l : List (Int × Int)) : Bool := l.all fun x => decide (0 ≤ x.1) && decide (x.1 ≤ 2)

section
variable {w w' : World} {l : List (Int × Int)} {n c b m : Nat} {o : Option Addr} {st : Int}

set_option maxRecDepth 100000 in
set_option maxHeartbeats 2000000 in
theorem feed_new (h : Hd w b m none 0 0 st) (hf : Ft w o n c l) (hn : n ≤ 4294967296) (hob : ∀ a, o = some a → a.block ≠ b) :
    Calls Try.prog 31 #[.pointer (some ⟨b, 0, none⟩), .slice o n c] w fun e w' => (fw l = false ∧ e = .returned (.int .i64 2) ∧ w.grownBy w' none) ∨ (fw l = true ∧ e = .returned (.int .i64 0) ∧ ∃ o' c', Hd w' b m o' n c' st ∧ Ft w' o' n c' l ∧ (∀ a, o' = some a → w.heap.size ≤ a.block ∧ Ty w' a.block 28) ∧ Chg w w' (fun k => k = b)) := by
  have hlen := hf.len
  have hroom := hf.room
  have htop := hf.top
  unfold maxLen at htop
  have h0 := h.c0
  obtain ⟨inf, hi, hz, hz1, hz2⟩ := info28_parts
  go_enter Try.func31, Try.ntmps31
  go_wp2_with fail
  refine (made_yes _ _ _ h0).mono ?_
  rintro e w1 ⟨rfl, rfl⟩
  go_wp2_with fail
  go_loopw [6, 12] (fun _ i' wr => ∃ i : Nat, i' = .int .i64 i ∧ i ≤ n ∧ w1.grownBy wr none ∧ Hid (fw (l.take i) = true)) (fun _ i _ => n - (intOf i).toNat)
  case atStart => exact ⟨0, rfl, Nat.zero_le _, grown_refl _ _, (show fw (l.take 0) = true by simp [fw])⟩
  case round =>
    obtain ⟨i, rfl, hin, hgw, hfi⟩ := hrel
    by_cases hlt : i < n
    · have dl : decide ((i : Int) < (n : Int)) = true := by simp; omega
      have dl2 : decide (i < n) = true := by simpa using hlt
      cases o with
      | none => exfalso; have := hf.nil rfl; omega
      | some a =>
        obtain ⟨ob, oi, rfl⟩ := hf.pl a rfl
        have hil : i < l.length := by omega
        obtain ⟨k0, k1⟩ := hf.k ob oi rfl i l[i] (by simp [hil])
        have k0 := hgw.cell k0 (by simp)
        have k1 := hgw.cell k1 (by simp)
        have htk : l.take (i + 1) = l.take i ++ [l[i]] := by rw [List.take_add_one, List.getElem?_eq_getElem hil]; rfl
        have hmem : l[i] ∈ l := List.getElem_mem hil
        have HT : Hid (fw (l.take (i + 1)) = (decide (0 ≤ l[i].1) && decide (l[i].1 ≤ 2))) := (by show fw (l.take (i + 1)) = _; rw [htk]; have := hfi.out; unfold fw at *; rw [List.all_append, this]; simp)
        have HB : Hid ((decide (0 ≤ l[i].1) && decide (l[i].1 ≤ 2)) = false → fw l = false) := (fun e => by
          unfold fw
          cases hq : l.all (fun x => decide (0 ≤ x.1) && decide (x.1 ≤ 2)) with
          | false => rfl
          | true => rw [List.all_eq_true] at hq; rw [hq _ hmem] at e; cases e)
        clear htk hmem
        generalize l[i] = x at *
        obtain ⟨xk, xp⟩ := x
        have hga := alloc_grown wr (.cells #[.int .i64 xk, .int .i64 xp] 28)
        have hgw2 := grown_trans hgw hga (by simp)
        have wz : IntKind.i64.wrap ((i : Int) + 1) = ((i + 1 : Nat) : Int) := by rw [IntWalk.i64_in _ (by omega)]; push_cast; rfl
        simp only at k0 k1
        by_cases x0 : xk < 0
        · have e1 : decide (xk < 0) = true := by simpa using x0
          go_wp2
          go_ret
          exact .inl ⟨HB.out (by simp; omega), rfl, hgw2⟩
        · have e1 : decide (xk < 0) = false := by simpa using x0
          by_cases x2 : 2 < xk
          · have e2 : decide (2 < xk) = true := by simpa using x2
            go_wp2
            go_ret
            exact .inl ⟨HB.out (by simp; omega), rfl, hgw2⟩
          · have e2 : decide (2 < xk) = false := by simpa using x2
            go_wp2
            go_roundw
            case rel => exact ⟨i + 1, by first | rfl | simp, by omega, hgw2, (HT.out.trans (by simp; omega))⟩
            case measure => simp [intOf]; omega
    · obtain rfl : i = n := by omega
      have dl : decide ((i : Int) < (i : Int)) = false := by simp
      have hfl : fw l = true := by have := hfi.out; rwa [List.take_of_length_le (by omega)] at this
      have hr0 := World.ownsRow_nil wr w1.heap.size 28 2
      have hHd := h.grown hgw
      have h1 := hHd.c1
      have f1 := hHd.fz 1
      have hsz := hgw.size
      have hls : (fcs l).length = i * 2 := by rw [fcs_len, hlen]
      have hfr := hf.chg (Chg.of_grown hgw (fun _ => False)) (fun _ _ e => e)
      have hCw := Chg.of_grown hgw (fun k => k = b)
      clear hfi hgw
      cases o with
      | none =>
        obtain rfl := hf.nil rfl
        obtain rfl : i = 0 := by omega
        go_wp2_with (at_builtin; (refine wpList_append_own_none rfl _ _ 22 rfl w1.heap.size 28 inf 2 Try.underlying22 hi _ 0 _ rfl hr0 rfl ?_))
        have hH2 := hHd.fates none 0 0
        have hc2 := setCell_chg wr b 1 (.slice none 0 0)
        clear h hHd hr0
        go_wp2
        go_ret
        exact .inr ⟨hfl, rfl, none, 0, hH2, ⟨hlen, hroom, htop, (fun a e => by cases e), (fun _ => rfl), (fun b i e => by cases e)⟩, (fun a e => by cases e), hCw.trans hc2⟩
      | some a =>
        obtain ⟨ob, oi, rfl⟩ := hf.pl a rfl
        have hne := hob _ rfl
        go_wp2_with (at_builtin; (refine wpList_append_own _ rfl _ _ 22 rfl w1.heap.size 28 inf (.agg #[.int .i64 0, .int .i64 0]) 2 16 Try.underlying22 hi hz hz1 hz2 rfl (by decide) _ 0 [] rfl hr0 ⟨ob, oi, none⟩ i c (fcs l) rfl hls hfr.news (fcs_one l) (by unfold maxLen; omega) (by omega) hsz ?_))
        intro v' w2 hown hg2 _
        obtain ⟨o', c', rfl, hft, hab⟩ := Ft.of_row hlen (by simpa using hown)
        have hg2' : wr.grownBy w2 none := hg2
        have hH2 := (hHd.grown hg2').fates o' i c'
        have k1 := (hHd.grown hg2').c1
        have g1 := (hHd.grown hg2').fz 1
        have hc2 := setCell_chg w2 b 1 (.slice o' i c')
        have hbl := h.lt
        have hne2 : ∀ a, o' = some a → a.block ≠ b := fun a e => by have := (hab a e).1; omega
        have hft2 := hft.chg hc2 (fun a e => hne2 a e)
        have hab2 : ∀ a, o' = some a → w1.heap.size ≤ a.block ∧ Ty (w2.setCell ⟨b, 1, none⟩ (.slice o' i c')) a.block 28 := fun a e => ⟨(hab a e).1, (hab a e).2.set _ _ _⟩
        have hCC := (hCw.trans (Chg.of_grown hg2' _)).trans hc2
        clear h hHd hr0 hown hg2 hg2' hft hab hc2 hCw
        go_wp2
        go_ret
        exact .inr ⟨hfl, rfl, o', c', hH2, hft2, hab2, hCC⟩
end
end Go.Proofs.Ythkbakaodbceiaa
