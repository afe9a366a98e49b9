/-
  The document's Sorted: the walk.
-/
import Derived.Test.YtmjcjcpifahpaaaDoorU2
import Derived.Test.YtmjcjcpifahpaaaDoorTab
namespace Go.Proofs.YtmjcjcpifahpaaaDoor
open Go.RowKit Go.Shelf Go.Sort Go.Lib
set_option linter.unusedVariables false

theorem run_store_float (P : Program) (w : World) (a : Addr) (m : Mode) (k : FloatKind) (n : Nat) : (store a (.float k n) m).run P w = stored P w a (.float k n) m := run_store P w a _ m rfl
attribute [local go_sem] run_store_float

theorem fs_one (w : World) (x : Fl) (e : TypeId) : Fs (w.alloc (.cells #[.float .f64 x.b] e)) (some ⟨w.heap.size, 0, none⟩) 1 1 [x] := Fs.one w _ x e rfl

theorem ord_pos_iff (x y : Fl) : (0 < ordF x.b y.b) ↔ pl y < pl x := by
  unfold ordF cmpN pl
  split
  · constructor <;> intro h <;> omega
  · split
    · simp [*]
    · constructor <;> intro h <;> omega

set_option maxRecDepth 100000 in
set_option maxHeartbeats 4000000 in
theorem sorted_any (w : World) (ao : Option Addr) (n cap : Nat) (l : List Fl) (hb : Fs w ao n cap l) (hn65 : n ≤ 65536) :
    Calls Tryd.prog 24 #[.slice ao n cap] w fun e w' => ∃ ao' cap' l', e = .returned (.slice ao' n cap') ∧ Fo w' w.heap.size 22 ao' n cap' l' ∧ l'.Perm l ∧ Srt l' ∧ w.grownBy w' none := by
  have hlen := hb.len
  go_enter Tryd.func24, Tryd.ntmps24
  go_wp2_with fail
  go_loopw [3, 4, 5] (fun o' i' _ wr => ∃ (i : Nat) (ao' : Option Addr) (cap' : Nat) (s : List Fl), i ≤ n ∧ i' = .int .i64 i ∧ o' = .slice ao' i cap' ∧ Fo wr w.heap.size 22 ao' i cap' s ∧ Hid (s.Perm (l.take i)) ∧ Hid (Srt s) ∧ w.grownBy wr none) (fun _ i' _ _ => n - (intOf i').toNat)
  case atStart => exact ⟨0, none, 0, [], Nat.zero_le _, rfl, rfl, Fo.nil _ _ _, (by simp : ([] : List Fl).Perm (l.take 0)), srt_nil, grown_refl _ _⟩
  case round =>
    obtain ⟨i, so, sc, s, hi, rfl, rfl, hso, HP, HS, hg⟩ := hrel
    have hsl := hso.len
    by_cases hlt : i < n
    · obtain ⟨b, o, rfl, hbl⟩ := hb.addr (by omega)
      have hil : i < l.length := by omega
      have hci : ∀ W, w.grownBy W none → W.cell? ⟨b, o + i, none⟩ = some (.float .f64 (l[i]).b) := fun W hW => (hb.grown hW).at hil
      have HT : Hid (∀ k, (mid s k l[i]).Perm (l.take (i + 1))) := fun k => take_more hil HP.out k
      have ci := hci _ hg
      have hxl := (l[i]).lt
      clear HP
      generalize l[i] = x at *
      have hone := fs_one wr x 22
      have hwb := hg.size
      have hd : decide ((i : Int) < (n : Int)) = true := by simp; omega
      obtain ⟨N, hN⟩ : ∃ N, Hid (N = i + 1) := ⟨_, rfl⟩
      go_wp2_with (at_builtin; refine wpList_append_fs _ rfl _ _ 42 rfl w.heap.size 22 Tryd.underlying42 Tryd.info22 rfl (hso.grown (alloc_grown _ _)) rfl hone (by omega) (by simp; omega) ?_)
      intro ao2 cap2 w2 ho2 hg2
      have hG2 : w.grownBy w2 none := grown_trans (grown_trans hg (alloc_grown _ _) (by simp)) hg2 (fun k hk => Or.inr (hso.from_base k hk).1)
      clear ci hone hg2 hso hg
      rw [← hN.out] at ho2 ⊢
      obtain ⟨g, rfl, hgb, hgl⟩ := ho2.addr (by rw [hN.out]; omega)
      have hNi : N = i + 1 := hN.out
      go_wp2_with fail
      go_loopw [5] (fun a' wi => ∃ (k : Nat) (c : Fl), k ≤ i ∧ a' = .int .i64 k ∧ Fo wi w.heap.size 22 (some ⟨g, 0, none⟩) N cap2 (mid s k c) ∧ Hid (Up s k x) ∧ w.grownBy wi none) (fun a' _ => (intOf a').toNat)
      case atStart => exact ⟨i, x, Nat.le_refl _, rfl, by rw [← hsl, mid_end]; exact ho2, (by rw [← hsl]; exact up_end s x), hG2⟩
      case round =>
        obtain ⟨k, c, hk, rfl, hok, HU, hgi⟩ := hrel
        have hml := mid_len c (show k ≤ s.length by omega)
        have hkm : k < (mid s k c).length := by omega
        have hks : k ≤ s.length := by omega
        have hkN : k < N := by omega
        have hst : ∀ W, Fo W w.heap.size 22 (some ⟨g, 0, none⟩) N cap2 (mid s k c) → (∃ u : Fl, W.cell? ⟨g, k, none⟩ = some (.float .f64 u.b)) ∧ (∀ i, W.frozen? ⟨g, i, none⟩ = false) ∧ ∀ d : Fl, Fo (W.setCell ⟨g, k, none⟩ (.float .f64 d.b)) w.heap.size 22 (some ⟨g, 0, none⟩) N cap2 (mid s k d) := fun W h => by
          have ck := h.shows.at hkm
          rw [Nat.zero_add] at ck
          refine ⟨⟨_, ck⟩, h.there, fun d => ?_⟩
          have := h.set k d
          rwa [mid_set _ _ hks] at this
        by_cases hk0 : k = 0
        · subst hk0
          have h0 : decide (0 < 0) = false := by simp
          have HM : Hid (Srt (mid s 0 x)) := mid_srt HS.out (by omega) (fun h => absurd h (by omega)) HU.out
          have HQ : Hid ((mid s 0 x).Perm (l.take (i + 1))) := HT.out 0
          go_wp2_with fail
          go_big_quiet (fail)
          have hgq := grown_trans hgi (grown_drewN wr nq none) (by simp)
          have hoq := hok.grown (grown_drewN wr nq none)
          clear hok hgi
          generalize wr.drewN nq = wq at *
          obtain ⟨⟨u, ck⟩, hfz, hset⟩ := hst wq hoq
          have ci := hci _ hgq
          have HN := hset x
          have hgs : ∀ v, w.grownBy (wq.setCell ⟨g, 0, none⟩ v) none := fun v => below_of_new hgq (setCell_grown _ _ _ _) hgb
          clear hst hset hoq h0
          go_wp2
          go_roundw
          case rel => exact ⟨i + 1, _, _, mid s 0 x, by omega, by go_num, by rw [hNi], by rw [← hNi]; exact HN, HQ, HM, hgs _⟩
          case measure => simp [intOf]; omega
        · obtain ⟨m, rfl⟩ : ∃ m, k = m + 1 := ⟨k - 1, by omega⟩
          have hms : m < s.length := by omega
          have h0 : decide (0 < m + 1) = true := by simp
          have hm1 : ((m + 1 : Nat) : Int) - 1 = (m : Int) := by omega
          have hmN : m < N := by omega
          have hcm : ∀ W, Fo W w.heap.size 22 (some ⟨g, 0, none⟩) N cap2 (mid s (m + 1) c) → W.cell? ⟨g, m, none⟩ = some (.float .f64 (s[m]).b) := fun W h => by
            have hmm : m < (mid s (m + 1) c).length := by omega
            have cm := h.shows.at hmm
            rw [Nat.zero_add] at cm
            have he := mid_prev c hms
            rw [List.getElem?_eq_getElem hmm, List.getElem?_eq_getElem hms] at he
            rw [Option.some.inj he] at cm
            exact cm
          have hord := fun W => rorder_any W _ _ (s[m]).lt hxl
          have hpos := ord_pos_iff s[m] x
          have HD : Hid (pl x < pl s[m] → Up s m x) := fun h => up_down hms HU.out h
          have HE : Hid (¬ pl x < pl s[m] → Srt (mid s (m + 1) x)) := fun h => mid_srt HS.out (by omega) (fun h0 => by simpa using Nat.le_of_not_lt h) HU.out
          have HF : Hid (mid s (m + 1) s[m] = mid s m s[m]) := mid_down hms
          have HQ : Hid ((mid s (m + 1) x).Perm (l.take (i + 1))) := HT.out (m + 1)
          have cm := hcm _ hok
          have ci := hci _ hgi
          generalize ordF (s[m]).b x.b = O at *
          by_cases hO : 0 < O
          · have HU2 : Hid (Up s m x) := HD.out (hpos.1 hO)
            clear HD HE hpos
            generalize s[m] = y at *
            have hdO : decide (0 < O) = true := by simpa using hO
            go_wp2_with fail
            go_big_quiet ((go_at_call 13; exact Calls.quiet_of_same (hord _)))
            have hgq := grown_trans hgi (grown_drewN wr nq none) (by simp)
            have hoq := hok.grown (grown_drewN wr nq none)
            clear hok hgi cm ci
            generalize wr.drewN nq = wq at *
            obtain ⟨⟨u, ck⟩, hfz, hset⟩ := hst wq hoq
            have cm := hcm _ hoq
            have HN := hset y
            rw [HF.out] at HN
            have hgs : ∀ v, w.grownBy (wq.setCell ⟨g, m + 1, none⟩ v) none := fun v => below_of_new hgq (setCell_grown _ _ _ _) hgb
            clear hst hset hoq h0 hcm
            go_wp2
            go_roundw
            case rel => exact ⟨m, y, by omega, by go_num, HN, HU2, hgs _⟩
            case measure => simp [intOf]
          · have HM : Hid (Srt (mid s (m + 1) x)) := HE.out (fun h => hO (hpos.2 h))
            clear HD HE hpos
            generalize s[m] = y at *
            have hdO : decide (0 < O) = false := by simpa using hO
            go_wp2_with fail
            go_big_quiet ((go_at_call 13; exact Calls.quiet_of_same (hord _)))
            have hgq := grown_trans hgi (grown_drewN wr nq none) (by simp)
            have hoq := hok.grown (grown_drewN wr nq none)
            clear hok hgi cm ci
            generalize wr.drewN nq = wq at *
            obtain ⟨⟨u, ck⟩, hfz, hset⟩ := hst wq hoq
            have ci := hci _ hgq
            have HN := hset x
            have hgs : ∀ v, w.grownBy (wq.setCell ⟨g, m + 1, none⟩ v) none := fun v => below_of_new hgq (setCell_grown _ _ _ _) hgb
            clear hst hset hoq h0 hcm
            go_wp2
            go_roundw
            case rel => exact ⟨i + 1, _, _, mid s (m + 1) x, by omega, by go_num, rfl, by rw [← hNi]; exact HN, HQ, HM, hgs _⟩
            case measure => simp [intOf]; omega
    · obtain rfl : i = n := by omega
      have hd : decide ((i : Int) < (i : Int)) = false := by simp
      go_wp2
      go_ret
      exact ⟨_, _, s, rfl, hso, by have := HP.out; rwa [List.take_of_length_le (by omega)] at this, HS.out, hg⟩
end Go.Proofs.YtmjcjcpifahpaaaDoor
