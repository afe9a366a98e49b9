/-
  The document's fair choice: Next.
-/
import Derived.Test.YtfhbnkfpbjloeaaA4
import Derived.Test.YtfhbnkfpbjloeaaB1
namespace Go.Proofs.Ytfhbnkfpbjloeaa
open Go.RowKit
set_option linter.unusedVariables false

/-- The document's fair choice. -/
structure Rf (w : World) (b g n : Nat) (k : Int) (f : Nat → Nat) : Prop where
  cell : w.heap[b]? = some (.cells #[.int .i64 k, .slice (some ⟨g, 0, none⟩) n n] 38)
  row : Ro w g 3 (fl n f)
  top : n ≤ 5000
theorem Rf.chg {w w' : World} {b g n : Nat} {k : Int} {f : Nat → Nat} {S : Nat → Prop} (h : Rf w b g n k f) (hc : Chg w w' S) (h1 : ¬ S b) (h2 : ¬ S g) : Rf w' b g n k f :=
  ⟨by rw [hc.block b (lt_of_heap h.cell) h1]; exact h.cell, h.row.chg hc h2, h.top⟩
theorem Rf.grown {w w' : World} {b g n : Nat} {k : Int} {f : Nat → Nat} (h : Rf w b g n k f) (hg : w.grownBy w' none) : Rf w' b g n k f := h.chg (Chg.of_grown hg (fun _ => False)) (fun e => e) (fun e => e)
theorem Rf.c0 {w : World} {b g n : Nat} {k : Int} {f : Nat → Nat} (h : Rf w b g n k f) : w.cell? ⟨b, 0, none⟩ = some (.int .i64 k) := cell_of h.cell rfl
theorem Rf.c1 {w : World} {b g n : Nat} {k : Int} {f : Nat → Nat} (h : Rf w b g n k f) : w.cell? ⟨b, 1, none⟩ = some (.slice (some ⟨g, 0, none⟩) n n) := cell_of h.cell rfl
theorem Rf.ne {w : World} {b g n : Nat} {k : Int} {f : Nat → Nat} (h : Rf w b g n k f) : b ≠ g := by
  rintro rfl
  have h1 := h.cell
  have h2 : w.heap[b]? = _ := h.row
  rw [h1] at h2
  simp at h2
/-- What stands in the document's loop over the tasks. -/
def Ro2 (f : Nat → Nat) (l : List Bool) (K : Int) (k : Nat) (t0 t G : Int) : Prop :=
  (∃ m : Nat, Ov f l K k m true ∧ t = m ∧ G = (f m : Int)) ∨ (Ov f l K k 0 false ∧ t = t0 ∧ G = -1)

set_option maxRecDepth 100000 in
set_option maxHeartbeats 8000000 in
theorem rfnext_any {w : World} {b g n : Nat} {K : Int} {f : Nat → Nat} (h : Rf w b g n K f) (hf : ∀ i, i < n → f i ≤ 1000000) (so : Option Addr) (m sc : Nat) (l : List Bool) (hP : Vs w so m sc (l.map bo)) (hpos : 0 < n) (hne0 : ∀ a, so = some a → a.block ≠ g ∨ m = 0) (p : Int) :
    Calls Try.prog 17 #[.pointer (some ⟨b, 0, none⟩), .slice so m sc, .int .i64 p] w fun e w' => ∃ t er f', e = .returned (.tuple #[.int .i64 t, .int .i64 er]) ∧ FairE f n K l p t er f' ∧ Rf w' b g n K f' ∧ Chg w w' (fun k => k = g) := by
  have hlen : l.length = m := by simpa using hP.len
  have r0 := h.c0
  have r1 := h.c1
  by_cases h0 : p < 0
  · have hM : Hid (FairE f n K l p 0 2 f) := Or.inl ⟨Or.inl h0, rfl, rfl, rfl⟩
    have d1 : decide (p < 0) = true := by simpa using h0
    go_enter Try.func17, Try.ntmps17
    go_wp2
    go_ret2
    exact ⟨0, 2, f, rfl, hM, h, Chg.refl _ _⟩
  have d1 : decide (p < 0) = false := by simpa using h0
  by_cases hmn : m = n
  · subst hmn
    have hne : ∀ a, so = some a → a.block ≠ g := fun a ha => (hne0 a ha).resolve_right (by omega)
    clear hne0
    have hnx := rnext_any so m sc l hP p
    have hn := h.top
    have hbg := h.ne
    go_enter Try.func17, Try.ntmps17
    go_wp2_with fail
    refine hnx.mono ?_
    rintro e w1 ⟨t0, er, rfl, hN, hx⟩
    replace hx := hx.symm
    subst hx
    clear hnx
    have hNR : NextR l p.toNat t0 er := by unfold NextE at hN; rw [if_neg (by omega)] at hN; exact hN
    have her : Hid (∀ k, l[k]? = some true → er = 0) := fun k hk => by
      have := cnt_pos hk
      rcases hNR with ⟨a, -⟩ | ⟨-, a, -⟩
      · omega
      · exact a
    have hNR2 : Hid (NextR l p.toNat t0 er) := hNR
    have h02 : Hid (0 ≤ p) := by show _ ≤ _; omega
    have hh : Hid (Rf w b g m K f) := h
    clear hN hNR h0 h
    go_wp2_with fail
    clear r0 r1
    go_loopw [8, 10, 11] (fun v8 v10 v11 wr => ∃ (k : Nat) (t G : Int), v11 = .int .i64 k ∧ v8 = .int .i64 t ∧ v10 = .int .i64 G ∧ k ≤ m ∧ Hid (Ro2 f l K k t0 t G) ∧ w.grownBy wr none) (fun _ _ v11 _ => m - (intOf v11).toNat)
    case atStart => exact ⟨0, t0, -1, rfl, rfl, rfl, Nat.zero_le _, Or.inr ⟨Or.inl ⟨rfl, rfl, fun j hj => absurd hj (by omega)⟩, rfl, rfl⟩, grown_refl _ _⟩
    case round =>
      obtain ⟨k, t, G, rfl, rfl, rfl, hk, hO, hg⟩ := hrel
      by_cases hlt : k < m
      · have d2 : decide ((k : Int) < (m : Int)) = true := by simp; omega
        obtain ⟨g2, o, rfl, -⟩ := hP.addr (by omega)
        obtain ⟨b', hb⟩ : ∃ b, l[k]? = some b := ⟨_, List.getElem?_eq_getElem (by omega)⟩
        have c0 := (hP.grown hg).at (bo_at hb)
        have i1 : (0 : Int) ≤ (k : Int) := by omega
        have i2 : (k : Int) < (m : Int) := by omega
        have hhw := hh.out.grown hg
        have r0 := hhw.c0
        have r1 := hhw.c1
        have c1 : wr.cell? ⟨g, k, none⟩ = some (.int .i64 (f k : Int)) := by
          rw [hhw.row.cell, fl_at _ hlt]
        have hgd : ∀ nq, w.grownBy (wr.drewN nq) none := fun nq => grown_trans hg (grown_drewN wr nq none) (by simp)
        have hHgd : Hid (∀ nq, w.grownBy (wr.drewN nq) none) := hgd
        clear hhw hgd
        cases b'
        · have hO2 : Hid (Ro2 f l K (k + 1) t0 t G) := by
            rcases hO.out with ⟨m2, a1, a2, a3⟩ | ⟨a1, a2, a3⟩
            · exact Or.inl ⟨m2, a1.skip (fun e => by rw [hb] at e; cases e), a2, a3⟩
            · exact Or.inr ⟨a1.skip (fun e => by rw [hb] at e; cases e), a2, a3⟩
          clear hO hb hP hf hg
          go_wp2_with fail
          go_quiet (fail)
          have hg2 := hHgd.out nq
          go_wp2
          go_roundw
          case rel => exact ⟨k + 1, t, G, by go_num, rfl, rfl, by omega, hO2, hg2⟩
          case measure => simp [intOf]; omega
        · by_cases hK : K ≤ (f k : Int)
          · have d3 : decide (K ≤ (f k : Int)) = true := by simpa using hK
            by_cases hG : G < (f k : Int)
            · have d4 : decide (G < (f k : Int)) = true := by simpa using hG
              have hO2 : Hid (Ro2 f l K (k + 1) t0 k (f k : Int)) := by
                rcases hO.out with ⟨m2, a1, a2, a3⟩ | ⟨a1, a2, a3⟩
                · exact Or.inl ⟨k, a1.more hb (by omega), rfl, rfl⟩
                · exact Or.inl ⟨k, a1.first hb hK, rfl, rfl⟩
              clear hO hb hP hf hg hK hG
              generalize (f k : Int) = x at *
              go_wp2_with fail
              go_quiet (fail)
              have hg2 := hHgd.out nq
              have r1' := (grown_drewN wr nq none).cell r1 (by simp)
              have c1' := (grown_drewN wr nq none).cell c1 (by simp)
              go_wp2
              go_roundw
              case rel => exact ⟨k + 1, k, x, by go_num, rfl, rfl, by omega, hO2, hg2⟩
              case measure => simp [intOf]; omega
            · have d4 : decide (G < (f k : Int)) = false := by simpa using hG
              have hO2 : Hid (Ro2 f l K (k + 1) t0 t G) := by
                rcases hO.out with ⟨m2, a1, a2, a3⟩ | ⟨a1, a2, a3⟩
                · exact Or.inl ⟨m2, a1.stay (by omega), a2, a3⟩
                · exact absurd hG (by omega)
              clear hO hb hP hf hg hK hG
              generalize (f k : Int) = x at *
              go_wp2_with fail
              go_quiet (fail)
              have hg2 := hHgd.out nq
              go_wp2
              go_roundw
              case rel => exact ⟨k + 1, t, G, by go_num, rfl, rfl, by omega, hO2, hg2⟩
              case measure => simp [intOf]; omega
          · have d3 : decide (K ≤ (f k : Int)) = false := by simpa using hK
            have hO2 : Hid (Ro2 f l K (k + 1) t0 t G) := by
              rcases hO.out with ⟨m2, a1, a2, a3⟩ | ⟨a1, a2, a3⟩
              · exact Or.inl ⟨m2, a1.skip (fun _ => by omega), a2, a3⟩
              · exact Or.inr ⟨a1.skip (fun _ => by omega), a2, a3⟩
            clear hO hb hP hf hg hK
            generalize (f k : Int) = x at *
            go_wp2_with fail
            go_quiet (fail)
            have hg2 := hHgd.out nq
            go_wp2
            go_roundw
            case rel => exact ⟨k + 1, t, G, by go_num, rfl, rfl, by omega, hO2, hg2⟩
            case measure => simp [intOf]; omega
      · obtain rfl : k = m := by omega
        have d2 : decide ((k : Int) < (k : Int)) = false := by simp
        have hWho : Hid (∀ i, l[i]? = some true → ∃ j : Nat, t = j ∧ Who f k K l p.toNat j) := fun i hi => by
          rcases hO.out with ⟨m2, a1, a2, a3⟩ | ⟨a1, a2, a3⟩
          · exact ⟨m2, a2, Or.inl a1⟩
          · rcases hNR2.out with ⟨c, -⟩ | ⟨-, -, j, e, hj⟩
            · have := cnt_pos hi; omega
            · exact ⟨j, by rw [a2, e], Or.inr ⟨a1, hj⟩⟩
        have hT0 : Hid (cnt l = 0 → er = 250) := fun e => by
          rcases hNR2.out with ⟨-, -, c⟩ | ⟨c, -⟩
          · exact c
          · omega
        clear hO
        go_wp2_with fail
        go_loopw [12] (fun v12 wr2 => ∃ j : Nat, v12 = .int .i64 j ∧ j ≤ k ∧ Ro wr2 g 3 (fl k (mix j (pv f l t) f)) ∧ Chg w wr2 (fun q => q = g)) (fun v12 _ => k - (intOf v12).toNat)
        case atStart => exact ⟨0, rfl, Nat.zero_le _, by rw [show fl k (mix 0 (pv f l t) f) = fl k f from fl_ext fun i _ => by simp [mix]]; exact (hh.out.grown hg).row, Chg.of_grown hg _⟩
        case round =>
          obtain ⟨j, rfl, hj, hr, hc⟩ := hrel
          have hcell : wr.heap[b]? = some (.cells #[.int .i64 K, .slice (some ⟨g, 0, none⟩) k k] 38) := by rw [hc.block b (lt_of_heap hh.out.cell) hbg]; exact hh.out.cell
          by_cases hlt : j < k
          · have d3 : decide ((j : Int) < (k : Int)) = true := by simp; omega
            obtain ⟨g2, o, rfl, -⟩ := hP.addr (by omega)
            obtain ⟨b', hb⟩ : ∃ b, l[j]? = some b := ⟨_, List.getElem?_eq_getElem (by omega)⟩
            have c0 := (hP.chg hc (fun a ha e => hne a ha e)).at (bo_at hb)
            have i1 : (0 : Int) ≤ (j : Int) := by omega
            have i2 : (j : Int) < (k : Int) := by omega
            have r1 : wr.cell? ⟨b, 1, none⟩ = some (.slice (some ⟨g, 0, none⟩) k k) := cell_of hcell rfl
            have c1 : wr.cell? ⟨g, j, none⟩ = some (.int .i64 (f j : Int)) := by
              rw [hr.cell, fl_at _ hlt]; simp [mix]
            have fz := hr.frozen j
            have hfk := hf j hlt
            have hst : ∀ v : Int, v = (pv f l t j : Int) → Hid (Ro (wr.setCell ⟨g, j, none⟩ (.int .i64 v)) g 3 (fl k (mix (j + 1) (pv f l t) f)) ∧ Chg w (wr.setCell ⟨g, j, none⟩ (.int .i64 v)) (fun q => q = g)) := fun v hv => by
              obtain ⟨s1, s2⟩ := hr.set j (.int .i64 v)
              rw [mix_step k j _ _ hv] at s1
              exact ⟨s1, hc.trans s2⟩
            cases b'
            · have hS := hst 0 (by unfold pv; rw [if_neg]; rfl; simp [hb])
              clear hb hr hc hst hf hcell
              go_wp2
              go_roundw
              case rel => exact ⟨j + 1, by go_num, by omega, hS.out.1, hS.out.2⟩
              case measure => simp [intOf]; omega
            · have he0 := her.out j hb
              subst he0
              by_cases hkt : (j : Int) = t
              · have hS := hst 0 (by unfold pv; rw [if_neg]; rfl; simp [hkt])
                have d4 : ((j : Int) == t) = true := by simp [hkt]
                clear hb hr hc hst hf hcell
                subst hkt
                go_wp2
                go_roundw
                case rel => exact ⟨j + 1, by go_num, by omega, hS.out.1, hS.out.2⟩
                case measure => simp [intOf]; omega
              · have hS := hst ((f j : Int) + 1) (by unfold pv; rw [if_pos ⟨hb, hkt⟩]; simp)
                have d4 : ((j : Int) == t) = false := by simp [hkt]
                generalize f j = x at *
                clear hb hr hc hst hf hcell
                go_wp2
                go_roundw
                case rel => exact ⟨j + 1, by go_num, by omega, hS.out.1, hS.out.2⟩
                case measure => simp [intOf]; omega
          · obtain rfl : j = k := by omega
            rw [mix_all] at hr
            have hRf : Rf wr b g j K (pv f l t) := ⟨hcell, hr, hn⟩
            by_cases hc0 : cnt l = 0
            · have he := hT0.out hc0
              subst he
              rw [pv_none hc0] at hRf
              have hM : Hid (FairE f j K l p 0 250 (fun _ => 0)) := Or.inr (Or.inl ⟨h02, hlen, hc0, rfl, rfl, rfl⟩)
              clear hc0
              go_wp2
              go_ret2
              exact ⟨0, 250, rfl, _, hM, hRf, hc⟩
            · obtain ⟨i, hi⟩ : ∃ i : Nat, l[i]? = some true := by
                have : true ∈ l := List.count_pos_iff.1 (by unfold cnt at hc0; omega)
                obtain ⟨i, hi, e⟩ := List.getElem_of_mem this
                exact ⟨i, by rw [List.getElem?_eq_getElem hi, e]⟩
              obtain ⟨q, e, hw⟩ := hWho.out i hi
              have he := her.out i hi
              subst he
              have hM : Hid (FairE f j K l p t 0 (pv f l t)) := Or.inr (Or.inr ⟨h02, hlen, by omega, rfl, q, e, hw, by rw [e]⟩)
              clear hc0 hi e hw
              go_wp2
              go_ret2
              exact ⟨t, 0, rfl, _, hM, hRf, hc⟩
  · have hM : Hid (FairE f n K l p 0 2 f) := Or.inl ⟨Or.inr (by omega), rfl, rfl, rfl⟩
    have d2 : ((m : Int) == (n : Int)) = false := by simp; omega
    have d3 : (m == n) = false := by simpa using hmn
    clear hmn
    go_enter Try.func17, Try.ntmps17
    go_wp2
    go_ret2
    exact ⟨0, 2, rfl, f, hM, h, Chg.refl _ _⟩
end Go.Proofs.Ytfhbnkfpbjloeaa
