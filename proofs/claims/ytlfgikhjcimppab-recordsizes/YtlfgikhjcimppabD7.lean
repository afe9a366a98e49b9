/-
  Read, of a place where a whole batch stands: the walk.
-/
import Derived.Test.YtlfgikhjcimppabD6
import Derived.Test.YtlfgikhjcimppabD4
namespace Go.Proofs.Ytlfgikhjcimppab
open Go.RowKit
set_option linter.unusedVariables false

/-- What a record says that was cut out of B at a place. -/
def Says (B : List UInt8) (i : Nat) (d : Dr) : Prop := d.1 = tAt B i ∧ d.2.1 = (B.drop (i + 12)).take (kAt B i) ∧ d.2.2 = (B.drop (i + 12 + kAt B i)).take (vAt B i)
set_option maxRecDepth 100000 in
set_option maxHeartbeats 4000000 in
theorem read_yes (w : World) (b o n cap i S : Nat) (L : List UInt8) (hb : Bs w (some ⟨b, o, none⟩) n cap L) (hi : i ≤ n) (hn : n ≤ 1048576) (hcap : cap ≤ 9223372036854775807) (hE : extR (L.drop i) = (S, 0)) (hiS : i + S ≤ n) (hW : Whole ((L.drop i).take S) S) :
    Calls Try.prog 11 #[.slice (some ⟨b, o, none⟩) n cap, .int .i64 i] w fun e w' => ∃ g base rs, e = .returned (.tuple #[.agg #[.int .i64 (bAt ((L.drop i).take S)), .slice (some ⟨g, 0, none⟩) (cAt ((L.drop i).take S)) (cAt ((L.drop i).take S))], .int .i64 S, .int .i64 0]) ∧ w.heap.size ≤ g ∧ g < base ∧ Rw w' g (some ⟨g, 0, none⟩) (cAt ((L.drop i).take S)) (cAt ((L.drop i).take S)) rs ∧ (∀ j d, (ds rs)[j]? = some d → Says ((L.drop i).take S) (posAt ((L.drop i).take S) j) d) ∧ (∀ r ∈ rs, Own w' base r) ∧ w.grownBy w' none := by
  have hroom := hb.room
  have hg0 := alloc_grown w (.cells #[.int .i64 0, .slice none 0 0] 34)
  have k0 := heap_alloc_new w (.cells #[.int .i64 0, .slice none 0 0] 34)
  have hfind := find_yes (w.alloc (.cells #[.int .i64 0, .slice none 0 0] 34)) b o n cap i S L (hb.grown hg0) hi hn hcap hE hiS hW
  have hlow := hW.low
  have htop := hW.top
  have hpos0 : 20 + 12 * cAt ((L.drop i).take S) ≤ S := by have := pos_ge ((L.drop i).take S) (cAt ((L.drop i).take S)); rw [hW.fin] at this; exact this
  have hins : ∀ j, j < cAt ((L.drop i).take S) → posAt ((L.drop i).take S) (j + 1) ≤ S := hW.ins
  have s0 : (w.alloc (.cells #[.int .i64 0, .slice none 0 0] 34)).heap.size = w.heap.size + 1 := by simp
  clear hW hE
  generalize ((L.drop i).take S) = B at *
  go_enter Try.func11, Try.ntmps11
  go_wp2_with fail
  generalize w.alloc (.cells #[.int .i64 0, .slice none 0 0] 34) = w0 at *
  refine hfind.mono ?_
  rintro e w1 ⟨base, ro, rc, cs, hba, rfl, hR, hCut, hg1⟩
  have hcl := hR.len
  have hkn : ∀ r ∈ cs, Rk w1 r ∧ r.kn ≤ 1048576 ∧ r.vn ≤ 1048576 := fun r hr => by
    obtain ⟨j, hj, hjr⟩ := List.getElem_of_mem hr
    have h9 := hCut j r (by rw [List.getElem?_eq_getElem hj, hjr])
    have hlj : posAt B (j + 1) ≤ S := hins j (by omega)
    have hpj : posAt B (j + 1) = posAt B j + 12 + kAt B (posAt B j) + vAt B (posAt B j) := rfl
    have e1 := h9.kn
    have e2 := h9.vn
    have k1 := h9.kb
    have k2 := h9.vb
    refine ⟨⟨?_, ?_, h9.key, h9.value, by omega, by omega⟩, by omega, by omega⟩
    · rw [h9.t]; unfold tAt wrap64; omega
    · rw [h9.t]; unfold tAt wrap64; omega
  have hRs := hR.shows (fun r hr => (hkn r hr).1)
  have hsay : ∀ j d, (ds cs)[j]? = some d → Says B (posAt B j) d := fun j d hd => by
    unfold ds at hd
    rw [List.getElem?_map] at hd
    cases hc : cs[j]? with
    | none => rw [hc] at hd; cases hd
    | some r =>
      rw [hc] at hd
      simp at hd
      subst hd
      have h9 := hCut j r hc
      exact ⟨h9.t, by rw [← h9.kn]; exact h9.k, by rw [← h9.kn, ← h9.vn]; exact h9.v⟩
  have ga := alloc_grown w1 (.cells #[.int .i64 (bAt B), .slice ro (cAt B) rc, .int .i64 S] 61)
  have k3 := heap_alloc_new w1 (.cells #[.int .i64 (bAt B), .slice ro (cAt B) rc, .int .i64 S] 61)
  have b0 := cell_of (i := 0) (v := .int .i64 (bAt B)) k3 rfl
  have b1 := cell_of (i := 1) (v := .slice ro (cAt B) rc) k3 rfl
  have b2 := cell_of (i := 2) (v := .int .i64 S) k3 rfl
  have hz1 := (hg1.block w.heap.size (by omega) (by simp)).trans k0
  have hs1 := hg1.size
  have hz2 := (ga.block w.heap.size (by omega) (by simp)).trans hz1
  have hRs2 := hRs.grown ga
  have hG2 := grown_trans (grown_trans hg0 hg1 (by simp)) ga (by simp)
  have hs2 : w.heap.size + 1 < (w1.alloc (.cells #[.int .i64 (bAt B), .slice ro (cAt B) rc, .int .i64 S] 61)).heap.size := by simp; omega
  have hzn : some w1.heap.size ≠ some w.heap.size := by simp; omega
  go_wp2_with fail
  clear k3 hz1 hR hCut hRs ga hfind hg1 hg0 k0
  generalize w1.alloc (.cells #[.int .i64 (bAt B), .slice ro (cAt B) rc, .int .i64 S] 61) = w2 at *
  generalize w1.heap.size = zw at *
  generalize hgz : w.heap.size = z at *
  have hcp : ∀ W, w2.grownBy W none → Calls Try.prog 25 #[.agg #[.int .i64 (bAt B), .slice ro (cAt B) rc, .int .i64 S]] W fun e w' => ∃ g base rs, e = .returned (.agg #[.int .i64 (bAt B), .slice (some ⟨g, 0, none⟩) (cAt B) (cAt B)]) ∧ W.heap.size ≤ g ∧ W.heap.size ≤ base ∧ Rw w' g (some ⟨g, 0, none⟩) (cAt B) (cAt B) rs ∧ ds rs = ds cs ∧ (∀ r ∈ rs, Own w' base r) ∧ g < base ∧ W.grownBy w' none := fun W hW => copied_any W (bAt B) S ro (cAt B) rc cs (hRs2.grown hW) (by omega) (fun r hr => (hkn r hr).2)
  go_region_held3 (fun w' => w'.cell? ⟨zw, 0, none⟩ = some (.int .i64 (bAt B)) ∧ w'.cell? ⟨zw, 1, none⟩ = some (.slice ro (cAt B) rc) ∧ w'.cell? ⟨zw, 2, none⟩ = some (.int .i64 S)) (first | exact ⟨q0, q1, q2⟩ | exact ⟨b0, b1, b2⟩ | exact ⟨(setCell_grown _ _ _ _).cell ((setCell_grown _ _ _ _).cell q0 hzn) hzn, (setCell_grown _ _ _ _).cell ((setCell_grown _ _ _ _).cell q1 hzn) hzn, (setCell_grown _ _ _ _).cell ((setCell_grown _ _ _ _).cell q2 hzn) hzn⟩)
    ((go_at_call 25; refine (hcp _ (grown_drewN w2 1 none)).mono ?_; rintro e w3 ⟨g, base3, rs, rfl, hgg, hgb, hR3, hD3, hO3, hlt3, hg3⟩; have hgd : w2.grownBy w3 none := grown_trans (grown_drewN w2 1 none) hg3 (by simp); have q0 := hgd.cell b0 (by simp); have q1 := hgd.cell b1 (by simp); have q2 := hgd.cell b2 (by simp); have kz := (hgd.block z (by omega) (by simp)).trans hz2; have d0 := cell_of (i := 0) (v := .int .i64 0) kz rfl; have d1 := cell_of (i := 1) (v := .slice none 0 0) kz rfl; have df := frozen_of kz))
  have hs2' : w2.heap.size ≤ g := hgg
  have q7 := setCell_grown w3 z 0 (.int .i64 (bAt B))
  have q8 := setCell_grown (w3.setCell ⟨z, 0, none⟩ (.int .i64 (bAt B))) z 1 (.slice (some ⟨g, 0, none⟩) (cAt B) (cAt B))
  have q9 := grown_trans q7 q8 (fun k hk => Or.inl hk)
  have y0 : ((w3.setCell ⟨z, 0, none⟩ (.int .i64 (bAt B))).setCell ⟨z, 1, none⟩ (.slice (some ⟨g, 0, none⟩) (cAt B) (cAt B))).cell? ⟨z, 0, none⟩ = some (.int .i64 (bAt B)) := by rw [World.cell?_setCell_other _ _ _ _ (by simp)]; exact World.cell?_setCell_same _ _ _ d0
  have y1 : ((w3.setCell ⟨z, 0, none⟩ (.int .i64 (bAt B))).setCell ⟨z, 1, none⟩ (.slice (some ⟨g, 0, none⟩) (cAt B) (cAt B))).cell? ⟨z, 1, none⟩ = some (.slice (some ⟨g, 0, none⟩) (cAt B) (cAt B)) := World.cell?_setCell_same (u := .slice none 0 0) _ _ _ (by rw [World.cell?_setCell_other _ _ _ _ (by simp)]; exact d1)
  have hR6 := hR3.kept q9 (by right; simp [blk]; omega)
  have hO6 : ∀ r ∈ rs, Own ((w3.setCell ⟨z, 0, none⟩ (.int .i64 (bAt B))).setCell ⟨z, 1, none⟩ (.slice (some ⟨g, 0, none⟩) (cAt B) (cAt B))) base3 r := fun r hr => (hO3 r hr).kept q9 (fun k hk => by simp; omega)
  have hG6 := grown_trans (grown_trans hG2 hgd (by simp)) q9 (fun k hk => Or.inr (by cases hk; omega))
  clear q7 q8 q9 hR3 hO3 d0 d1 df q0 q1 q2 b0 b1 b2 kz hgd hg3
  generalize ((w3.setCell ⟨z, 0, none⟩ (.int .i64 (bAt B))).setCell ⟨z, 1, none⟩ (.slice (some ⟨g, 0, none⟩) (cAt B) (cAt B))) = w6 at *
  go_wp2_with fail
  refine bodyPost_ret (v := .tuple #[.agg #[.int .i64 (bAt B), .slice (some ⟨g, 0, none⟩) (cAt B) (cAt B)], .int .i64 S, .int .i64 0]) (by simp [results, Try.results11, go_sem, y0, y1]) rfl ?_
  exact ⟨g, base3, rs, rfl, by omega, hlt3, hR6, by rw [hD3]; exact hsay, hO6, hG6⟩
end Go.Proofs.Ytlfgikhjcimppab
