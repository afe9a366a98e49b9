/-
  IndexRead: the walk.
-/
import Derived.Test.YtbnoemfhcpjdjaaDoorT2
namespace Go.Proofs.YtbnoemfhcpjdjaaDoor
open Go.RowKit Go.Shelf
set_option linter.unusedVariables false

/-- What the document's Read answers. -/
theorem rread_any {w : World} {ao : Option Addr} {n cap : Nat} {bs : List UInt8} (hb : Bs w ao n cap bs) (hn : n ≤ 20000) :
    Calls Tryd.prog 22 #[.slice ao n cap] w fun e w' => ((∃ b l, e = .returned (.pointer (some ⟨b, 0, none⟩)) ∧ ¬ headBad bs ∧ scanR (hdS bs : Nat) bs (hdN bs) = some l ∧ Ry w' w.heap.size b (hdS bs : Nat) l) ∨ (e = .returned (.pointer none) ∧ (headBad bs ∨ scanR (hdS bs : Nat) bs (hdN bs) = none))) ∧ w.grownBy w' none := by
  by_cases hbad : headBad bs
  · exact (rread_head hb hn hbad).mono fun e w' q => ⟨Or.inr ⟨q.1, Or.inl hbad⟩, q.2⟩
  · refine (rread_scan hb hn hbad).mono ?_
    rintro e w' ⟨h | h, hg⟩
    · obtain ⟨b, l, h1, h2, h3⟩ := h
      exact ⟨Or.inl ⟨b, l, h1, hbad, h2, h3⟩, hg⟩
    · exact ⟨Or.inr ⟨h.1, Or.inr h.2⟩, hg⟩

set_option maxRecDepth 100000 in
set_option maxHeartbeats 4000000 in
theorem indexRead_any (w : World) (hD : Dt w) (ao : Option Addr) (n cap : Nat) (L : List UInt8) (hb : Bs w ao n cap L) :
    Calls Tryd.prog 4 #[.slice ao n cap] w fun e w' => e = .returned (.bool true) ∧ w.grownBy w' none := by
  have hlen := hb.len
  by_cases hbig : 20000 < n
  · have hd : decide ((20000 : Int) < (n : Int)) = true := by simp; omega
    go_enter Tryd.func4, Tryd.ntmps4
    go_wp2_with fail
    refine (known_any _ hD).mono ?_
    rintro e wk ⟨rfl, hgk⟩
    go_wp2
    go_ret
    exact ⟨rfl, hgk⟩
  · have hd : decide ((20000 : Int) < (n : Int)) = false := by simp; omega
    go_enter Tryd.func4, Tryd.ntmps4
    go_wp2_with (at_builtin; refine wpList_append_bs _ rfl _ _ 46 rfl w.heap.size 5 Tryd.underlying46 Tryd.info5 rfl (Ow.nil _ _ _) rfl hb (by omega) (Nat.le_refl _) ?_)
    intro am cm w1 o1 g1
    have hG1 : w.grownBy w1 none := g1
    have hone := Bs.one w1 (.int .u8 77) 77 5 rfl
    have ga := alloc_grown w1 (.cells #[.int .u8 77] 5)
    have o1' := o1.grown ga
    have hs1 := hG1.size
    have hsa := ga.size
    go_wp2_with (at_builtin; refine wpList_append_bs _ rfl _ _ 46 rfl w.heap.size 5 Tryd.underlying46 Tryd.info5 rfl o1' rfl hone (by omega) (Nat.le_trans hs1 hsa) ?_)
    intro aq cq w2 o2 g2
    have hG2 := grown_trans (grown_trans hG1 ga (by simp)) g2 (fun q hq => Or.inr (o1.from_base q hq).1)
    obtain ⟨gq, rfl, hgq1, hgq2⟩ := o2.addr (by omega)
    have hroom2 := o2.shows.room
    have htop2 := o2.shows.top
    have hm1 := o2.shows.take n (by omega)
    rw [List.take_left' hlen] at hm1
    have hmk := o2.shows.at (o := 0) (j := n) (by simp; omega)
    rw [Nat.zero_add, List.getElem_append_right (by omega)] at hmk
    have hmk2 : w2.cell? ⟨gq, n, none⟩ = some (.int .u8 77) := by rw [hmk]; simp [hlen]
    have hb2 := hb.grown hG2
    have j1 : (n : Int) ≤ (cq : Int) := by omega
    have j2 : (n : Int) + 1 ≤ (cq : Int) := by omega
    have hre := read_any w2 (hD.grown hG2) (some ⟨gq, 0, none⟩) n cq L hm1 (by omega)
    clear hmk o2 g2 o1' o1 hone ga g1 hG1
    go_wp2_with fail
    refine hre.mono ?_
    clear hre
    rintro e w3 ⟨hsay, hg3⟩
    have hG3 := grown_trans hG2 hg3 (by simp)
    have hrr := rread_any (hb.grown hG3) (by omega)
    have fin : ∀ W : World, w2.grownBy W none → (convert 46 9 (.slice (some ⟨gq, 0, none⟩) n cq)).run Tryd.prog W = .ok (.string ⟨L.toArray⟩) W ∧ (convert 46 9 (.slice ao n cap)).run Tryd.prog W = .ok (.string ⟨L.toArray⟩) W ∧ W.cell? ⟨gq, n, none⟩ = some (.int .u8 77) := fun W hW =>
      ⟨run_string_bs W 46 9 5 Tryd.underlying46 Tryd.underlying5 Tryd.underlying9 (hm1.grown hW), run_string_bs W 46 9 5 Tryd.underlying46 Tryd.underlying5 Tryd.underlying9 (hb2.grown hW), hW.cell hmk2 (by simp)⟩
    have hwn : IntKind.i64.wrap ((n : Int) + 1) = (n : Int) + 1 := by rw [IntWalk.i64_in _ (by omega)]
    rcases hsay with ⟨bx, base, l, rfl, hnb, hsc, hX, hbase⟩ | ⟨rfl, hno⟩
    · go_wp2_with fail
      refine hrr.mono ?_
      clear hrr
      rintro e w4 ⟨⟨rb, l2, rfl, _, hsc2, hR⟩ | ⟨_, hno⟩, hg4⟩
      · obtain rfl : l2 = l := Option.some.inj (hsc2.symm.trans hsc)
        obtain ⟨f1, f2, f3⟩ := fin w4 (grown_trans hg3 hg4 (by simp))
        have hG4 := grown_trans hG3 hg4 (by simp)
        have hst1 : 1 ≤ hdS L ∧ hdS L ≤ 16777216 ∧ hdN L ≤ 1666 := by
          unfold headBad at hnb
          omega
        have hte := tells_any w4 base w3.heap.size bx rb (hdS L) l2 (hX.grown hg4) hR hst1.1 hst1.2.1 (scan_good hsc) (by have := scan_some hsc; omega)
        have hD4 := hD.grown hG4
        clear hX hR hsc hsc2 hnb fin hm1 hmk2 hb2 hst1
        go_wp2_with fail
        refine hte.mono ?_
        clear hte
        rintro e w5 ⟨rfl, hg5⟩
        have hG5 := grown_trans hG4 hg5 (by simp)
        go_wp2_with fail
        refine (known_any _ (hD.grown hG5)).mono ?_
        rintro e wk ⟨rfl, hgk⟩
        have hGk := grown_trans hG5 hgk (by simp)
        go_wp2
        go_ret
        exact ⟨rfl, hGk⟩
      · rcases hno with h | h
        · exact absurd h hnb
        · rw [hsc] at h; cases h
    · go_wp2_with fail
      refine hrr.mono ?_
      clear hrr
      rintro e w4 ⟨⟨rb, l2, _, hnb, hsc2, hR⟩ | ⟨rfl, _⟩, hg4⟩
      · rcases hno with h | h
        · exact absurd h hnb
        · rw [hsc2] at h; cases h
      · obtain ⟨f1, f2, f3⟩ := fin w4 (grown_trans hg3 hg4 (by simp))
        have hG4 := grown_trans hG3 hg4 (by simp)
        clear fin hm1 hmk2 hb2 hno
        go_wp2_with fail
        refine (known_any _ (hD.grown hG4)).mono ?_
        rintro e wk ⟨rfl, hgk⟩
        have hGk := grown_trans hG4 hgk (by simp)
        go_wp2
        go_ret
        exact ⟨rfl, hGk⟩
end Go.Proofs.YtbnoemfhcpjdjaaDoor
