/-
  Arguments that are slices of lists of truths, opened, with how much they hold.
-/
import Derived.Test.YtfhbnkfpbjloeaaArgs
namespace Go.Proofs.Ytfhbnkfpbjloeaa
open Go.ChangeShapes Go.WideShapes Go.ChangeAt Go.RowKit
set_option linter.unusedVariables false
section
variable {H : Type} {enc : TypeId × Value → H} {P : Program} {W : World} {base : Nat}

theorem bulk_pos (d : DataW H) : 0 < Rows.uptoBulk d := by
  cases d with
  | lit x => cases x <;> simp [Rows.uptoBulk]
  | _ => simp [Rows.uptoBulk]
theorem bulk_count : ∀ (l : List (DataW H)), l.length ≤ Rows.uptoBulkAll l
  | [] => by simp [Rows.uptoBulkAll]
  | d :: r => by
    have h1 := bulk_pos d
    have h2 := bulk_count r
    simp only [Rows.uptoBulkAll, List.length_cons]
    omega
theorem bulk_of_mem {d : DataW H} : ∀ {l : List (DataW H)}, d ∈ l → Rows.uptoBulk d ≤ Rows.uptoBulkAll l
  | [], h => by cases h
  | x :: r, h => by
    simp only [Rows.uptoBulkAll]
    rcases List.mem_cons.1 h with rfl | h
    · omega
    · have := bulk_of_mem h
      omega

theorem slice_bulk {t e : TypeId} {ao : Option Addr} {n cap fuel : Nat} {d : DataW H} {p : List MemPlace} (ht : P.underlying t = some (.slice e)) (hc : P.cellsOf e = 1)
    (h : DataW.trod enc P W base (fun _ => true) true fuel t (Value.slice ao n cap).cells.toList = some (d, p)) : n ≤ Rows.uptoBulk d := by
  rcases Deep.open_slice1 ht hc h with ⟨hcs, hx⟩ | ⟨a, len, cp, m, nn, V, D, Pl, hcs, _, hl, hm, hmm, hx, hcell⟩
  · simp [Value.cells] at hcs
    obtain ⟨rfl, rfl, rfl⟩ := hcs
    exact Nat.zero_le _
  · simp [Value.cells] at hcs
    obtain ⟨rfl, rfl, rfl⟩ := hcs
    have hd : d = .slice ((List.range n).map D) _ := congrArg Prod.fst hx
    have h1 := bulk_count ((List.range n).map D)
    rw [hd]
    simp only [Rows.uptoBulk]
    simp at h1
    omega

theorem open_boolss_bulk {t e e2 : TypeId} {ao : Option Addr} {n cap fuel : Nat} {d : DataW H} {p : List MemPlace} (ht : P.underlying t = some (.slice e)) (he : P.underlying e = some (.slice e2)) (he2 : P.underlying e2 = some .bool) (hc : P.cellsOf e = 1) (hc2 : P.cellsOf e2 = 1)
    (h : DataW.trod enc P W base (fun _ => true) true fuel t (Value.slice ao n cap).cells.toList = some (d, p)) : ∃ L, Bss W ao n L ∧ ∀ c ∈ L, c.length ≤ Rows.uptoBulk d := by
  rcases Deep.open_slice1 ht hc h with ⟨hcs, hx⟩ | ⟨a, len, cp, m, nn, V, D, Pl, hcs, _, hl, hm, hmm, hx, hcell⟩
  · simp [Value.cells] at hcs
    obtain ⟨rfl, rfl, rfl⟩ := hcs
    exact ⟨[], ⟨rfl, by omega⟩, (fun c hc => by cases hc)⟩
  · simp [Value.cells] at hcs
    obtain ⟨rfl, rfl, rfl⟩ := hcs
    have hm' : m = cap := by simpa using hmm
    subst hm'
    have hd : d = .slice ((List.range n).map D) ((List.range (m - n)).map fun j => D (n + j)) := congrArg Prod.fst hx
    have item : ∀ i, i < n → ∃ l : List Bool, (∃ xo xn xc, V i = .slice xo xn xc ∧ Vs W xo xn xc (l.map bo)) ∧ l.length ≤ Rows.uptoBulk d := by
      intro i hi
      have hin : Rows.uptoBulk (D i) ≤ Rows.uptoBulk d := by
        have h3 : Rows.uptoBulk (D i) ≤ Rows.uptoBulkAll ((List.range n).map D) := bulk_of_mem (List.mem_map.2 ⟨i, by simp [hi], rfl⟩)
        rw [hd]
        simp only [Rows.uptoBulk]
        omega
      obtain ⟨_, h2⟩ := hcell i (by omega)
      obtain ⟨xo, xn, xc, e3⟩ := slice_shape he h2
      rw [e3] at h2
      obtain ⟨l, hb⟩ := open_bools (ao := xo) (n := xn) (cap := xc) he he2 hc2 h2
      have hlb := slice_bulk (ao := xo) (n := xn) (cap := xc) he hc2 h2
      exact ⟨l, ⟨xo, xn, xc, e3, hb⟩, by have := hb.len; simp at this; omega⟩
    obtain ⟨L, hL, hq⟩ := list_of n item
    refine ⟨L, ⟨hL, fun hn => ?_⟩, fun c hc => by obtain ⟨i, hi, e⟩ := List.getElem_of_mem hc; exact (hq i c (by rw [List.getElem?_eq_getElem hi, e])).2⟩
    obtain ⟨sb, sof, rfl, hsb⟩ : ∃ b o, a = ⟨b, o, none⟩ ∧ b < W.heap.size := by
      have h0 := (hcell 0 (by omega)).1
      exact addr_of (by simpa [Addr.add] using h0)
    refine ⟨sb, sof, rfl, hsb, fun i l hl => ?_⟩
    have hi : i < n := by rw [← hL]; exact (List.getElem?_eq_some_iff.1 hl).1
    obtain ⟨⟨xo, xn, xc, e3, hb⟩, -⟩ := hq i l hl
    have hcj := (hcell i (by omega)).1
    rw [Addr.add_lit] at hcj
    exact ⟨xo, xn, xc, by rw [hcj, e3], hb, vs_below hb⟩

end
end Go.Proofs.Ytfhbnkfpbjloeaa
