/-
  Arguments that are slices of byte slices, opened; and how the second form's bound bounds lengths.
-/
import Derived.Test.YtocicepnlepfeaaRows
import Derived.Test.YtocicepnlepfeaaArgs
import Derived.Test.YtocicepnlepfeaaLists
import Derived.Deep.Slices
namespace Go.Proofs.Ytocicepnlepfeaa
open Go.ChangeShapes Go.WideShapes Go.ChangeAt Go.RowKit
set_option linter.unusedVariables false

section
variable {H : Type} {enc : TypeId × Value → H} {P : Program} {W : World} {base : Nat}

theorem bulk_pos (d : DataW H) : 0 < Rows.uptoBulk d := by
  cases d with
  | lit x => cases x <;> simp [Rows.uptoBulk]
  | _ => simp [Rows.uptoBulk]
theorem bulk_count : ∀ (l : List (DataW H)), l.length ≤ Rows.uptoBulkAll l
  | [] => by simp [Rows.uptoBulkAll]
  | d :: r => by
    have h1 := bulk_pos d
    have h2 := bulk_count r
    simp only [Rows.uptoBulkAll, List.length_cons]
    omega
theorem bulk_of_mem {d : DataW H} : ∀ {l : List (DataW H)}, d ∈ l → Rows.uptoBulk d ≤ Rows.uptoBulkAll l
  | [], h => by cases h
  | x :: r, h => by
    simp only [Rows.uptoBulkAll]
    rcases List.mem_cons.1 h with rfl | h
    · omega
    · have := bulk_of_mem h
      omega

theorem open_bytes_bulk {t e : TypeId} {ao : Option Addr} {n cap fuel : Nat} {d : DataW H} {p : List MemPlace} (ht : P.underlying t = some (.slice e)) (he : P.underlying e = some (.int .u8)) (hc : P.cellsOf e = 1)
    (h : DataW.trod enc P W base (fun _ => true) true fuel t (Value.slice ao n cap).cells.toList = some (d, p)) :
    ∃ l, Bs W ao n cap l ∧ n ≤ Rows.uptoBulk d ∧ ((d = .nil ∧ cap = 0) ∨ ∃ el sp, d = .slice el sp ∧ el.length + sp.length = cap) := by
  obtain ⟨l, hb, hd⟩ := open_bytes ht he hc h
  refine ⟨l, hb, ?_, hd⟩
  have := hb.room
  rcases hd with ⟨rfl, h0⟩ | ⟨el, sp, rfl, h0⟩
  · have := bulk_pos (DataW.nil (H := H)); omega
  · have h1 := bulk_count el
    have h2 := bulk_count sp
    simp only [Rows.uptoBulk]
    omega

/-- A slice of byte slices that came in. -/
theorem open_lists {t e e2 : TypeId} {ao : Option Addr} {n cap fuel : Nat} {d : DataW H} {p : List MemPlace} (ht : P.underlying t = some (.slice e)) (he : P.underlying e = some (.slice e2)) (he2 : P.underlying e2 = some (.int .u8)) (hc : P.cellsOf e = 1) (hc2 : P.cellsOf e2 = 1)
    (h : DataW.trod enc P W base (fun _ => true) true fuel t (Value.slice ao n cap).cells.toList = some (d, p)) :
    ∃ vs ls, Ls W ao n cap vs ls ∧ n ≤ Rows.uptoBulk d ∧ (∀ s, s ∈ ls → s.length ≤ Rows.uptoBulk d) := by
  rcases Deep.open_slice1 ht hc h with ⟨hcs, hx⟩ | ⟨a, len, cp, m, nn, V, D, Pl, hcs, _, hl, hm, hmm, hx, hcell⟩
  · simp [Value.cells] at hcs
    obtain ⟨rfl, rfl, rfl⟩ := hcs
    exact ⟨[], [], ⟨rfl, rfl, Nat.le_refl _, Nat.zero_le _, fun _ => rfl, (fun a h => by cases h), (fun j v s hv => by simp at hv)⟩, Nat.zero_le _, (fun s hs => by cases hs)⟩
  · simp [Value.cells] at hcs
    obtain ⟨rfl, rfl, rfl⟩ := hcs
    have hm' : m = cap := by simpa using hmm
    subst hm'
    have hd : d = .slice ((List.range n).map D) ((List.range (m - n)).map fun j => D (n + j)) := congrArg Prod.fst hx
    have item : ∀ i, i < n → ∃ (v : Option Addr × Nat × Nat) (l : List UInt8), V i = .slice v.1 v.2.1 v.2.2 ∧ Bs W v.1 v.2.1 v.2.2 l ∧ l.length ≤ Rows.uptoBulk d := by
      intro i hi
      obtain ⟨_, h2⟩ := hcell i (by omega)
      have hin : Rows.uptoBulk (D i) ≤ Rows.uptoBulk d := by
        have h3 : Rows.uptoBulk (D i) ≤ Rows.uptoBulkAll ((List.range n).map D) := bulk_of_mem (List.mem_map.2 ⟨i, by simp [hi], rfl⟩)
        rw [hd]
        simp only [Rows.uptoBulk]
        omega
      rcases open_ints he he2 hc2 h2 with ⟨hcs, _⟩ | ⟨x, l, c, zs, hcs, _⟩
      · simp only [List.cons.injEq, and_true] at hcs
        rw [hcs] at h2
        obtain ⟨l, hb, hb2, _⟩ := open_bytes_bulk (ao := none) (n := 0) (cap := 0) he he2 hc2 h2
        exact ⟨(none, 0, 0), l, hcs, hb, by rw [hb.len]; omega⟩
      · simp only [List.cons.injEq, and_true] at hcs
        rw [hcs] at h2
        obtain ⟨l', hb, hb2, _⟩ := open_bytes_bulk (ao := some x) (n := l) (cap := c) he he2 hc2 h2
        exact ⟨(some x, l, c), l', hcs, hb, by rw [hb.len]; omega⟩
    refine ⟨(List.range n).map (fun i => if hi : i < n then (item i hi).choose else (none, 0, 0)), (List.range n).map (fun i => if hi : i < n then (item i hi).choose_spec.choose else []), ⟨by simp, by simp, hl, hm, by simp, ?_, ?_⟩, ?_, ?_⟩
    · intro a' ha j v hv
      obtain rfl := Option.some.inj ha
      have hj : j < n := by
        have := (List.getElem?_eq_some_iff.1 hv).1
        simpa using this
      rw [List.getElem?_map, List.getElem?_range hj] at hv
      simp only [Option.map_some, Option.some.injEq, hj, dif_pos] at hv
      rw [(hcell j (by omega)).1, (item j hj).choose_spec.choose_spec.1, hv]
    · intro j v s hv hs
      have hj : j < n := by
        have := (List.getElem?_eq_some_iff.1 hv).1
        simpa using this
      rw [List.getElem?_map, List.getElem?_range hj] at hv hs
      simp only [Option.map_some, Option.some.injEq, hj, dif_pos] at hv hs
      rw [← hv, ← hs]
      exact (item j hj).choose_spec.choose_spec.2.1
    · have h1 := bulk_count ((List.range n).map D)
      rw [hd]
      simp only [Rows.uptoBulk]
      simp at h1
      omega
    · intro s hs
      obtain ⟨i, hi, rfl⟩ := List.mem_map.1 hs
      have hi' : i < n := by simpa using hi
      simp only [hi', dif_pos]
      exact (item i hi').choose_spec.choose_spec.2.2
end
end Go.Proofs.Ytocicepnlepfeaa
