/-
  What is asked of the files that a crash left.
-/
import Derived.Test.YthkbakaodbceiaaN8
namespace Go.Proofs.Ythkbakaodbceiaa
open Go.RowKit Go.Maps Go.WideMaps Go.Sort Go.Shelf
set_option linter.unusedVariables false

section
variable {w w' : World} {b m base : Nat} {fs : List (Int × Int)} {st : Int} {n i : Nat} {D : DataW Unit} {X : Nat → Fm} {B : Nat → List UInt8} {nb nm n' : Nat} {D' : DataW Unit} {K : ByteArray → Option Nat}

theorem at_mk {s : List UInt8} {g : Nat} (h : at? D ⟨s.toArray⟩ (some g)) : s ∈ strKeys D := by
  have := has_keys (at_has h)
  simpa using this

/-- The bytes of what is left. -/
noncomputable def leftB (D : DataW Unit) (B : Nat → List UInt8) (K : ByteArray → Option Nat) (s : ByteArray) : List UInt8 := (B (blkOf D s)).take ((K s).getD 0)

theorem Lft.filesB (h : Lft w nb nm n' D' D X B K) (hI : Iv w' b m base fs st n D X B i) (hi : i ≤ 5000) : FilesB w D' (leftX K) (leftB D B K) := fun s hs => by
  obtain ⟨z, e⟩ := h.key hs
  obtain ⟨g, g', bo, bc, h1, h2, h3, h4, h5, h6, h7, h8⟩ := h.yes _ z e
  have hn := name_32 (hI.nm _ g h1)
  obtain ⟨a, _, _, hbn⟩ := hI.la _ g h1
  refine ⟨rfl, by simpa [ByteArray.size] using hn, ⟨z, by simp [leftX, e], by simp [leftX, e]⟩, by simp [leftX, e]; omega, g', bo, bc, h4, by simpa [leftX, e] using h5, ?_, fun a ha => by obtain ⟨q, hq⟩ := h7 a ha; exact ⟨q, 0, hq⟩, h8⟩
  unfold leftB
  rw [e, blkOf_at h1]
  simpa [leftX, e] using h6

theorem Lft.size (h : Lft w nb nm n' D' D X B K) : Maps.size D' ≤ Maps.size D := by
  have h1 := nodup_le (strKeys D') (strKeys D) (keys_ne h.ds.mp) (fun s hs => by
    obtain ⟨z, e⟩ := h.key hs
    obtain ⟨g, _, _, _, h1, _⟩ := h.yes _ z e
    exact at_mk h1)
  have h2 := strKeys_len D
  obtain ⟨es, rfl, _, _⟩ := h.ds.mp.entries (string_keyed Try.underlying9)
  have h3 : (strKeys (DataW.map es : DataW Unit)).length = es.length := by simp [strKeys]
  rw [h3] at h1
  rw [size_eq]
  omega

variable {ss1 ss2 : List (List UInt8)}

theorem told_last (hp1 : ss1.Perm (strKeys D)) {s : List UInt8} (hs : s ∈ strKeys D) : lastOf ((ss1.mergeSort (fun x y => decide (x ≤ y))).map (toldX D X)) ⟨s.toArray⟩ = toldX D X s := by
  refine lastOf_eq ⟨toldX D X s, List.mem_map.2 ⟨s, (List.mem_mergeSort).2 (hp1.mem_iff.2 hs), rfl⟩, rfl⟩ (fun t ht e => ?_)
  obtain ⟨s', _, rfl⟩ := List.mem_map.1 ht
  have : s' = s := by
    have h9 : (⟨s'.toArray⟩ : ByteArray) = ⟨s.toArray⟩ := e
    injection h9 with h9
    exact List.toArray_inj h9
  rw [this]

theorem Lft.rl (h : Lft w nb nm n' D' D X B K) (hI : Iv w' b m base fs st n D X B i) (hp1 : ss1.Perm (strKeys D)) (hp2 : ss2.Perm (strKeys D')) : ∀ t ∈ (ss2.mergeSort (fun x y => decide (x ≤ y))).map (leftX K), Rl D D' (toldX D X) (leftX K) (fun s => B (blkOf D s)) (leftB D B K) ((ss1.mergeSort (fun x y => decide (x ≤ y))).map (toldX D X)) t := by
  intro t ht
  obtain ⟨s, hs, rfl⟩ := List.mem_map.1 ht
  have hs' : s ∈ strKeys D' := hp2.mem_iff.1 ((List.mem_mergeSort).1 hs)
  obtain ⟨z, e⟩ := h.key hs'
  obtain ⟨g, g', bo, bc, h1, h2, h3, h4, h5, h6, h7, h8⟩ := h.yes _ z e
  have hsD := at_mk h1
  have hl := told_last (X := X) hp1 hsD
  have hl' : lastOf ((ss1.mergeSort (fun x y => decide (x ≤ y))).map (toldX D X)) (leftX K s).s = toldX D X s := hl
  have hla : (toldX D X s).la = (X g).la := by unfold toldX; rw [blkOf_at h1]
  have hsz : (toldX D X s).sz = (X g).bn := by unfold toldX; rw [blkOf_at h1]
  have hz : (leftX K s).sz = z := by simp [leftX, e]
  exact ⟨⟨s, hs', hsD, rfl, hl'⟩, hI.nm _ g h1, by rw [hl', hla, hz]; exact h2, by rw [hl', hsz, hz]; exact h3, rfl, rfl, rfl, by unfold leftB; simp [leftX]⟩

theorem Lft.count (h : Lft w nb nm n' D' D X B K) (hI : Iv w' b m base fs st n D X B i) (hp1 : ss1.Perm (strKeys D)) (hp2 : ss2.Perm (strKeys D')) :
    (((ss1.mergeSort (fun x y => decide (x ≤ y))).map (toldX D X)).filter (fun t => t.th && t.nl)).length = (((ss2.mergeSort (fun x y => decide (x ≤ y))).map (leftX K)).filter (sure ((ss1.mergeSort (fun x y => decide (x ≤ y))).map (toldX D X)))).length := by
  refine sure_len (names_ne (keys_ne hI.ds.mp) (fun s => rfl) hp1) (names_ne (keys_ne h.ds.mp) (fun s => rfl) hp2) (fun t ht hpt => ?_) (fun t ht hpt => ?_)
  · obtain ⟨s, hs, rfl⟩ := List.mem_map.1 ht
    have hs' : s ∈ strKeys D := hp1.mem_iff.1 ((List.mem_mergeSort).1 hs)
    obtain ⟨g, hg⟩ := keys_at hI.nz hs' (keys_has hI.ds.mp s hs')
    have hpt2 := hpt
    unfold toldX at hpt
    rw [blkOf_at hg] at hpt
    simp only [Bool.and_eq_true] at hpt
    obtain ⟨z, e⟩ := h.firm _ g hg hpt.1 hpt.2
    obtain ⟨_, g', _, _, _, _, _, h4, _⟩ := h.yes _ z e
    refine ⟨leftX K s, List.mem_map.2 ⟨s, (List.mem_mergeSort).2 (hp2.mem_iff.2 (at_mk h4)), rfl⟩, rfl, ?_⟩
    unfold sure
    have hl : lastOf ((ss1.mergeSort (fun x y => decide (x ≤ y))).map (toldX D X)) (leftX K s).s = toldX D X s := told_last hp1 hs'
    rw [hl]
    exact hpt2
  · obtain ⟨⟨s, _, hsD, hT2, hT1⟩, _⟩ := h.rl hI hp1 hp2 t ht
    refine ⟨toldX D X s, List.mem_map.2 ⟨s, (List.mem_mergeSort).2 (hp1.mem_iff.2 hsD), rfl⟩, by rw [← hT2]; rfl, ?_⟩
    unfold sure at hpt
    rw [hT1] at hpt
    exact hpt
end
end Go.Proofs.Ythkbakaodbceiaa
