/-
  What a crash and All ask of a disk's files, out of what calls keep.
-/
import Derived.Test.YthkbakaodbceiaaIx
import Derived.Test.YthkbakaodbceiaaG4
namespace Go.Proofs.Ythkbakaodbceiaa
open Go.RowKit Go.Maps Go.WideMaps Go.Sort Go.Shelf
set_option linter.unusedVariables false

/-- A name's block, 0 if there is none. -/
noncomputable def blkOf (D : DataW Unit) (s : ByteArray) : Nat := by
  classical
  exact if h : ∃ g, at? D s (some g) then h.choose else 0
theorem blkOf_at {D : DataW Unit} {s : ByteArray} {g : Nat} (h : at? D s (some g)) : blkOf D s = g := by
  have hx : ∃ g, at? D s (some g) := ⟨g, h⟩
  unfold blkOf
  rw [dif_pos hx]
  simpa using at_one hx.choose_spec h

/-- The files as they are told, by name. -/
noncomputable def toldX (D : DataW Unit) (X : Nat → Fm) (s : List UInt8) : Td := ⟨⟨s.toArray⟩, (X (blkOf D ⟨s.toArray⟩)).bn, (X (blkOf D ⟨s.toArray⟩)).la, (X (blkOf D ⟨s.toArray⟩)).th, (X (blkOf D ⟨s.toArray⟩)).nl⟩

theorem keys_at {D : DataW Unit} (hz : Nz D) {s : List UInt8} (h : s ∈ strKeys D) (hk : Maps.has D (.string s) = true) : ∃ g, at? D ⟨s.toArray⟩ (some g) := by
  obtain ⟨g, hg⟩ := hz (.string s) (D.atKey (.string s) .nil) (fun zd => atKey_indep hk zd .nil)
  exact ⟨g, by unfold at?; simpa using hg⟩

theorem keys_has {w : World} {m n : Nat} {D : DataW Unit} (h : Mp w m n D) : ∀ s ∈ strKeys D, Maps.has D (.string s) = true := by
  intro s hs
  obtain ⟨es, rfl, hap, hkeys⟩ := h.entries (string_keyed Try.underlying9)
  obtain ⟨es', hD', hko⟩ := h.keysOf
  obtain rfl : es = es' := by simpa using hD'
  obtain ⟨p, hp, hps⟩ := List.mem_map.1 hs
  obtain ⟨v, hv⟩ := hko p hp
  obtain ⟨x, _, hx, _⟩ := Maps.keyOf_str Try.underlying9 hv
  have : p.1 = .string s := by rw [hx] at hps ⊢; simpa [strOf] using hps
  exact mem_has hkeys (List.mem_map.2 ⟨p, hp, this⟩)

theorem Iv.filesB {w : World} {b m base : Nat} {fs : List (Int × Int)} {st : Int} {n i : Nat} {D : DataW Unit} {X : Nat → Fm} {B : Nat → List UInt8} (h : Iv w b m base fs st n D X B i) (hi : i ≤ 5000):
    FilesB w D (toldX D X) (fun s => B (blkOf D s)) := by
  intro s hs
  obtain ⟨g, hg⟩ := keys_at h.nz hs (keys_has h.ds.mp s hs)
  have e : blkOf D ⟨s.toArray⟩ = g := blkOf_at hg
  obtain ⟨a, h1, h2, h3⟩ := h.la _ g hg
  have how := h.ow _ g hg
  have hn := name_32 (h.nm _ g hg)
  refine ⟨rfl, by simpa [ByteArray.size] using hn, ⟨a, by simpa [toldX, e] using h1, by simpa [toldX, e] using h2⟩, by simp only [toldX, e]; omega, g, (X g).bo, (X g).bc, hg, by simpa [toldX, e] using h.fl _ g hg, ?_, ?_, how.ty⟩
  · simpa [toldX, e] using how.shows
  · intro a ha
    rcases how.row.2 with ⟨h4, _⟩ | ⟨q, c, cs, h4, _⟩
    · rw [ha] at h4; cases h4
    · rw [ha] at h4; cases h4; exact ⟨q, 0, rfl⟩
end Go.Proofs.Ythkbakaodbceiaa
