/-
  Files all of which last: what syncing has done so far, what a crash keeps, and two disks that have the same files.
-/
import Derived.Test.YthkbakaodbceiaaJ3
import Derived.Test.YthkbakaodbceiaaK4
import Derived.Test.YthkbakaodbceiaaK1
namespace Go.Proofs.Ythkbakaodbceiaa
open Go.RowKit Go.Maps Go.WideMaps Go.Sort Go.Shelf
set_option linter.unusedVariables false

/-- These names' files were synced. -/
structure Sy (D : DataW Unit) (X X' : Nat → Fm) (done : List ByteArray) : Prop where
  th : ∀ g, (X' g).th = (X g).th
  la : ∀ s ∈ done, ∀ g, at? D s (some g) → (X' g).la = ((X' g).bn : Int)

theorem Sy.start (D : DataW Unit) (X : Nat → Fm) : Sy D X X [] := ⟨fun g => rfl, fun s h => by cases h⟩
theorem Sy.next {D : DataW Unit} {X X' : Nat → Fm} {done : List ByteArray} (h : Sy D X X' done) {s : ByteArray} {g : Nat} (hg : at? D s (some g)) : Sy D X (lastX X' g) (done ++ [s]) := by
  refine ⟨fun k => ?_, fun t ht k hk => ?_⟩
  · unfold lastX
    by_cases e : k = g
    · subst e; simpa using h.th k
    · rw [if_neg e]; exact h.th k
  · unfold lastX
    by_cases e : k = g
    · subst e; simp
    · rw [if_neg e]
      rcases List.mem_append.1 ht with ht | ht
      · exact h.la t ht k hk
      · obtain rfl : t = s := by simpa using ht
        exact absurd (by simpa using at_one hk hg) e

theorem str_mk (s : ByteArray) : (⟨s.data.toList.toArray⟩ : ByteArray) = s := by cases s; simp

theorem has_keys {D : DataW Unit} {s : ByteArray} (h : Maps.has D (.string s.data.toList) = true) : s.data.toList ∈ strKeys D := by
  cases D with
  | map es =>
    have := has_mem h
    obtain ⟨p, hp, e⟩ := List.mem_map.1 this
    exact List.mem_map.2 ⟨p, hp, by rw [e]; rfl⟩
  | _ => simp [Maps.has] at h

theorem told_of {D : DataW Unit} {X : Nat → Fm} {s : ByteArray} {g : Nat} (hg : at? D s (some g)) : toldX D X s.data.toList = ⟨s, (X g).bn, (X g).la, (X g).th, (X g).nl⟩ := by
  unfold toldX
  rw [str_mk, blkOf_at hg]

theorem nm_all {D : DataW Unit} {X : Nat → Fm} {ss : List (List UInt8)} (hp : ss.Perm (strKeys D)) {s : ByteArray} {g : Nat} (hg : at? D s (some g)) (ht : (X g).th = true) : s ∈ nmsL ((ss.mergeSort (fun x y => decide (x ≤ y))).map (toldX D X)) := by
  unfold nmsL
  refine List.mem_map.2 ⟨toldX D X s.data.toList, List.mem_filter.2 ⟨List.mem_map.2 ⟨s.data.toList, ?_, rfl⟩, ?_⟩, ?_⟩
  · exact (List.mem_mergeSort).2 (hp.mem_iff.2 (has_keys (at_has hg)))
  · rw [told_of hg]; exact ht
  · rw [told_of hg]

theorem nm_at {w : World} {m n : Nat} {D : DataW Unit} (hm : Mp w m n D) (hz : Nz D) {X : Nat → Fm} {ss : List (List UInt8)} (hp : ss.Perm (strKeys D)) {s : ByteArray} (h : s ∈ nmsL ((ss.mergeSort (fun x y => decide (x ≤ y))).map (toldX D X))) : ∃ g, at? D s (some g) ∧ (X g).th = true := by
  unfold nmsL at h
  obtain ⟨t, ht, rfl⟩ := List.mem_map.1 h
  obtain ⟨h1, h2⟩ := List.mem_filter.1 ht
  obtain ⟨x, hx, rfl⟩ := List.mem_map.1 h1
  have hx' : x ∈ strKeys D := hp.mem_iff.1 ((List.mem_mergeSort).1 hx)
  obtain ⟨g, hg⟩ := keys_at hz hx' (keys_has hm x hx')
  exact ⟨g, hg, by simpa [toldX, blkOf_at hg] using h2⟩

/-- What a crash keeps of files all of which last. -/
theorem firm_kept {w : World} {m n : Nat} {D : DataW Unit} (hm : Mp w m n D) (hz : Nz D) {X : Nat → Fm} (hf : ∀ s g, at? D s (some g) → (X g).th = true ∧ (X g).nl = true ∧ (X g).la = ((X g).bn : Int)) {ss : List (List UInt8)} (hp : ss.Perm (strKeys D)) (l : List Int) (pn : Nat) :
    (∀ s g, at? D s (some g) → (crashF l pn ((ss.mergeSort (fun x y => decide (x ≤ y))).map (toldX D X))).1 s = some (X g).bn) ∧ ∀ s, (∀ g, ¬ at? D s (some g)) → (crashF l pn ((ss.mergeSort (fun x y => decide (x ≤ y))).map (toldX D X))).1 s = none := by
  have hmem : ∀ t ∈ (ss.mergeSort (fun x y => decide (x ≤ y))).map (toldX D X), ∃ g, at? D t.s (some g) ∧ t = ⟨t.s, (X g).bn, (X g).la, (X g).th, (X g).nl⟩ := fun t ht => by
    obtain ⟨x, hx, rfl⟩ := List.mem_map.1 ht
    have hx' : x ∈ strKeys D := hp.mem_iff.1 ((List.mem_mergeSort).1 hx)
    obtain ⟨g, hg⟩ := keys_at hz hx' (keys_has hm x hx')
    exact ⟨g, hg, by simp [toldX, blkOf_at hg]⟩
  have hfirm : ∀ t ∈ (ss.mergeSort (fun x y => decide (x ≤ y))).map (toldX D X), Firm t := fun t ht => by
    obtain ⟨g, hg, e⟩ := hmem t ht
    obtain ⟨h1, h2, h3⟩ := hf _ g hg
    rw [e]
    exact ⟨h1, h2, h3⟩
  have hc := (crash_firm l pn _ hfirm (fun _ => none) 0).2
  have hin : ∀ s g, at? D s (some g) → toldX D X s.data.toList ∈ (ss.mergeSort (fun x y => decide (x ≤ y))).map (toldX D X) := fun s g hg => List.mem_map.2 ⟨_, (List.mem_mergeSort).2 (hp.mem_iff.2 (has_keys (at_has hg))), rfl⟩
  generalize (ss.mergeSort (fun x y => decide (x ≤ y))).map (toldX D X) = files at *
  refine ⟨fun s g hg => ?_, fun s hs => ?_⟩
  · unfold crashF
    rw [hc s]
    cases hfd : files.reverse.find? (fun t => decide (t.s = s)) with
    | none =>
      have := List.find?_eq_none.1 hfd _ (List.mem_reverse.2 (hin s g hg))
      rw [told_of hg] at this
      simp at this
    | some u =>
      have h1 : u.s = s := by simpa using List.find?_some hfd
      obtain ⟨g', hg', e⟩ := hmem u (List.mem_reverse.1 (List.mem_of_find?_eq_some hfd))
      rw [h1] at hg'
      obtain rfl : g' = g := by simpa using at_one hg' hg
      simp only
      rw [e]
  · unfold crashF
    rw [hc s]
    cases hfd : files.reverse.find? (fun t => decide (t.s = s)) with
    | none => rfl
    | some u =>
      have h1 : u.s = s := by simpa using List.find?_some hfd
      obtain ⟨g', hg', e⟩ := hmem u (List.mem_reverse.1 (List.mem_of_find?_eq_some hfd))
      rw [h1] at hg'
      exact absurd hg' (hs g')

/-- The disk has just these files, and all of them last. -/
structure Fz (w : World) (D : DataW Unit) (F : ByteArray → Option (List UInt8)) : Prop where
  nz : Nz D
  no : ∀ s, F s = none → ∀ g, ¬ at? D s (some g)
  yes : ∀ s t, F s = some t → ∃ g bo bn bc, at? D s (some g) ∧ Fl w g bo bn bc bn true true ∧ Bs w bo bn bc t

theorem has_at {w : World} {m n : Nat} {D : DataW Unit} (hm : Mp w m n D) (hz : Nz D) {k : Lit} (h : Maps.has D k = true) : ∃ s g, k = .string s.data.toList ∧ at? D s (some g) := by
  obtain ⟨es, rfl, hap, hkeys⟩ := hm.entries (string_keyed Try.underlying9)
  obtain ⟨es', hD', hko⟩ := hm.keysOf
  obtain rfl : es = es' := by simpa using hD'
  obtain ⟨p, hp, rfl⟩ := List.mem_map.1 (has_mem h)
  obtain ⟨v, hv⟩ := hko p hp
  obtain ⟨x, _, hx, _⟩ := Maps.keyOf_str Try.underlying9 hv
  have hx' : x ∈ strKeys (.map es : DataW Unit) := List.mem_map.2 ⟨p, hp, by rw [hx]; rfl⟩
  obtain ⟨g, hg⟩ := keys_at hz hx' (hx ▸ h)
  exact ⟨⟨x.toArray⟩, g, by simpa using hx, hg⟩

section
variable {w w' : World} {b m b' m' : Nat} {fs fs' : List (Int × Int)} {st st' : Int} {n n' : Nat} {D D' : DataW Unit} {F : ByteArray → Option (List UInt8)}

theorem Fz.grown (h : Fz w D F) (hg : w.grownBy w' none) : Fz w' D F :=
  ⟨h.nz, h.no, fun s t e => by
    obtain ⟨g, bo, bn, bc, h1, h2, h3⟩ := h.yes s t e
    exact ⟨g, bo, bn, bc, h1, h2.chg (Chg.of_grown hg (fun _ => False)) (fun e => e), h3.grown hg⟩⟩

theorem same_fz (h : Ds w b m fs st n D) (h' : Ds w b' m' fs' st' n' D') (hF : Fz w D F) (hF' : Fz w D' F) :
    Calls Try.prog 36 #[.pointer (some ⟨b, 0, none⟩), .pointer (some ⟨b', 0, none⟩)] w fun e w' => e = .returned (.bool true) ∧ w.grownBy w' none := by
  have heq : ∀ s g1 g2, at? D s (some g1) → at? D' s (some g2) → ∀ W, w.grownBy W none → Calls Try.prog 60 #[.pointer (some ⟨g1, 0, none⟩), .pointer (some ⟨g2, 0, none⟩)] W fun e w' => e = .returned (.bool true) ∧ W.grownBy w' none := by
    intro s g1 g2 h1 h2 W hW
    cases hs : F s with
    | none => exact absurd h1 (hF.no s hs g1)
    | some t =>
      obtain ⟨g, bo, bn, bc, a1, a2, a3⟩ := hF.yes s t hs
      obtain rfl : g = g1 := by simpa using at_one a1 h1
      obtain ⟨g', bo', bn', bc', c1, c2, c3⟩ := hF'.yes s t hs
      obtain rfl : g' = g2 := by simpa using at_one c1 h2
      have hc := Chg.of_grown hW (fun _ => False)
      have e1 : bn = bn' := by rw [← a3.len, ← c3.len]
      subst e1
      have := fsame_any W g g' _ _ _ _ _ _ _ _ _ _ _ _ _ _ (a2.chg hc (fun e => e)) (c2.chg hc (fun e => e)) (a3.grown hW) (c3.grown hW)
      simpa [sameM] using this
  have key : ∀ (D1 D2 : DataW Unit), (∀ s, F s = none → ∀ g, ¬ at? D1 s (some g)) → (∀ s t, F s = some t → ∃ g, at? D2 s (some g)) → ∀ (w m n), Mp w m n D1 → Nz D1 → ∀ k, Maps.has D1 k = true → Maps.has D2 k = true := by
    intro D1 D2 hno hyes w m n hm hz k hk
    obtain ⟨s, g, rfl, hg⟩ := has_at hm hz hk
    cases hs : F s with
    | none => exact absurd hg (hno s hs g)
    | some t => obtain ⟨g', hg'⟩ := hyes s t hs; exact at_has hg'
  have k1 := key D D' hF.no (fun s t e => by obtain ⟨g, _, _, _, h1, _⟩ := hF'.yes s t e; exact ⟨g, h1⟩) _ _ _ h.mp hF.nz
  have k2 := key D' D hF'.no (fun s t e => by obtain ⟨g, _, _, _, h1, _⟩ := hF.yes s t e; exact ⟨g, h1⟩) _ _ _ h'.mp hF'.nz
  obtain ⟨es, rfl, hap, hk⟩ := h.mp.entries (string_keyed Try.underlying9)
  obtain ⟨es', rfl, hap', hk'⟩ := h'.mp.entries (string_keyed Try.underlying9)
  have hh : ∀ k, Maps.has (.map es' : DataW Unit) k = Maps.has (.map es : DataW Unit) k := fun k => Bool.eq_iff_iff.2 ⟨k2 k, k1 k⟩
  have := same_ds h h' hF.nz hF'.nz (fun _ _ => true) heq
  rwa [equal_true hap hk hF.nz hF'.nz (size_of_has hap hap' hk hk' hh) hh] at this
end

section
variable {w w' : World} {b m base : Nat} {fs : List (Int × Int)} {st : Int} {n i : Nat} {D : DataW Unit} {X : Nat → Fm} {B : Nat → List UInt8}

/-- The files of a disk on which calls were made. -/
noncomputable def filesF (D : DataW Unit) (B : Nat → List UInt8) (s : ByteArray) : Option (List UInt8) := by
  classical
  exact if ∃ g, at? D s (some g) then some (B (blkOf D s)) else none
theorem filesF_at {s : ByteArray} {g : Nat} (h : at? D s (some g)) : filesF D B s = some (B g) := by
  unfold filesF
  rw [if_pos ⟨g, h⟩, blkOf_at h]
theorem filesF_no {s : ByteArray} (h : filesF D B s = none) : ∀ g, ¬ at? D s (some g) := by
  intro g hg
  rw [filesF_at hg] at h
  cases h
theorem filesF_some {s : ByteArray} {t : List UInt8} (h : filesF D B s = some t) : ∃ g, at? D s (some g) ∧ t = B g := by
  classical
  unfold filesF at h
  split at h
  · rename_i hx
    obtain ⟨g, hg⟩ := hx
    rw [blkOf_at hg] at h
    exact ⟨g, hg, by simpa using h.symm⟩
  · cases h

theorem Iv.fz (h : Iv w b m base fs st n D X B i) (hf : ∀ s g, at? D s (some g) → (X g).th = true ∧ (X g).nl = true ∧ (X g).la = ((X g).bn : Int)) : Fz w D (filesF D B) :=
  ⟨h.nz, fun s e => filesF_no e, fun s t e => by
    obtain ⟨g, hg, rfl⟩ := filesF_some e
    obtain ⟨h1, h2, h3⟩ := hf s g hg
    have hfl := h.fl s g hg
    unfold FlX at hfl
    rw [h1, h2, h3] at hfl
    exact ⟨g, _, _, _, hg, hfl, (h.ow s g hg).shows⟩⟩

theorem Kept.fz {base' : Nat} {D' : DataW Unit} (h : Iv w b m base fs st n D X B i) (hf : ∀ s g, at? D s (some g) → (X g).th = true ∧ (X g).nl = true ∧ (X g).la = ((X g).bn : Int)) {ss : List (List UInt8)} (hp : ss.Perm (strKeys D)) (l : List Int) (pn : Nat)
    (hk : Kept w' base' D' (crashF l pn ((ss.mergeSort (fun x y => decide (x ≤ y))).map (toldX D X))).1 (fun s => B (blkOf D s))) : Fz w' D' (filesF D B) := by
  obtain ⟨k1, k2⟩ := firm_kept h.ds.mp h.nz hf hp l pn
  refine ⟨hk.1, fun s e g hg => ?_, fun s t e => ?_⟩
  · have := at_one hg ((hk.2 s).1 (k2 s (filesF_no e)))
    cases this
  · obtain ⟨g, hg, rfl⟩ := filesF_some e
    obtain ⟨g', bo, bc, _, h2, h3, h4⟩ := (hk.2 s).2 _ (k1 s g hg)
    have hB : (B (blkOf D s)).take (X g).bn = B g := by
      rw [blkOf_at hg]
      exact List.take_of_length_le (by rw [(h.ow s g hg).shows.len]; exact Nat.le_refl _)
    rw [hB] at h4
    exact ⟨g', bo, _, bc, h2, h3, h4.shows⟩
end
end Go.Proofs.Ythkbakaodbceiaa
