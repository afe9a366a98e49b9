/-
  What any crash keeps of the files of a disk.
-/
import Derived.Test.YthkbakaodbceiaaL1
namespace Go.Proofs.Ythkbakaodbceiaa
open Go.RowKit Go.Maps Go.WideMaps Go.Sort Go.Shelf
set_option linter.unusedVariables false

theorem staysR_lo (l : List Int) (n k : Nat) (sz la : Nat) (th nl : Bool) (h : la ≤ sz) (hs : (staysR l n k sz la th nl).2.1 = true) : (la : Int) ≤ (staysR l n k sz la th nl).1 := by
  have p : ∀ k, 0 ≤ pickR l k ((sz : Int) - la + 1) := fun k => (pickR_range l k _ (by omega)).1
  unfold staysR at *
  have p1 := p k
  have p2 := p (min (k + 1) n)
  split
  · rename_i h1
    rw [if_pos h1] at hs
    split
    · rename_i h2
      rw [if_pos h2] at hs
      cases hs
    · split
      · simp only; omega
      · simp only; omega
  · split
    · simp only; omega
    · simp only; omega
theorem staysR_firm (l : List Int) (n k : Nat) (sz la : Int) : (staysR l n k sz la true true).2.1 = true := by
  unfold staysR
  simp
  split <;> rfl

/-- What is kept is a beginning, with all that lasts. -/
theorem crashF_some (l : List Int) (n : Nat) (files : List Td) (hf : ∀ t ∈ files, ∃ la : Nat, t.la = la ∧ la ≤ t.sz) : ∀ s z, (crashF l n files).1 s = some z → ∃ t ∈ files, t.s = s ∧ t.la ≤ (z : Int) ∧ z ≤ t.sz := by
  suffices h : ∀ (fs : List Td), (∀ t ∈ fs, ∃ la : Nat, t.la = la ∧ la ≤ t.sz) → ∀ (st : (ByteArray → Option Nat) × Nat) (G : ByteArray → Nat → Prop), (∀ s z, st.1 s = some z → G s z) → (∀ t ∈ fs, ∀ z : Nat, t.la ≤ (z : Int) → z ≤ t.sz → G t.s z) → ∀ s z, (fs.foldl (crashS l n) st).1 s = some z → G s z by
    exact fun s z => h files hf (fun _ => none, 0) (fun s z => ∃ t ∈ files, t.s = s ∧ t.la ≤ (z : Int) ∧ z ≤ t.sz) (fun s z e => by cases e) (fun t ht z h1 h2 => ⟨t, ht, rfl, h1, h2⟩) s z
  intro fs
  induction fs with
  | nil => intro _ st G h1 _ s z hz; exact h1 s z hz
  | cons t r ih =>
    intro hf st G h1 h2 s z hz
    rw [List.foldl_cons] at hz
    refine ih (fun t ht => hf t (List.mem_cons_of_mem _ ht)) _ G (fun s z hs => ?_) (fun t ht => h2 t (List.mem_cons_of_mem _ ht)) s z hz
    obtain ⟨la, e, hle⟩ := hf t (by simp)
    have b1 := staysR_le l n st.2 t.sz la t.th t.nl hle
    have b2 := staysR_lo l n st.2 t.sz la t.th t.nl hle
    unfold crashS at hs
    rw [e] at hs
    simp only at hs
    split at hs
    · rename_i hk
      by_cases es : s = t.s
      · subst es
        simp only [if_true, Option.some.injEq] at hs
        have := b2 hk
        exact h2 t (by simp) z (by rw [e]; omega) (by omega)
      · simp only [es, if_false] at hs
        exact h1 s z hs
    · exact h1 s z hs

/-- A file that is there and whose name lasts is kept. -/
theorem crashF_kept (l : List Int) (n : Nat) (files : List Td) : ∀ t ∈ files, t.th = true → t.nl = true → ∃ z, (crashF l n files).1 t.s = some z := by
  have mono : ∀ (fs : List Td) (st : (ByteArray → Option Nat) × Nat) (s : ByteArray), (∃ z, st.1 s = some z) → ∃ z, (fs.foldl (crashS l n) st).1 s = some z := by
    intro fs
    induction fs with
    | nil => intro st s h; exact h
    | cons u r ih =>
      intro st s h
      rw [List.foldl_cons]
      refine ih _ s ?_
      unfold crashS
      simp only
      split
      · by_cases e : s = u.s
        · exact ⟨_, by simp only [e, if_true]; rfl⟩
        · simpa only [e, if_false] using h
      · exact h
  suffices h : ∀ (fs : List Td) (st : (ByteArray → Option Nat) × Nat), ∀ t ∈ fs, t.th = true → t.nl = true → ∃ z, (fs.foldl (crashS l n) st).1 t.s = some z from h files (fun _ => none, 0)
  intro fs
  induction fs with
  | nil => intro st t ht; cases ht
  | cons u r ih =>
    intro st t ht h1 h2
    rw [List.foldl_cons]
    rcases List.mem_cons.1 ht with rfl | ht
    · refine mono r _ _ ?_
      unfold crashS
      simp only
      rw [h1, h2, if_pos (staysR_firm l n st.2 _ _)]
      exact ⟨_, by simp only [if_true]; rfl⟩
    · exact ih _ t ht h1 h2

section
variable {w w' : World} {b m base : Nat} {fs : List (Int × Int)} {st : Int} {n i : Nat} {D : DataW Unit} {X : Nat → Fm} {B : Nat → List UInt8}

/-- What a crash leaves of a disk on which calls were made: the files that it kept, by their names, with how much of them. -/
structure Lft (w : World) (nb nm n' : Nat) (D' : DataW Unit) (D : DataW Unit) (X : Nat → Fm) (B : Nat → List UInt8) (K : ByteArray → Option Nat) : Prop where
  ds : Ds w nb nm [] 0 n' D'
  nz : Nz D'
  no : ∀ s, K s = none → at? D' s none
  yes : ∀ s z, K s = some z → ∃ g g' bo bc, at? D s (some g) ∧ (X g).la ≤ (z : Int) ∧ z ≤ (X g).bn ∧ at? D' s (some g') ∧ Fl w g' bo z bc z true true ∧ Bs w bo z bc ((B g).take z) ∧ (∀ a, bo = some a → ∃ q, a = ⟨q, 0, none⟩) ∧ ∀ q, blk bo = some q → Ty w q 5
  firm : ∀ s g, at? D s (some g) → (X g).th = true → (X g).nl = true → ∃ z, K s = some z

theorem Lft.of_kept {nb nm n' base' : Nat} {D' : DataW Unit} (h : Iv w b m base fs st n D X B i) (hi : i ≤ 5000) {ss : List (List UInt8)} (hp : ss.Perm (strKeys D)) (l : List Int) (pn : Nat) (hd : Ds w' nb nm [] 0 n' D')
    (hk : Kept w' base' D' (crashF l pn ((ss.mergeSort (fun x y => decide (x ≤ y))).map (toldX D X))).1 (fun s => B (blkOf D s))) : Lft w' nb nm n' D' D X B (crashF l pn ((ss.mergeSort (fun x y => decide (x ≤ y))).map (toldX D X))).1 := by
  have hmem : ∀ t ∈ (ss.mergeSort (fun x y => decide (x ≤ y))).map (toldX D X), ∃ g, at? D t.s (some g) ∧ t = ⟨t.s, (X g).bn, (X g).la, (X g).th, (X g).nl⟩ := fun t ht => by
    obtain ⟨x, hx, rfl⟩ := List.mem_map.1 ht
    have hx' : x ∈ strKeys D := hp.mem_iff.1 ((List.mem_mergeSort).1 hx)
    obtain ⟨g, hg⟩ := keys_at h.nz hx' (keys_has h.ds.mp x hx')
    exact ⟨g, hg, by simp [toldX, blkOf_at hg]⟩
  have hin : ∀ s g, at? D s (some g) → toldX D X s.data.toList ∈ (ss.mergeSort (fun x y => decide (x ≤ y))).map (toldX D X) := fun s g hg => List.mem_map.2 ⟨_, (List.mem_mergeSort).2 (hp.mem_iff.2 (has_keys (at_has hg))), rfl⟩
  refine ⟨hd, hk.1, fun s e => (hk.2 s).1 e, fun s z e => ?_, fun s g hg h1 h2 => ?_⟩
  · obtain ⟨t, ht, rfl, h1, h2⟩ := crashF_some l pn _ (fun t ht => by
      obtain ⟨g, hg, e⟩ := hmem t ht
      obtain ⟨a, a1, a2, _⟩ := h.la _ g hg
      rw [e]
      exact ⟨a, a1, a2⟩) s z e
    obtain ⟨g, hg, et⟩ := hmem t ht
    rw [et] at h1 h2
    obtain ⟨g', bo, bc, _, k2, k3, k4⟩ := (hk.2 t.s).2 z e
    have k4 : Ow w' base' 5 bo z bc ((B (blkOf D t.s)).take z) := k4
    rw [blkOf_at hg] at k4
    refine ⟨g, g', bo, bc, hg, h1, h2, k2, k3, k4.shows, fun a ha => ?_, k4.ty⟩
    rcases k4.row.2 with ⟨h4, _⟩ | ⟨q, c, cs, h4, _⟩
    · rw [ha] at h4; cases h4
    · rw [ha] at h4; cases h4; exact ⟨q, rfl⟩
  · have := crashF_kept l pn _ _ (hin s g hg) (by rw [told_of hg]; exact h1) (by rw [told_of hg]; exact h2)
    rwa [told_of hg] at this
theorem Lft.grown {nb nm n' : Nat} {D' : DataW Unit} {K : ByteArray → Option Nat} (h : Lft w nb nm n' D' D X B K) (hg : w.grownBy w' none) : Lft w' nb nm n' D' D X B K :=
  ⟨h.ds.grown hg, h.nz, h.no, fun s z e => by
    obtain ⟨g, g', bo, bc, h1, h2, h3, h4, h5, h6, h7, h8⟩ := h.yes s z e
    exact ⟨g, g', bo, bc, h1, h2, h3, h4, h5.chg (Chg.of_grown hg (fun _ => False)) (fun e => e), h6.grown hg, h7, fun q hq => (h8 q hq).chg (Chg.of_grown hg (fun _ => False)) (fun e => e)⟩, h.firm⟩

/-- The files that were kept, as they are told. -/
def leftX (K : ByteArray → Option Nat) (s : List UInt8) : Td := ⟨⟨s.toArray⟩, (K ⟨s.toArray⟩).getD 0, (K ⟨s.toArray⟩).getD 0, true, true⟩
theorem Lft.key {nb nm n' : Nat} {D' : DataW Unit} {K : ByteArray → Option Nat} (h : Lft w nb nm n' D' D X B K) {s : List UInt8} (hs : s ∈ strKeys D') : ∃ z, K ⟨s.toArray⟩ = some z := by
  obtain ⟨g, hg⟩ := keys_at h.nz hs (keys_has h.ds.mp s hs)
  cases e : K ⟨s.toArray⟩ with
  | some z => exact ⟨z, rfl⟩
  | none => have := at_one hg (h.no _ e); cases this
theorem Lft.files {nb nm n' : Nat} {D' : DataW Unit} {K : ByteArray → Option Nat} (h : Lft w nb nm n' D' D X B K) (hn : ∀ s g, at? D s (some g) → nameB s = true) : Files w D' (leftX K) := fun s hs => by
  obtain ⟨z, e⟩ := h.key hs
  obtain ⟨g, g', bo, bc, h1, h2, h3, h4, h5, _⟩ := h.yes _ z e
  have hn := name_32 (hn _ g h1)
  exact ⟨rfl, by simpa [ByteArray.size] using hn, g', bo, bc, h4, by simpa [leftX, e] using h5⟩
end
end Go.Proofs.Ythkbakaodbceiaa
