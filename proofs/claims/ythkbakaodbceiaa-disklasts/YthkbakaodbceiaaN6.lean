/-
  Read from a file's begin on; the last file of a name; how many files last.
-/
import Derived.Test.YthkbakaodbceiaaN5
import Derived.Test.YthkbakaodbceiaaE8
namespace Go.Proofs.Ythkbakaodbceiaa
open Go.RowKit Go.Maps Go.WideMaps Go.Sort Go.Shelf
set_option linter.unusedVariables false

section
variable {w w' : World} {b m : Nat} {fs : List (Int × Int)} {st : Int} {n : Nat} {D : DataW Unit}

set_option maxRecDepth 100000 in
set_option maxHeartbeats 1000000 in
theorem read0 (s : ByteArray) (g : Nat) (h : Ds w b m fs st n D) (hs : nameB s = true) (hg : at? D s (some g)) {bo : Option Addr} {bn bc : Nat} {la : Int} {nl : Bool} (hf : Fl w g bo bn bc la true nl) (l : List UInt8) (hb : Bs w bo bn bc l) (hpl : ∀ a, bo = some a → ∃ q i, a = ⟨q, i, none⟩) (hsz : bn ≤ 140737488355328)
    (k : Nat) (hk : k ≤ 140737488355328) :
    Calls Try.prog 27 #[.pointer (some ⟨b, 0, none⟩), .string s, .int .i64 0, .int .i64 k] w fun e w' => ∃ ao' cap', e = .returned (.tuple #[.slice ao' (min k bn) cap', .int .i64 0]) ∧ Bs w' ao' (min k bn) cap' (l.take k) ∧ w.grownBy w' none := by
  cases bo with
  | some a =>
    obtain ⟨q, i, rfl⟩ := hpl a rfl
    refine (read_at s g h hs hg hf l hb hsz 0 k (Nat.zero_le _) hk).mono ?_
    rintro e w' ⟨ao', cap', he, ho, hgr⟩
    rw [Nat.sub_zero] at he ho
    rw [List.drop_zero] at ho
    exact ⟨ao', cap', he, ho.shows, hgr⟩
  | none =>
    obtain rfl := hb.nil rfl
    obtain rfl : bn = 0 := Nat.le_zero.1 hb.room
    obtain rfl : l = [] := List.eq_nil_of_length_eq_zero hb.len
    have hfi := find_ds s g h hs hg hf
    have k0 := hf.c0
    have m0 : min (k : Int) 0 = 0 := by omega
    have d3 : decide ((k : Int) < 0) = false := by simp
    have e0 : min k 0 = 0 := by omega
    rw [e0, List.take_nil]
    clear h hs hg hf hb
    go_enter Try.func27, Try.ntmps27
    go_wp2_with fail
    refine hfi.mono ?_
    clear hfi
    rintro e w1 ⟨rfl, rfl⟩
    go_wp2_with fail
    refine (clone_any _ none 0 0 [] (Bs.empty _) (by omega)).mono ?_
    rintro e w2 ⟨ao', cap', rfl, ho, hg2⟩
    have hB := ho.shows
    clear ho
    go_wp2
    go_ret2
    exact ⟨ao', cap', rfl, hB, hg2⟩
end

/-- No file. -/
def tz : Td := ⟨⟨#[]⟩, 0, 0, false, false⟩
/-- The last one of a name. -/
def lastOf (l : List Td) (s : ByteArray) : Td := l.foldl (fun c t => if t.s = s then t else c) tz
theorem lastOf_snoc (l : List Td) (t : Td) (s : ByteArray) : lastOf (l ++ [t]) s = if t.s = s then t else lastOf l s := by simp [lastOf]
theorem lastOf_eq {l : List Td} {s : ByteArray} {u : Td} (h1 : ∃ t ∈ l, t.s = s) (h2 : ∀ t ∈ l, t.s = s → t = u) : lastOf l s = u := by
  suffices h : ∀ (l : List Td) (c : Td), (∀ t ∈ l, t.s = s → t = u) → (c = u ∨ ∃ t ∈ l, t.s = s) → l.foldl (fun c t => if t.s = s then t else c) c = u from h l tz h2 (.inr h1)
  intro l
  induction l with
  | nil => intro c _ h; rcases h with h | ⟨t, ht, _⟩; exact h; cases ht
  | cons x r ih =>
    intro c h2 h1
    rw [List.foldl_cons]
    refine ih _ (fun t ht => h2 t (List.mem_cons_of_mem _ ht)) ?_
    by_cases e : x.s = s
    · rw [if_pos e]; exact .inl (h2 x (by simp) e)
    · rw [if_neg e]
      rcases h1 with h1 | ⟨t, ht, es⟩
      · exact .inl h1
      · rcases List.mem_cons.1 ht with rfl | ht
        · exact absurd es e
        · exact .inr ⟨t, ht, es⟩

theorem keys_ne {w : World} {m n : Nat} {D : DataW Unit} (hm : Mp w m n D) : (strKeys D).Pairwise (· ≠ ·) := by
  obtain ⟨es, rfl, hap, hkeys⟩ := hm.entries (string_keyed Try.underlying9)
  obtain ⟨es', hD', hko⟩ := hm.keysOf
  obtain rfl : es = es' := by simpa using hD'
  have hstr : ∀ p ∈ es, ∃ x, p.1 = .string x := fun p hp => by
    obtain ⟨v, hv⟩ := hko p hp
    obtain ⟨x, _, hx, _⟩ := Maps.keyOf_str Try.underlying9 hv
    exact ⟨x, hx⟩
  refine List.pairwise_map.2 (hap.imp_of_mem fun {p q} hp hq hne e => hne ?_)
  obtain ⟨x, hx⟩ := hstr p hp
  obtain ⟨y, hy⟩ := hstr q hq
  rw [hx, hy] at e ⊢
  simp only [strOf] at e
  rw [e]

theorem names_ne {D : DataW Unit} (hk : (strKeys D).Pairwise (· ≠ ·)) {T : List UInt8 → Td} (hT : ∀ s, (T s).s = ⟨s.toArray⟩) {ss : List (List UInt8)} (hp : ss.Perm (strKeys D)) : (((ss.mergeSort (fun x y => decide (x ≤ y))).map T).map (·.s)).Pairwise (· ≠ ·) := by
  have h1 : (ss.mergeSort (fun x y => decide (x ≤ y))).Pairwise (· ≠ ·) := ((List.mergeSort_perm ss _).trans hp).symm.pairwise hk (fun h e => h e.symm)
  rw [List.map_map]
  refine List.pairwise_map.2 (h1.imp fun {a b} hne e => hne ?_)
  simp only [Function.comp, hT] at e
  injection e with e
  exact List.toArray_inj e

/-- As many of what is left are sure as there were. -/
theorem sure_len {F1 F2 : List Td} {p1 p2 : Td → Bool} (h1 : (F1.map (·.s)).Pairwise (· ≠ ·)) (h2 : (F2.map (·.s)).Pairwise (· ≠ ·)) (h12 : ∀ t ∈ F1, p1 t = true → ∃ u ∈ F2, u.s = t.s ∧ p2 u = true) (h21 : ∀ t ∈ F2, p2 t = true → ∃ u ∈ F1, u.s = t.s ∧ p1 u = true) : (F1.filter p1).length = (F2.filter p2).length := by
  classical
  have key : ∀ (F G : List Td) (p q : Td → Bool), (F.map (·.s)).Pairwise (· ≠ ·) → (∀ t ∈ F, p t = true → ∃ u ∈ G, u.s = t.s ∧ q u = true) → (F.filter p).length ≤ (G.filter q).length := by
    intro F G p q hF h
    have := nodup_le ((F.filter p).map (·.s)) ((G.filter q).map (·.s)) (List.Pairwise.sublist (List.filter_sublist.map _) hF) (fun x hx => by
      obtain ⟨t, ht, rfl⟩ := List.mem_map.1 hx
      obtain ⟨t1, t2⟩ := List.mem_filter.1 ht
      obtain ⟨u, hu, e, hq⟩ := h t t1 t2
      exact List.mem_map.2 ⟨u, List.mem_filter.2 ⟨hu, hq⟩, e⟩)
    simpa using this
  exact Nat.le_antisymm (key F1 F2 p1 p2 h1 h12) (key F2 F1 p2 p1 h2 h21)
end Go.Proofs.Ythkbakaodbceiaa
