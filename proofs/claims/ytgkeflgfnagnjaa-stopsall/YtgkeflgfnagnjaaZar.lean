import Derived.Test.YtgkeflgfnagnjaaZaq
import Derived.Test.YtgkeflgfnagnjaaZal
import Derived.Test.YtgkeflgfnagnjaaZak
import Derived.Test.YtgkeflgfnagnjaaZap
import Derived.Laws.IdiomStrings
/-
  The program's files in the document's order; what a disk says of its lists; a disk stays where its memory is not touched.
-/
namespace Go.Proofs.Ytgkeflgfnagnjaa
open Go.RowKit Go.Maps Go.WideMaps Go.Sort Go.Shelf
set_option linter.unusedVariables false
set_option maxRecDepth 100000

/-- Two lists in one strict order with the same members are the same. -/
theorem two_lists {α : Type} {lt : α → α → Prop} (ir : ∀ a, ¬ lt a a) (tr : ∀ a b c, lt a b → lt b c → lt a c) : ∀ {l k : List α}, l.Pairwise lt → k.Pairwise lt → (∀ a, a ∈ l ↔ a ∈ k) → l = k
  | [], [], _, _, _ => rfl
  | [], b :: k, _, _, h => absurd ((h b).2 (by simp)) (by simp)
  | a :: l, [], _, _, h => absurd ((h a).1 (by simp)) (by simp)
  | a :: l, b :: k, h1, h2, h => by
    rw [List.pairwise_cons] at h1 h2
    have ab : a = b := by
      rcases List.mem_cons.1 ((h a).1 (by simp)) with e | e
      · exact e
      · rcases List.mem_cons.1 ((h b).2 (by simp)) with e2 | e2
        · exact e2.symm
        · exact absurd (tr _ _ _ (h1.1 b e2) (h2.1 a e)) (ir a)
    subst ab
    rw [two_lists ir tr h1.2 h2.2 (fun x => ?_)]
    constructor
    · intro hx
      rcases List.mem_cons.1 ((h x).1 (List.mem_cons_of_mem _ hx)) with e | e
      · subst e; exact absurd (h1.1 x hx) (ir x)
      · exact e
    · intro hx
      rcases List.mem_cons.1 ((h x).2 (List.mem_cons_of_mem _ hx)) with e | e
      · subst e; exact absurd (h2.1 x hx) (ir x)
      · exact e
theorem keys_apart {w : World} {m n : Nat} {D : DataW Unit} (hm : Mp w m n D) : (strKeys D).Pairwise (· ≠ ·) := by
  obtain ⟨es, rfl, hap, hkeys⟩ := hm.entries (string_keyed Try.underlying9)
  obtain ⟨es', hD', hko⟩ := hm.keysOf
  obtain rfl : es = es' := by simpa using hD'
  have hstr : ∀ p ∈ es, ∃ x, p.1 = .string x := fun p hp => by
    obtain ⟨v, hv⟩ := hko p hp
    obtain ⟨x, _, hx, _⟩ := Maps.keyOf_str Try.underlying9 hv
    exact ⟨x, hx⟩
  refine List.pairwise_map.2 (hap.imp_of_mem fun {p q} hp hq hne e => hne ?_)
  obtain ⟨x, hx⟩ := hstr p hp
  obtain ⟨y, hy⟩ := hstr q hq
  rw [hx, hy] at e ⊢
  simp only [strOf] at e
  rw [e]
theorem str_mk2 (s : ByteArray) : (⟨s.data.toList.toArray⟩ : ByteArray) = s := by cases s; simp
theorem has_keys2 {D : DataW Unit} {s : ByteArray} (h : Maps.has D (.string s.data.toList) = true) : s.data.toList ∈ strKeys D := by
  cases D with
  | map es =>
    have := has_mem h
    obtain ⟨p, hp, e⟩ := List.mem_map.1 this
    exact List.mem_map.2 ⟨p, hp, by rw [e]; rfl⟩
  | _ => simp [Maps.has] at h
theorem told_of2 {D : DataW Unit} {X : Nat → Fm} {s : ByteArray} {g : Nat} (hg : at? D s (some g)) : toldX D X s.data.toList = ⟨s, (X g).bn, (X g).la, (X g).th, (X g).nl⟩ := by
  unfold toldX
  rw [str_mk2, blkOf_at hg]
/-- The document's file as it is told. -/
def Rf.td (f : Rf) : Td := ⟨f.s, f.bs.length, f.la, f.th, f.nl⟩
section
variable {w w' : World} {b m base : Nat} {fs fs' : List (Int × Int)} {st st' : Int} {n i i' : Nat} {D : DataW Unit} {X : Nat → Fm} {B : Nat → List UInt8} {T T' : Nat → Prop} {L : List Rf}

theorem keys_sorted (hm : Mp w m n D) (hz : Nz D) (hM : ∀ s, Mt D X B s (lk L s)) (hso : Srt L) {ss : List (List UInt8)} (hp : ss.Perm (strKeys D)) : ss.mergeSort (fun x y => decide (x ≤ y)) = L.map (fun f => f.s.data.toList) := by
  refine two_lists (lt := fun (x y : List UInt8) => x < y) List.lt_irrefl (fun a b c h1 h2 => List.lt_trans h1 h2) ?_ ?_ ?_
  · have h1 : (ss.mergeSort (fun x y => decide (x ≤ y))).Pairwise (fun x y => decide (x ≤ y) = true) := List.pairwise_mergeSort (le := fun x y => decide (x ≤ y)) (fun a b c h1 h2 => by simp only [decide_eq_true_eq] at *; exact List.le_trans h1 h2) (fun a b => by simp only [Bool.or_eq_true, decide_eq_true_eq]; exact List.le_total a b) ss
    have h2 : (ss.mergeSort (fun x y => decide (x ≤ y))).Pairwise (· ≠ ·) := List.Pairwise.perm (keys_apart hm) (((List.mergeSort_perm ss _).trans hp).symm) (fun h e => h e.symm)
    refine (h1.and h2).imp fun {x y} h => ?_
    simp only [decide_eq_true_eq] at h
    rcases Decidable.em (x < y) with h3 | h3
    · exact h3
    · exact absurd (List.le_antisymm h.1 (List.not_lt.1 h3)) h.2
  · refine List.pairwise_map.2 (hso.imp fun {f g} h => ?_)
    have := Ahead.iff.1 h
    rwa [ByteArray.toList_eq, ByteArray.toList_eq] at this
  · intro x
    rw [List.mem_mergeSort, hp.mem_iff, List.mem_map]
    constructor
    · intro hx
      obtain ⟨g, hg⟩ := keys_at hz hx (keys_has hm x hx)
      cases hl : lk L ⟨x.toArray⟩ with
      | none => have := at_one hg ((hM _).at_none hl); cases this
      | some f => exact ⟨f, lk_mem hl, by rw [lk_name hl]⟩
    · rintro ⟨f, hf, rfl⟩
      obtain ⟨g, hg, _⟩ := (hM f.s).at_some (hso.lk_of hf)
      exact has_keys2 (at_has hg)
theorem sorted_told (hm : Mp w m n D) (hz : Nz D) (hM : ∀ s, Mt D X B s (lk L s)) (hso : Srt L) {ss : List (List UInt8)} (hp : ss.Perm (strKeys D)) : (ss.mergeSort (fun x y => decide (x ≤ y))).map (toldX D X) = L.map Rf.td := by
  rw [keys_sorted hm hz hM hso hp, List.map_map]
  refine List.map_congr_left fun f hf => ?_
  obtain ⟨g, hg, r1, r2, r3, r4, _⟩ := (hM f.s).at_some (hso.lk_of hf)
  simp only [Function.comp]
  rw [told_of2 hg, r1, r2, r3, r4]
  rfl
/-- What is told of the lists of a disk. -/
structure Lw (L : List Rf) (fs : List (Int × Int)) (st : Int) (i : Nat) : Prop where
  fl : ∀ f ∈ L, f.la ≤ f.bs.length ∧ f.bs.length ≤ 3000 * i ∧ nameB f.s = true
  len : L.length ≤ i
  fsl : fs.length ≤ 100 + 100 * i
  st0 : 0 ≤ st
  st1 : st ≤ i
  so : Srt L
theorem Pv.lw (h : Pv w T b L fs st i) : Lw L fs st i := by
  letI FO : Inhabited (Nat → Prop) := ⟨T⟩
  obtain ⟨m, n, D, X, B, hI, hM, tm, tg⟩ := h.ex
  refine ⟨fun f hf => ?_, ?_, hI.fsl, hI.st0, hI.st1, h.so⟩
  · obtain ⟨g, hg, r1, r2, r3, r4, r5⟩ := (hM f.s).at_some (h.so.lk_of hf)
    obtain ⟨a, q1, q2, q3⟩ := hI.la _ g hg
    exact ⟨by omega, by omega, hI.nm _ g hg⟩
  · have h1 := keys_sorted hI.ds.mp hI.nz hM h.so (List.Perm.refl (strKeys D))
    have h2 := congrArg List.length h1
    rw [List.length_mergeSort, List.length_map] at h2
    have := strKeys_len D
    have := hI.sz
    omega
theorem Ds.chgT {S : Nat → Prop} (h : @Ds ⟨T⟩ w b m fs st n D) (hc : Chg w w' S) (hS : ∀ k, T k → ¬ S k) (hb : T b) (hm : T m) : @Ds ⟨T⟩ w' b m fs st n D := by
  letI FO : Inhabited (Nat → Prop) := ⟨T⟩
  obtain ⟨⟨fo, fn, fc, a1, a2, a3⟩, a4⟩ := h
  exact ⟨⟨fo, fn, fc, a1.chg hc (hS b hb), a2.chg hc (fun a e => hS _ (a3 a e).2.2.1.2), fun a e => ⟨(a3 a e).1, (a3 a e).2.1, (a3 a e).2.2.chg hc (hS _ (a3 a e).2.2.1.2)⟩⟩, a4.chg hc (hS m hm)⟩
theorem Pv.chg {S : Nat → Prop} (h : Pv w T b L fs st i) (hc : Chg w w' S) (hS : ∀ k, T k → ¬ S k) : Pv w' T b L fs st i := by
  letI FO : Inhabited (Nat → Prop) := ⟨T⟩
  obtain ⟨m, n, D, X, B, hI, hM, tm, tg⟩ := h.ex
  have hg : ∀ s g, at? D s (some g) → ¬ S g := fun s g h1 => hS g (tg s g h1).1
  have hI2 : Iv w' b m 0 fs st n D X B i := ⟨Ds.chgT hI.ds hc hS h.tb tm, hI.st0, hI.st1, fun s g h1 => (hI.fl s g h1).chg hc (hg s g h1), fun s g h1 => (hI.ow s g h1).chg hc (fun q hq => hS q ((tg s g h1).2 q hq)), hI.la, hI.inj, hI.ne, hI.nb, hI.lo, hI.apart, hI.nz, hI.sz, hI.sn, hI.lb, hI.lm, Nat.zero_le _, hI.fsl, hI.nm⟩
  exact ⟨⟨m, n, D, X, B, hI2, hM, tm, tg⟩, h.so, h.tb, fun k hk => Nat.lt_of_lt_of_le (h.lt k hk) hc.size⟩
theorem Pv.grown (h : Pv w T b L fs st i) (hg : w.grownBy w' none) : Pv w' T b L fs st i := h.chg (Chg.of_grown hg (fun _ => False)) (fun k _ e => e)
theorem Pv.mono (h : Pv w T b L fs st i) : Pv w T b L fs st (i + 1) := by
  letI FO : Inhabited (Nat → Prop) := ⟨T⟩
  obtain ⟨m, n, D, X, B, h1, h2, h3, h4⟩ := h.ex
  exact ⟨⟨m, n, D, X, B, h1.mono, h2, h3, h4⟩, h.so, h.tb, h.lt⟩
theorem Pn.of_grown (h : Pv w T b L fs st i) (hg : w.grownBy w' none) : Pn w w' T b L fs st (i + 1) :=
  ⟨⟨T, (h.grown hg).mono, fun k hk => .inl hk⟩, Chg.of_grown hg _⟩
/-- Names. -/
theorem names_p (h : Pv w T b L fs st i) (hi : i ≤ 300) : Calls Try.prog 68 #[.pointer (some ⟨b, 0, none⟩)] w fun e w' => ∃ v, e = .returned v ∧ w'.ownsRow w.heap.size 9 1 v (L.filter (·.th)).length (((L.filter (·.th)).map (·.s)).map .string) ∧ w.grownBy w' none := by
  letI FO : Inhabited (Nat → Prop) := ⟨T⟩
  obtain ⟨m, n, D, X, B, hI, hM, tm, tg⟩ := h.ex
  refine (names_any hI.ds (toldX D X) (hI.filesB (by omega)).files (by have := hI.sz; omega)).mono ?_
  rintro e w2 ⟨v, rfl, ss, hp, hr, hg⟩
  have hn : nmsL (L.map Rf.td) = (L.filter (·.th)).map (·.s) := by
    unfold nmsL
    rw [List.filter_map, List.map_map]
    rfl
  rw [sorted_told hI.ds.mp hI.nz hM h.so hp, hn] at hr
  exact ⟨v, rfl, by simpa using hr, hg⟩
/-- All. -/
theorem all_p (h : Pv w T b L fs st i) (hi : i ≤ 300) : Calls Try.prog 55 #[.pointer (some ⟨b, 0, none⟩)] w fun e w' => ∃ ao cap, e = .returned (.func (.func 84) #[] #[.pointer (some ⟨w.heap.size, 0, none⟩)]) ∧ Boxed w' w.heap.size 139 (.slice ao L.length cap) ∧ Tw w' w.heap.size ao L.length cap (L.map Rf.td) ∧ w.grownBy w' none := by
  letI FO : Inhabited (Nat → Prop) := ⟨T⟩
  obtain ⟨m, n, D, X, B, hI, hM, tm, tg⟩ := h.ex
  refine (all_any hI.ds (toldX D X) (hI.filesB (by omega)).files (by have := hI.sz; omega)).mono ?_
  rintro e w2 ⟨ss, ao, cap, hp, rfl, hb, ht, hg⟩
  have hk := keys_sorted hI.ds.mp hI.nz hM h.so hp
  have hl : ss.length = L.length := by have := congrArg List.length hk; rwa [List.length_mergeSort, List.length_map] at this
  rw [sorted_told hI.ds.mp hI.nz hM h.so hp] at ht
  rw [hl] at hb ht
  exact ⟨ao, cap, rfl, hb, ht, hg⟩
end
end Go.Proofs.Ytgkeflgfnagnjaa

/-
  The document's Tell, Read, File, Names.
-/
namespace Go.Proofs.Ytgkeflgfnagnjaa
open Go.RowKit
set_option linter.unusedVariables false
set_option maxRecDepth 100000

section
variable {w w' : World} {T : Nat → Prop} {rb : Nat} {L : List Rf} {fs : List (Int × Int)} {st : Int}

/-- A file as the document tells it. -/
def Rf.told (f : Rf) : Value := toldV f.s f.bs.length f.la f.th f.nl
def Rf.agg (f : Rf) : Value := .agg #[.string f.s, .string ⟨f.bs.toArray⟩, .int .i64 (f.la : Int), .bool f.th, .bool f.nl]
set_option maxRecDepth 100000 in
set_option maxHeartbeats 1000000 in
theorem tell_r (w : World) (f : Rf) : Calls Try.prog 56 #[f.agg] w fun e w' => e = .returned f.told ∧ w.grownBy w' none := by
  have hss : (⟨f.bs.toArray⟩ : ByteArray).size = f.bs.length := by simp [ByteArray.size]
  have ga := alloc_grown w (.cells #[.string f.s, .string ⟨f.bs.toArray⟩, .int .i64 (f.la : Int), .bool f.th, .bool f.nl] 82)
  have gb := alloc_grown (w.alloc (.cells #[.string f.s, .string ⟨f.bs.toArray⟩, .int .i64 (f.la : Int), .bool f.th, .bool f.nl] 82)) (.cells #[.string f.s, .int .i64 f.bs.length, .int .i64 (f.la : Int), .bool f.th, .bool f.nl] 102)
  have hG := grown_trans ga gb (by simp)
  unfold Rf.agg Rf.told
  have kk := World.alloc_heap_new (w.alloc (.cells #[.string f.s, .string ⟨f.bs.toArray⟩, .int .i64 (f.la : Int), .bool f.th, .bool f.nl] 82)) (.cells #[.string f.s, .int .i64 f.bs.length, .int .i64 (f.la : Int), .bool f.th, .bool f.nl] 102)
  rw [World.size_alloc] at kk
  have HK : Hid _ := kk
  clear ga gb kk
  go_enter Try.func56, Try.ntmps56
  go_wp2
  have kk := HK.out
  generalize (w.alloc (.cells #[.string f.s, .string ⟨f.bs.toArray⟩, .int .i64 (f.la : Int), .bool f.th, .bool f.nl] 82)).alloc (.cells #[.string f.s, .int .i64 f.bs.length, .int .i64 (f.la : Int), .bool f.th, .bool f.nl] 102) = W at *
  have u0 := cell_of (i := 0) (v := .string f.s) kk rfl
  have u1 := cell_of (i := 1) (v := .int .i64 f.bs.length) kk rfl
  have u2 := cell_of (i := 2) (v := .int .i64 (f.la : Int)) kk rfl
  have u3 := cell_of (i := 3) (v := .bool f.th) kk rfl
  have u4 := cell_of (i := 4) (v := .bool f.nl) kk rfl
  exact bodyPost_ret (v := toldV f.s f.bs.length f.la f.th f.nl) (by simp [results, Try.results56, go_sem, u0, u1, u2, u3, u4, toldV]) rfl ⟨rfl, hG⟩
/-- What Read answers of a file. -/
def readC (n : Nat) (at' k : Int) : Bool := decide (at' < 0) || (decide ((n : Int) < at') || decide (k < 0))
end
end Go.Proofs.Ytgkeflgfnagnjaa

/-
  Files compared.
-/
namespace Go.Proofs.Ytgkeflgfnagnjaa
open Go.RowKit
set_option linter.unusedVariables false
set_option maxRecDepth 100000

theorem str_list (a b : ByteArray) : (a.toList = b.toList) = (a = b) := by
  apply propext
  rw [ByteArray.toList_eq, ByteArray.toList_eq]
  constructor
  · intro h
    cases a; cases b
    simp only [ByteArray.mk.injEq]
    exact Array.toList_inj.1 h
  · rintro rfl; rfl
theorem eqIn55 (W : World) (a c : ByteArray) (b d i j : Int) (p q r s : Bool) : (Op.equalIn 10000 102 (.agg #[.string a, .int .i64 b, .int .i64 i, .bool p, .bool r]) (.agg #[.string c, .int .i64 d, .int .i64 j, .bool q, .bool s])).run Try.prog W = .ok (decide (a = c) && (decide (b = d) && (decide (i = j) && ((p == q) && (r == s))))) W := by
  have u9 := Try.underlying9
  have u3 := Try.underlying3
  have u4 := Try.underlying4
  rw [show (10000 : Nat) = 9999 + 1 from rfl, Op.equalIn]
  simp only [Sem.run_bind, run_underlying Try.underlying102, Result.andThen_ok]
  go_simp
  simp only [str_list]
  by_cases e1 : a = c
  · by_cases e2 : b = d
    · by_cases e3 : i = j
      · cases p <;> cases q <;> cases r <;> cases s <;> simp [e1, e2, e3]
      · simp [e1, e2, e3]
    · simp [e1, e2]
  · simp [e1]
theorem ne55 (W : World) (a c : ByteArray) (b d i j : Int) (p q r s : Bool) : (binOp .neq 102 (.agg #[.string a, .int .i64 b, .int .i64 i, .bool p, .bool r]) (.agg #[.string c, .int .i64 d, .int .i64 j, .bool q, .bool s])).run Try.prog W = .ok (.bool (!(decide (a = c) && (decide (b = d) && (decide (i = j) && ((p == q) && (r == s))))))) W := by
  simp only [binOp]
  simp [show (Op.equal 102 (.agg #[.string a, .int .i64 b, .int .i64 i, .bool p, .bool r]) (.agg #[.string c, .int .i64 d, .int .i64 j, .bool q, .bool s])).run Try.prog W = _ from eqIn55 W a c b d i j p q r s]
section
variable {w w' : World} {T T' : Nat → Prop} {ra rb : Nat} {L K : List Rf} {fs fs' : List (Int × Int)} {st st' : Int}

end
end Go.Proofs.Ytgkeflgfnagnjaa

/-
  The document's File.
-/
namespace Go.Proofs.Ytgkeflgfnagnjaa
open Go.RowKit
set_option linter.unusedVariables false
set_option maxRecDepth 100000

section
variable {w w' : World} {T : Nat → Prop} {rb : Nat} {L : List Rf} {fs : List (Int × Int)} {st : Int}

/-- What File answers. -/
def fileR (L : List Rf) (s : ByteArray) : Value × Int :=
  if nameB s = false then (toldV ⟨#[]⟩ 0 0 false false, 2) else match atN L s with | none => (toldV ⟨#[]⟩ 0 0 false false, 171) | some i => match L[i]? with | some f => (f.told, 0) | none => (toldV ⟨#[]⟩ 0 0 false false, 171)
end
end Go.Proofs.Ytgkeflgfnagnjaa
