import Derived.Test.YthkbakaodbceiaaBd
import Derived.Test.YthkbakaodbceiaaBc
import Derived.Test.YthkbakaodbceiaaQ2
/-
  The program's Read, File, Feed, in the document's words.
-/
namespace Go.Proofs.Ythkbakaodbceiaa
open Go.RowKit Go.Maps Go.WideMaps
set_option linter.unusedVariables false

section
variable {w w' : World} {b m base : Nat} {fs fs' : List (Int × Int)} {st st' : Int} {n i i' : Nat} {D : DataW Unit} {X : Nat → Fm} {B : Nat → List UInt8} {T T' : Nat → Prop} {L : List Rf} {s : ByteArray}

set_option maxRecDepth 100000 in
set_option maxHeartbeats 1000000 in
theorem read_out {g bn bc : Nat} {bo : Option Addr} {la : Int} {nl : Bool} (hfi : Calls Try.prog 52 #[.pointer (some ⟨b, 0, none⟩), .string s] w fun e w' => e = .returned (.tuple #[.pointer (some ⟨g, 0, none⟩), .int .i64 0]) ∧ w' = w) (hf : Fl w g bo bn bc la true nl) (a k : Int) (hr : readC bn a k = true) :
    Calls Try.prog 27 #[.pointer (some ⟨b, 0, none⟩), .string s, .int .i64 a, .int .i64 k] w fun e w' => e = .returned (.tuple #[.slice none 0 0, .int .i64 4]) ∧ w' = w := by
  have k0 := hf.c0
  unfold readC at hr
  clear hf
  cases d0 : decide (a < 0) with
  | true =>
    clear hr
    go_enter Try.func27, Try.ntmps27
    go_wp2_with fail
    refine hfi.mono ?_
    rintro e w1 ⟨rfl, rfl⟩
    go_wp2
    go_ret2
    exact ⟨rfl, rfl⟩
  | false =>
    cases d1 : decide ((bn : Int) < a) with
    | true =>
      clear hr
      go_enter Try.func27, Try.ntmps27
      go_wp2_with fail
      refine hfi.mono ?_
      rintro e w1 ⟨rfl, rfl⟩
      go_wp2
      go_ret2
      exact ⟨rfl, rfl⟩
    | false =>
      rw [d0, d1] at hr
      have d2 : decide (k < 0) = true := by simpa using hr
      clear hr
      go_enter Try.func27, Try.ntmps27
      go_wp2_with fail
      refine hfi.mono ?_
      rintro e w1 ⟨rfl, rfl⟩
      go_wp2
      go_ret2
      exact ⟨rfl, rfl⟩

set_option maxRecDepth 100000 in
set_option maxHeartbeats 1000000 in
theorem read_nil {g : Nat} {la : Int} {nl : Bool} (hfi : Calls Try.prog 52 #[.pointer (some ⟨b, 0, none⟩), .string s] w fun e w' => e = .returned (.tuple #[.pointer (some ⟨g, 0, none⟩), .int .i64 0]) ∧ w' = w) (hf : Fl w g none 0 0 la true nl) (k : Nat) (hk : k ≤ 9223372036854775807) :
    Calls Try.prog 27 #[.pointer (some ⟨b, 0, none⟩), .string s, .int .i64 0, .int .i64 k] w fun e w' => ∃ ao' cap', e = .returned (.tuple #[.slice ao' 0 cap', .int .i64 0]) ∧ Ow w' w.heap.size 5 ao' 0 cap' [] ∧ w.grownBy w' none := by
  have k0 := hf.c0
  have d3 : decide ((k : Int) < 0) = false := by simp
  have m0 : min (k : Int) 0 = 0 := by omega
  have hB := Bs.empty w
  clear hf
  go_enter Try.func27, Try.ntmps27
  go_wp2_with fail
  refine hfi.mono ?_
  clear hfi
  rintro e w1 ⟨rfl, rfl⟩
  go_wp2_with fail
  refine (clone_any _ _ _ _ _ hB (by omega)).mono ?_
  rintro e w2 ⟨ao', cap', rfl, ho, hg2⟩
  go_wp2
  go_ret2
  exact ⟨ao', cap', rfl, ho, hg2⟩

set_option maxRecDepth 100000 in
set_option maxHeartbeats 1000000 in
theorem read_in {g q o bn bc : Nat} {la : Int} {nl : Bool} (hfi : Calls Try.prog 52 #[.pointer (some ⟨b, 0, none⟩), .string s] w fun e w' => e = .returned (.tuple #[.pointer (some ⟨g, 0, none⟩), .int .i64 0]) ∧ w' = w) (hf : Fl w g (some ⟨q, o, none⟩) bn bc la true nl) (l : List UInt8) (hb : Bs w (some ⟨q, o, none⟩) bn bc l) (hsz : bn ≤ 140737488355328)
    (i k : Nat) (hi : i ≤ bn) (hk : k ≤ 9223372036854775807) :
    Calls Try.prog 27 #[.pointer (some ⟨b, 0, none⟩), .string s, .int .i64 i, .int .i64 k] w fun e w' => ∃ ao' cap', e = .returned (.tuple #[.slice ao' (min k (bn - i)) cap', .int .i64 0]) ∧ Ow w' w.heap.size 5 ao' (min k (bn - i)) cap' ((l.drop i).take k) ∧ w.grownBy w' none := by
  have k0 := hf.c0
  have hlen := hb.len
  have hroom := hb.room
  have htop := hb.top
  unfold maxLen at htop
  obtain ⟨c, hc⟩ : ∃ c, c = min k (bn - i) := ⟨_, rfl⟩
  have hcI : min (k : Int) ((bn : Int) - (i : Int)) = (c : Int) := by omega
  have d1 : decide ((i : Int) < 0) = false := by simp
  have d2 : decide ((bn : Int) < (i : Int)) = false := by simp; omega
  have d3 : decide ((k : Int) < 0) = false := by simp
  have b1 : (0 : Int) ≤ (i : Int) := by omega
  have b2 : (i : Int) ≤ (i : Int) + (c : Int) := by omega
  have b3 : (i : Int) + (c : Int) ≤ (bc : Int) := by omega
  rw [← hc]
  have hwd : IntKind.i64.wrap ((i : Int) + (c : Int)) = (i : Int) + (c : Int) := by rw [IntWalk.i64_in _ (by omega)]
  clear hf
  have hl : (l.drop i).take c = (l.drop i).take k := by
    rcases Nat.le_total k (bn - i) with h9 | h9
    · rw [show c = k by omega]
    · rw [List.take_of_length_le (by simp; omega), List.take_of_length_le (by simp; omega)]
  by_cases hic : i = bc
  · obtain rfl : bn = bc := by omega
    subst hic
    obtain rfl : c = 0 := by omega
    have hB := (hb.drop i (Nat.le_refl _) o (.inl (by omega))).take 0 (Nat.zero_le _)
    rw [Nat.sub_self, hl] at hB
    have m0 : min (k : Int) 0 = 0 := by omega
    clear hb hl hc
    go_enter Try.func27, Try.ntmps27
    go_wp2_with fail
    refine hfi.mono ?_
    clear hfi
    rintro e w1 ⟨rfl, rfl⟩
    go_wp2_with fail
    refine (clone_any _ _ _ _ _ hB (by omega)).mono ?_
    rintro e w2 ⟨ao', cap', rfl, ho, hg2⟩
    go_wp2
    go_ret2
    exact ⟨ao', cap', rfl, ho, hg2⟩
  · have hB := (hb.drop i hi (o + i) (.inr rfl)).take c (by omega)
    rw [hl] at hB
    have hic2 : i < bc := by omega
    have hic3 : (i : Int) < (bc : Int) := by omega
    clear hb hl hc hic
    go_enter Try.func27, Try.ntmps27
    go_wp2_with fail
    refine hfi.mono ?_
    clear hfi
    rintro e w1 ⟨rfl, rfl⟩
    go_wp2_with fail
    refine (clone_any _ _ _ _ _ hB (by omega)).mono ?_
    rintro e w2 ⟨ao', cap', rfl, ho, hg2⟩
    go_wp2
    go_ret2
    exact ⟨ao', cap', rfl, ho, hg2⟩

/-- What Read answers: the bytes and the error. -/
def readL (L : List Rf) (s : ByteArray) (a k : Int) : List UInt8 × Int :=
  if (findR L s).2 ≠ 0 then ([], (findR L s).2) else match lk L s with
    | none => ([], 4)
    | some f => if readC f.bs.length a k = true then ([], 4) else ((f.bs.drop a.toNat).take k.toNat, 0)

theorem find_or (L : List Rf) (s : ByteArray) : (findR L s).2 ≠ 0 ∨ ∃ j f, Hit L s j f ∧ lk L s = some f ∧ (findR L s).2 = 0 := by
  unfold findR
  cases hs : nameB s with
  | false => left; simp
  | true =>
    rw [if_neg (by simp)]
    cases ha : atN L s with
    | none => left; simp
    | some j =>
      obtain ⟨f, hf, hfs⟩ := atN_some ha
      simp only [hf, Option.map_some]
      by_cases ht : f.th = true
      · right
        exact ⟨j, f, ⟨hs, ha, hf, ht⟩, by rw [lk_atN ha]; exact hf, by simp [ht]⟩
      · left
        rw [if_neg (by simpa using ht)]
        simp

/-- Read. -/
theorem read_p (h : Pv w T b L fs st i) (hi : i ≤ 300) (s : ByteArray) (a k : Int) (hk : k ≤ 9223372036854775807) :
    Calls Try.prog 27 #[.pointer (some ⟨b, 0, none⟩), .string s, .int .i64 a, .int .i64 k] w fun e w' => ∃ ao nn cap, e = .returned (.tuple #[.slice ao nn cap, .int .i64 (readL L s a k).2]) ∧ Ow w' w.heap.size 5 ao nn cap (readL L s a k).1 ∧ w.grownBy w' none := by
  rcases find_or L s with hc | ⟨j, f, hh, hlk, hc⟩
  · have hR : readL L s a k = ([], (findR L s).2) := by unfold readL; rw [if_pos hc]
    rw [hR]
    refine (read_lost (h.lost s hc) a k).mono ?_
    rintro e w2 ⟨rfl, rfl⟩
    exact ⟨none, 0, 0, rfl, Ow.nil _ _ _, grown_refl _ _⟩
  · have hR : readL L s a k = if readC f.bs.length a k = true then ([], 4) else ((f.bs.drop a.toNat).take k.toNat, 0) := by unfold readL; rw [if_neg (by simp [hc]), hlk]
    rw [hR]
    letI FO : Inhabited (Nat → Prop) := ⟨T⟩
    obtain ⟨m, n, D, X, B, hI, hM, tm, tg⟩ := h.ex
    obtain ⟨g, bo, bc, hg, hX, hB, hf, hla, hbn, ho, hbb, hbg, hne⟩ := Iv.hit hI hM hh
    have hfi := find_ds s g hI.ds hh.nm hg hf
    cases hr : readC f.bs.length a k with
    | true =>
      simp only [if_true]
      refine (read_out hfi hf a k hr).mono ?_
      rintro e w2 ⟨rfl, rfl⟩
      exact ⟨none, 0, 0, rfl, Ow.nil _ _ _, grown_refl _ _⟩
    | false =>
      rw [if_neg (by simp)]
      unfold readC at hr
      simp only [Bool.or_eq_false_iff, decide_eq_false_iff_not] at hr
      obtain ⟨a1, a2, a3⟩ := hr
      obtain ⟨a', rfl⟩ : ∃ a' : Nat, a = a' := ⟨a.toNat, by omega⟩
      obtain ⟨k', rfl⟩ : ∃ k' : Nat, k = k' := ⟨k.toNat, by omega⟩
      simp only [Int.toNat_natCast]
      rcases ho.row.2 with ⟨h4, h5⟩ | ⟨q, c, cs, h4, _⟩
      · injection h4 with e1 e2 e3
        subst e1
        subst e3
        obtain rfl : a' = 0 := by omega
        rw [h5] at hf
        have e9 : f.bs = [] := List.length_eq_zero_iff.1 h5
        rw [e9]
        refine (read_nil hfi hf k' (by omega)).mono ?_
        rintro e w2 ⟨ao, cap, rfl, h1, h2⟩
        exact ⟨ao, 0, cap, rfl, by simpa using h1, h2⟩
      · injection h4 with e1 e2 e3
        subst e1
        refine (read_in hfi hf f.bs ho.shows (by omega) a' k' (by omega) (by omega)).mono ?_
        rintro e w2 ⟨ao, cap, rfl, h1, h2⟩
        exact ⟨ao, _, cap, rfl, h1, h2⟩

/-- The document's Read. -/
theorem read_rr {rb : Nat} (h : Rv w T rb L fs st) (hl : L.length ≤ 4000) (hsz : ∀ f ∈ L, f.bs.length ≤ 16777216) (s : ByteArray) (a k : Int) (hk : k ≤ 9223372036854775807) :
    Calls Try.prog 28 #[.pointer (some ⟨rb, 0, none⟩), .string s, .int .i64 a, .int .i64 k] w fun e w' => ∃ ao nn cap, e = .returned (.tuple #[.slice ao nn cap, .int .i64 (readL L s a k).2]) ∧ Bs w' ao nn cap (readL L s a k).1 ∧ w.grownBy w' none := by
  rcases find_or L s with hc | ⟨j, f, hh, hlk, hc⟩
  · have hR : readL L s a k = ([], (findR L s).2) := by unfold readL; rw [if_pos hc]
    rw [hR]
    refine (read_r_lost h (by omega) s hc _ _).mono ?_
    rintro e w2 ⟨rfl, rfl⟩
    exact ⟨none, 0, 0, rfl, Bs.empty _, grown_refl _ _⟩
  · have hR : readL L s a k = if readC f.bs.length a k = true then ([], 4) else ((f.bs.drop a.toNat).take k.toNat, 0) := by unfold readL; rw [if_neg (by simp [hc]), hlk]
    rw [hR]
    cases hr : readC f.bs.length a k with
    | true =>
      simp only [if_true]
      refine (read_r_range h (by omega) hh a k hr).mono ?_
      rintro e w2 ⟨rfl, rfl⟩
      exact ⟨none, 0, 0, rfl, Bs.empty _, grown_refl _ _⟩
    | false =>
      rw [if_neg (by simp)]
      unfold readC at hr
      simp only [Bool.or_eq_false_iff, decide_eq_false_iff_not] at hr
      obtain ⟨a1, a2, a3⟩ := hr
      obtain ⟨a', rfl⟩ : ∃ a' : Nat, a = a' := ⟨a.toNat, by omega⟩
      obtain ⟨k', rfl⟩ : ∃ k' : Nat, k = k' := ⟨k.toNat, by omega⟩
      simp only [Int.toNat_natCast]
      refine (read_r h (by omega) hh (hsz f (lk_mem hlk)) a' k' (by omega) (by omega)).mono ?_
      rintro e w2 ⟨ao, nn, cap, rfl, h1, h2⟩
      exact ⟨ao, nn, cap, rfl, h1, h2⟩

set_option maxRecDepth 100000 in
theorem file_not (fe : Int) (hfe : fe = 2 ∨ fe = 171) (hk : ∀ W, w.grownBy W none → Calls Try.prog 47 #[.pointer (some ⟨b, 0, none⟩), .string s] W fun e w' => e = .returned (.tuple #[.pointer none, .int .i64 fe]) ∧ w' = W) : Calls Try.prog 29 #[.pointer (some ⟨b, 0, none⟩), .string s] w fun e w' => e = .returned (.tuple #[toldV ⟨#[]⟩ 0 0 false false, .int .i64 fe]) ∧ w.grownBy w' none := by
  have hga := alloc_grown w (.cells #[.string ⟨#[]⟩, .int .i64 0, .int .i64 0, .bool false, .bool false] 55)
  have hka := World.alloc_heap_new w (.cells #[.string ⟨#[]⟩, .int .i64 0, .int .i64 0, .bool false, .bool false] 55)
  have hkn := hk _ hga
  have HK : Hid _ := hka
  clear hk hka
  unfold toldV
  rcases hfe with rfl | rfl <;>
  · go_enter Try.func29, Try.ntmps29
    go_wp2_with fail
    refine hkn.mono ?_
    rintro e w1 ⟨rfl, hw1⟩
    subst hw1
    go_wp2
    have kk := HK.out
    generalize w.alloc (.cells #[.string ⟨#[]⟩, .int .i64 0, .int .i64 0, .bool false, .bool false] 55) = W at *
    have u0 := cell_of (i := 0) (v := .string ⟨#[]⟩) kk rfl
    have u1 := cell_of (i := 1) (v := .int .i64 0) kk rfl
    have u2 := cell_of (i := 2) (v := .int .i64 0) kk rfl
    have u3 := cell_of (i := 3) (v := .bool false) kk rfl
    have u4 := cell_of (i := 4) (v := .bool false) kk rfl
    first
      | exact bodyPost_ret (v := .tuple #[toldV ⟨#[]⟩ 0 0 false false, .int .i64 2]) (by simp [results, Try.results29, go_sem, u0, u1, u2, u3, u4, toldV]) rfl ⟨rfl, hga⟩
      | exact bodyPost_ret (v := .tuple #[toldV ⟨#[]⟩ 0 0 false false, .int .i64 171]) (by simp [results, Try.results29, go_sem, u0, u1, u2, u3, u4, toldV]) rfl ⟨rfl, hga⟩

/-- File. -/
theorem file_p (h : Pv w T b L fs st i) (s : ByteArray) : Calls Try.prog 29 #[.pointer (some ⟨b, 0, none⟩), .string s] w fun e w' => e = .returned (.tuple #[(fileR L s).1, .int .i64 (fileR L s).2]) ∧ w.grownBy w' none := by
  letI FO : Inhabited (Nat → Prop) := ⟨T⟩
  obtain ⟨m, n, D, X, B, hI, hM, tm, tg⟩ := h.ex
  have hdk : ∀ W, w.grownBy W none → ∃ fo fn fc, Dk W b m fo fn fc st n D := fun W hW => (hI.ds.grown hW).dk
  cases hs : nameB s with
  | false =>
    have hF : fileR L s = (toldV ⟨#[]⟩ 0 0 false false, 2) := by unfold fileR; rw [if_pos hs]
    rw [hF]
    exact file_not 2 (.inl rfl) (fun W hW => by obtain ⟨fo, fn, fc, hd⟩ := hdk W hW; exact known_bad s hd.hd hs)
  | true =>
    cases ha : atN L s with
    | none =>
      have hF : fileR L s = (toldV ⟨#[]⟩ 0 0 false false, 171) := by unfold fileR; rw [if_neg (by simp [hs]), ha]
      rw [hF]
      refine file_not 171 (.inr rfl) (fun W hW => ?_)
      obtain ⟨fo, fn, fc, hd⟩ := hdk W hW
      obtain ⟨g', hg', hk⟩ := known_yes s hd hs
      obtain rfl := at_one ((hM s).at_none (lk_atN_none.1 ha)) hg'
      simpa using hk
    | some j =>
      obtain ⟨f, hf, hfs⟩ := atN_some ha
      have hF : fileR L s = (f.told, 0) := by unfold fileR; rw [if_neg (by simp [hs]), ha]; simp only [hf]
      rw [hF]
      obtain ⟨g, hg, r1, r2, r3, r4, r5⟩ := (hM s).at_some (by rw [lk_atN ha]; exact hf)
      have hfl := hI.fl s g hg
      unfold FlX at hfl
      rw [r1, r2, r3, r4] at hfl
      have := file_at s g hI.ds hs hg hfl
      unfold Rf.told
      rwa [hfs]

/-- Feed. -/
theorem feed_p (h : Pv w T b L fs st i) (hi : i ≤ 300) {o : Option Addr} {k c : Nat} {l : List (Int × Int)} (hf : Fx w o k c l) (hkc : k ≤ c) (hk : k ≤ 100) :
    Calls Try.prog 31 #[.pointer (some ⟨b, 0, none⟩), .slice o k c] w fun e w' => (fw l = false ∧ e = .returned (.int .i64 2) ∧ w.grownBy w' none) ∨ (fw l = true ∧ e = .returned (.int .i64 0) ∧ Pn w w' T b L (fs ++ l) st (i + 1)) := by
  obtain ⟨m, n, D, X, B, hI0, hM, tm, tg⟩ := h.ex
  have hI := Iv.owner (T' := fun k => T k ∨ w.heap.size ≤ k) hI0 (fun k hk _ => .inl hk)
  letI FO : Inhabited (Nat → Prop) := ⟨fun k => T k ∨ w.heap.size ≤ k⟩
  have hfl := hI.fsl
  have hlen := hf.len
  refine (feed_ds (fun q hq => (Or.inr hq : T q ∨ w.heap.size ≤ q)) hI.ds hf hkc (by omega) (by omega)).mono ?_
  rintro e w2 (⟨h0, rfl, hg⟩ | ⟨h0, rfl, hd, hc⟩)
  · exact .inl ⟨h0, rfl, hg⟩
  · refine .inr ⟨h0, rfl, Pn.mk (hI.fed hd (by simp; omega) hc) hM h.so (.inl tm) (fun s g hg => ⟨.inl (tg s g hg).1, fun q hq => .inl ((tg s g hg).2 q hq)⟩) (hc.mono (fun q hq e => ?_)) h.lt h.tb⟩
    rcases e with e | ⟨⟨_, e⟩, e2⟩
    · rw [e]; exact h.tb
    · rcases e with e | e
      · exact e
      · have := e2.lt; omega
end
end Go.Proofs.Ythkbakaodbceiaa

/-
  The program's Same, in the document's words.
-/
namespace Go.Proofs.Ythkbakaodbceiaa
open Go.RowKit Go.Maps Go.WideMaps Go.Sort Go.Shelf
set_option linter.unusedVariables false

section
variable {w w' : World} {b m b' m' : Nat} {fs fs' : List (Int × Int)} {st st' : Int} {n n' i i' : Nat} {D D' : DataW Unit} {X X' : Nat → Fm} {B B' : Nat → List UInt8} {T T' : Nat → Prop} {L K : List Rf} {s : ByteArray}

theorem lk_of_at (hM : ∀ s, Mt D X B s (lk L s)) {g : Nat} (hg : at? D s (some g)) : ∃ f, lk L s = some f ∧ (X g).bn = f.bs.length ∧ (X g).la = (f.la : Int) ∧ (X g).th = f.th ∧ (X g).nl = f.nl ∧ B g = f.bs := by
  cases hl : lk L s with
  | none => have := at_one hg ((hM s).at_none hl); cases this
  | some f =>
    obtain ⟨g', hg', r⟩ := (hM s).at_some hl
    obtain rfl : g = g' := by simpa using at_one hg hg'
    exact ⟨f, rfl, r⟩

theorem key_str (hm : Mp w m n D) {es : List (Lit × DataW Unit)} (hD : D = .map es) {p : Lit × DataW Unit} (hp : p ∈ es) : ∃ s : ByteArray, p.1 = .string s.data.toList := by
  obtain ⟨es', hD', hko⟩ := hm.keysOf
  rw [hD] at hD'
  obtain rfl : es = es' := by simpa using hD'
  obtain ⟨v, hv⟩ := hko p hp
  obtain ⟨x, _, hx, _⟩ := Maps.keyOf_str Try.underlying9 hv
  exact ⟨⟨x.toArray⟩, by simpa using hx⟩

theorem same_iff (hm : Mp w m n D) (hm' : Mp w m' n' D') (hz : Nz D) (hz' : Nz D') (hM : ∀ s, Mt D X B s (lk L s)) (hM' : ∀ s, Mt D' X' B' s (lk K s)) (hso : Srt L) (hso' : Srt K) :
    Lib.equalFuncD (eqdX fun g g' => sameM (X g).th (X' g').th (X g).nl (X' g').nl (X g).la (X' g').la (B g) (B' g')) D D' = true ↔ L = K := by
  have hl : Maps.size D = L.length := by
    have h9 := congrArg List.length (keys_sorted hm hz hM hso (List.Perm.refl (strKeys D)))
    rw [List.length_mergeSort, List.length_map] at h9
    rw [size_keys hm, h9]
  have hl' : Maps.size D' = K.length := by
    have h9 := congrArg List.length (keys_sorted hm' hz' hM' hso' (List.Perm.refl (strKeys D')))
    rw [List.length_mergeSort, List.length_map] at h9
    rw [size_keys hm', h9]
  obtain ⟨es, rfl, hap, hkeys⟩ := hm.entries (string_keyed Try.underlying9)
  have hE : Lib.entriesD (DataW.map es : DataW Unit) = es := rfl
  constructor
  · intro h
    unfold Lib.equalFuncD at h
    rw [Bool.and_eq_true, decide_eq_true_eq, hE, List.all_eq_true] at h
    obtain ⟨hs, hall⟩ := h
    have hin : ∀ f ∈ L, f ∈ K := fun f hf => by
      obtain ⟨g, hg, r1, r2, r3, r4, r5⟩ := (hM f.s).at_some (hso.lk_of hf)
      have hh := at_has hg
      have hp := came_mem hap hkeys (fun zd => (atKey_indep hh zd .nil).trans hg)
      have h1 := hall _ hp
      unfold Lib.goodD at h1
      rw [Bool.and_eq_true] at h1
      obtain ⟨g', hg', _⟩ := at_of_has hz' h1.1
      obtain ⟨f', l1, q1, q2, q3, q4, q5⟩ := lk_of_at hM' hg'
      have h2 := h1.2
      unfold at? at hg'
      rw [hg'] at h2
      simp only [eqdX, sameM, Int.toNat_natCast, Bool.and_eq_true, beq_iff_eq, decide_eq_true_eq] at h2
      have e : f' = f := by
        obtain ⟨s1, b1, a1, t1, n1⟩ := f
        obtain ⟨s2, b2, a2, t2, n2⟩ := f'
        have := lk_name l1
        simp only at *
        obtain ⟨y1, y2, y3, y4⟩ := h2
        have z3 : a2 = a1 := by omega
        have z1 : t2 = t1 := by rw [← q3, ← r3, y1]
        have z2 : n2 = n1 := by rw [← q4, ← r4, y2]
        have z4 : b2 = b1 := by rw [← q5, ← r5, y4]
        subst z1 z2 z3 z4
        rw [this]
      rw [← e]
      exact lk_mem l1
    refine two_lists (lt := fun (f g : Rf) => Ahead f.s g.s) (fun a => Ahead.irrefl _) (fun a b c => Ahead.trans) hso hso' (fun f => ⟨hin f, fun hf => ?_⟩)
    classical
    by_cases hfl : f ∈ L
    · exact hfl
    · exfalso
      have hnd : (f :: L).Pairwise (· ≠ ·) := List.pairwise_cons.2 ⟨fun g hg e => hfl (e ▸ hg), hso.imp (fun {a b} h e => h.ne (by rw [e]))⟩
      have := nodup_le (f :: L) K hnd (fun x hx => by rcases List.mem_cons.1 hx with rfl | hx; exact hf; exact hin x hx)
      simp at this
      omega
  · rintro rfl
    unfold Lib.equalFuncD
    rw [Bool.and_eq_true, decide_eq_true_eq, hE, List.all_eq_true]
    refine ⟨by omega, fun p hp => ?_⟩
    obtain ⟨x, hx⟩ := key_str hm rfl hp
    have hat : (DataW.map es : DataW Unit).atKey p.1 .nil = p.2 := WideAt.atKey_mem .nil (hkeys p hp) hap hp
    have hh := mem_has hkeys (List.mem_map.2 ⟨p, hp, rfl⟩ : p.1 ∈ es.map (·.1))
    rw [hx] at hat hh
    obtain ⟨g, hg, _⟩ := at_of_has hz hh
    obtain ⟨f, l1, q1, q2, q3, q4, q5⟩ := lk_of_at hM hg
    obtain ⟨g', hg', r1, r2, r3, r4, r5⟩ := (hM' x).at_some l1
    have h9 := hg
    unfold at? at h9
    rw [hat] at h9
    unfold Lib.goodD
    rw [hx, at_has hg', Bool.true_and, h9]
    unfold at? at hg'
    rw [hg']
    simp only [eqdX, sameM, Int.toNat_natCast, q2, q3, q4, q5, r2, r3, r4, r5]
    simp

/-- Same. -/
theorem same_p (h : Pv w T b L fs st i) (h' : Pv w T' b' K fs' st' i') : Calls Try.prog 36 #[.pointer (some ⟨b, 0, none⟩), .pointer (some ⟨b', 0, none⟩)] w fun e w' => ∃ r, e = .returned (.bool r) ∧ (r = true ↔ L = K) ∧ w.grownBy w' none := by
  obtain ⟨m, n, D, X, B, hI0, hM, tm, tg⟩ := h.ex
  obtain ⟨m', n', D', X', B', hI0', hM', tm', tg'⟩ := h'.ex
  have hI := Iv.owner (T' := fun k => T k ∨ T' k) hI0 (fun k hk _ => .inl hk)
  have hI' := Iv.owner (T' := fun k => T k ∨ T' k) hI0' (fun k hk _ => .inr hk)
  letI FO : Inhabited (Nat → Prop) := ⟨fun k => T k ∨ T' k⟩
  have heq : ∀ s g1 g2, at? D s (some g1) → at? D' s (some g2) → ∀ W, w.grownBy W none → Calls Try.prog 60 #[.pointer (some ⟨g1, 0, none⟩), .pointer (some ⟨g2, 0, none⟩)] W fun e w' => e = .returned (.bool ((fun g g' => sameM (X g).th (X' g').th (X g).nl (X' g').nl (X g).la (X' g').la (B g) (B' g')) g1 g2)) ∧ W.grownBy w' none := by
    intro s g1 g2 h1 h2 W hW
    have hc := Chg.of_grown hW (fun _ => False)
    exact fsame_any W g1 g2 _ _ _ _ _ _ _ _ _ _ _ _ _ _ ((hI.fl s g1 h1).chg hc (fun e => e)) ((hI'.fl s g2 h2).chg hc (fun e => e)) ((hI.ow s g1 h1).shows.grown hW) ((hI'.ow s g2 h2).shows.grown hW)
  refine (same_ds hI.ds hI'.ds hI.nz hI'.nz _ heq).mono ?_
  rintro e w2 ⟨rfl, hg⟩
  exact ⟨_, rfl, same_iff hI.ds.mp hI'.ds.mp hI.nz hI'.nz hM hM' h.so h'.so, hg⟩
end
end Go.Proofs.Ythkbakaodbceiaa

/-
  Picks that came in within something: of none of them nothing is said of where they lie.
-/
namespace Go.Proofs.Ythkbakaodbceiaa
open Go.RowKit
set_option linter.unusedVariables false

/-- Picks. -/
structure Ip (w : World) (o : Option Addr) (n : Nat) (l : List Int) : Prop where
  len : l.length = n
  k : ∀ i x, l[i]? = some x → ∃ q f, o = some ⟨q, f, none⟩ ∧ w.cell? ⟨q, f + i, none⟩ = some (.int .i64 x)
theorem Ip.chg {w w' : World} {o : Option Addr} {n : Nat} {l : List Int} {S : Nat → Prop} (h : Ip w o n l) (hc : Chg w w' S) (hS : ∀ a, o = some a → n = 0 ∨ ¬ S a.block) : Ip w' o n l :=
  ⟨h.len, fun i x hx => by
    obtain ⟨q, f, h1, h2⟩ := h.k i x hx
    have hi2 := (List.getElem?_eq_some_iff.1 hx).1
    have := h.len
    refine ⟨q, f, h1, hc.cell h2 ?_⟩
    rcases hS _ h1 with h3 | h3
    · omega
    · exact h3⟩
theorem Ip.grown {w w' : World} {o : Option Addr} {n : Nat} {l : List Int} (h : Ip w o n l) (hg : w.grownBy w' none) : Ip w' o n l := h.chg (Chg.of_grown hg (fun _ => False)) (fun _ _ => .inr (fun e => e))
end Go.Proofs.Ythkbakaodbceiaa

/-
  The document's Crash with a pick below nought.
-/
namespace Go.Proofs.Ythkbakaodbceiaa
open Go.RowKit
set_option linter.unusedVariables false

section
variable {w : World} {T : Nat → Prop} {rb : Nat} {L : List Rf} {fs : List (Int × Int)} {st : Int}

set_option maxRecDepth 100000 in
set_option maxHeartbeats 2000000 in
theorem crash_r_neg (o : Option Addr) (pn pc : Nat) (l : List Int) (hi : Ip w o pn l) (hpn : pn ≤ 1000000000000) (hneg : ¬ ∀ x ∈ l, 0 ≤ x) :
    Calls Try.prog 34 #[.pointer (some ⟨rb, 0, none⟩), .slice o pn pc] w fun e w' => e = .returned (.tuple #[.pointer none, .slice none 0 0, .slice none 0 0, .int .i64 2]) ∧ w' = w := by
  have hlen := hi.len
  have hcell : ∀ i x, l[i]? = some x → ∃ q f, o = some ⟨q, f, none⟩ ∧ w.cell? ⟨q, f + i, none⟩ = some (.int .i64 x) := hi.k
  have HN : Hid _ := hneg
  have HC : Hid _ := hcell
  clear hi hneg hcell
  go_enter Try.func34, Try.ntmps34
  go_wp2_with fail
  go_loopw [8] (fun i wr => ∃ k : Nat, i = .int .i64 k ∧ k ≤ pn ∧ w = wr ∧ Hid (∀ x ∈ l.take k, 0 ≤ x)) (fun i _ => pn - (intOf i).toNat)
  case atStart => exact ⟨0, rfl, Nat.zero_le _, rfl, (by show ∀ x ∈ l.take 0, 0 ≤ x; simp)⟩
  case round =>
    obtain ⟨k, rfl, hk, rfl, hall⟩ := hrel
    by_cases hlt : k < pn
    · have hdd : decide ((k : Int) < (pn : Int)) = true := by simp; omega
      obtain ⟨x, hx⟩ : ∃ x, l[k]? = some x := ⟨_, List.getElem?_eq_getElem (by omega)⟩
      obtain ⟨q, f, rfl, hq⟩ := HC.out k x hx
      have i1 : (0 : Int) ≤ (k : Int) := by omega
      have i2 : (k : Int) < (pn : Int) := by omega
      by_cases hx0 : x < 0
      · have hdx : decide (x < 0) = true := by simp; omega
        clear hx hall HC HN
        go_wp2
        exact bodyPost_ret (v := .tuple #[.pointer none, .slice none 0 0, .slice none 0 0, .int .i64 2]) (by simp [results, Try.results34, go_sem]) rfl ⟨rfl, rfl⟩
      · have hdx : decide (x < 0) = false := by simp; omega
        have hall2 : Hid (∀ x ∈ l.take (k + 1), 0 ≤ x) := (by
          show ∀ x ∈ l.take (k + 1), 0 ≤ x
          intro y hy
          rw [List.take_add_one, hx] at hy
          simp at hy
          rcases hy with hy | rfl
          · exact hall.out y hy
          · omega)
        clear hx hall HC HN
        go_wp2
        go_roundw
        case rel => exact ⟨k + 1, by go_num, by omega, by trivial, hall2⟩
        case measure => simp [intOf]; omega
    · obtain rfl : pn = k := by omega
      exfalso
      refine HN.out ?_
      have h9 := hall.out
      rwa [List.take_of_length_le (by omega)] at h9
end
end Go.Proofs.Ythkbakaodbceiaa
