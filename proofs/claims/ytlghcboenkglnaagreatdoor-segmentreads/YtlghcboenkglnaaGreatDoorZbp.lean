import Derived.Test.YtlghcboenkglnaaGreatDoorZbo
import Derived.Test.YtlghcboenkglnaaGreatDoorZbn
import Derived.Test.YtlghcboenkglnaaGreatDoorZay
/-
  The program's Read, File, Feed, in the document's words.
-/
namespace Go.Proofs.YtlghcboenkglnaaGreatDoor.Dsk
open Go.Proofs.YtlghcboenkglnaaGreatDoor
open Go.RowKit Go.Maps Go.WideMaps
set_option linter.unusedVariables false

section
variable {w w' : World} {b m base : Nat} {fs fs' : List (Int × Int)} {st st' : Int} {n i i' : Nat} {D : DataW Unit} {X : Nat → Fm} {B : Nat → List UInt8} {T T' : Nat → Prop} {L : List Rf} {s : ByteArray}

set_option maxRecDepth 100000 in
set_option maxHeartbeats 1000000 in
theorem read_out {g bn bc : Nat} {bo : Option Addr} {la : Int} {nl : Bool} (hfi : Calls Tryz.prog 72 #[.pointer (some ⟨b, 0, none⟩), .string s] w fun e w' => e = .returned (.tuple #[.pointer (some ⟨g, 0, none⟩), .int .i64 0]) ∧ w' = w) (hf : Fl w g bo bn bc la true nl) (a k : Int) (hr : readC bn a k = true) :
    Calls Tryz.prog 91 #[.pointer (some ⟨b, 0, none⟩), .string s, .int .i64 a, .int .i64 k] w fun e w' => e = .returned (.tuple #[.slice none 0 0, .int .i64 4]) ∧ w' = w := by
  have k0 := hf.c0
  unfold readC at hr
  clear hf
  cases d0 : decide (a < 0) with
  | true =>
    clear hr
    go_enter Tryz.func91, Tryz.ntmps91
    go_wp2_with fail
    refine hfi.mono ?_
    rintro e w1 ⟨rfl, rfl⟩
    go_wp2
    go_ret2
    exact ⟨rfl, rfl⟩
  | false =>
    cases d1 : decide ((bn : Int) < a) with
    | true =>
      clear hr
      go_enter Tryz.func91, Tryz.ntmps91
      go_wp2_with fail
      refine hfi.mono ?_
      rintro e w1 ⟨rfl, rfl⟩
      go_wp2
      go_ret2
      exact ⟨rfl, rfl⟩
    | false =>
      rw [d0, d1] at hr
      have d2 : decide (k < 0) = true := by simpa using hr
      clear hr
      go_enter Tryz.func91, Tryz.ntmps91
      go_wp2_with fail
      refine hfi.mono ?_
      rintro e w1 ⟨rfl, rfl⟩
      go_wp2
      go_ret2
      exact ⟨rfl, rfl⟩
set_option maxRecDepth 100000 in
set_option maxHeartbeats 1000000 in
theorem read_nil {g : Nat} {la : Int} {nl : Bool} (hfi : Calls Tryz.prog 72 #[.pointer (some ⟨b, 0, none⟩), .string s] w fun e w' => e = .returned (.tuple #[.pointer (some ⟨g, 0, none⟩), .int .i64 0]) ∧ w' = w) (hf : Fl w g none 0 0 la true nl) (k : Nat) (hk : k ≤ 9223372036854775807) :
    Calls Tryz.prog 91 #[.pointer (some ⟨b, 0, none⟩), .string s, .int .i64 0, .int .i64 k] w fun e w' => ∃ ao' cap', e = .returned (.tuple #[.slice ao' 0 cap', .int .i64 0]) ∧ Ow w' w.heap.size 5 ao' 0 cap' [] ∧ w.grownBy w' none := by
  have k0 := hf.c0
  have d3 : decide ((k : Int) < 0) = false := by simp
  have m0 : min (k : Int) 0 = 0 := by omega
  have hB := Bs.empty w
  clear hf
  go_enter Tryz.func91, Tryz.ntmps91
  go_wp2_with fail
  refine hfi.mono ?_
  clear hfi
  rintro e w1 ⟨rfl, rfl⟩
  go_wp2_with fail
  refine (clone_any _ _ _ _ _ hB (by omega)).mono ?_
  rintro e w2 ⟨ao', cap', rfl, ho, hg2⟩
  go_wp2
  go_ret2
  exact ⟨ao', cap', rfl, ho, hg2⟩
set_option maxRecDepth 100000 in
set_option maxHeartbeats 1000000 in
theorem read_in {g q o bn bc : Nat} {la : Int} {nl : Bool} (hfi : Calls Tryz.prog 72 #[.pointer (some ⟨b, 0, none⟩), .string s] w fun e w' => e = .returned (.tuple #[.pointer (some ⟨g, 0, none⟩), .int .i64 0]) ∧ w' = w) (hf : Fl w g (some ⟨q, o, none⟩) bn bc la true nl) (l : List UInt8) (hb : Bs w (some ⟨q, o, none⟩) bn bc l) (hsz : bn ≤ 140737488355328)
    (i k : Nat) (hi : i ≤ bn) (hk : k ≤ 9223372036854775807) :
    Calls Tryz.prog 91 #[.pointer (some ⟨b, 0, none⟩), .string s, .int .i64 i, .int .i64 k] w fun e w' => ∃ ao' cap', e = .returned (.tuple #[.slice ao' (min k (bn - i)) cap', .int .i64 0]) ∧ Ow w' w.heap.size 5 ao' (min k (bn - i)) cap' ((l.drop i).take k) ∧ w.grownBy w' none := by
  have k0 := hf.c0
  have hlen := hb.len
  have hroom := hb.room
  have htop := hb.top
  unfold maxLen at htop
  obtain ⟨c, hc⟩ : ∃ c, c = min k (bn - i) := ⟨_, rfl⟩
  have hcI : min (k : Int) ((bn : Int) - (i : Int)) = (c : Int) := by omega
  have d1 : decide ((i : Int) < 0) = false := by simp
  have d2 : decide ((bn : Int) < (i : Int)) = false := by simp; omega
  have d3 : decide ((k : Int) < 0) = false := by simp
  have b1 : (0 : Int) ≤ (i : Int) := by omega
  have b2 : (i : Int) ≤ (i : Int) + (c : Int) := by omega
  have b3 : (i : Int) + (c : Int) ≤ (bc : Int) := by omega
  rw [← hc]
  have hwd : IntKind.i64.wrap ((i : Int) + (c : Int)) = (i : Int) + (c : Int) := by rw [IntWalk.i64_in _ (by omega)]
  clear hf
  have hl : (l.drop i).take c = (l.drop i).take k := by
    rcases Nat.le_total k (bn - i) with h9 | h9
    · rw [show c = k by omega]
    · rw [List.take_of_length_le (by simp; omega), List.take_of_length_le (by simp; omega)]
  by_cases hic : i = bc
  · obtain rfl : bn = bc := by omega
    subst hic
    obtain rfl : c = 0 := by omega
    have hB := (hb.drop i (Nat.le_refl _) o (.inl (by omega))).take 0 (Nat.zero_le _)
    rw [Nat.sub_self, hl] at hB
    have m0 : min (k : Int) 0 = 0 := by omega
    clear hb hl hc
    go_enter Tryz.func91, Tryz.ntmps91
    go_wp2_with fail
    refine hfi.mono ?_
    clear hfi
    rintro e w1 ⟨rfl, rfl⟩
    go_wp2_with fail
    refine (clone_any _ _ _ _ _ hB (by omega)).mono ?_
    rintro e w2 ⟨ao', cap', rfl, ho, hg2⟩
    go_wp2
    go_ret2
    exact ⟨ao', cap', rfl, ho, hg2⟩
  · have hB := (hb.drop i hi (o + i) (.inr rfl)).take c (by omega)
    rw [hl] at hB
    have hic2 : i < bc := by omega
    have hic3 : (i : Int) < (bc : Int) := by omega
    clear hb hl hc hic
    go_enter Tryz.func91, Tryz.ntmps91
    go_wp2_with fail
    refine hfi.mono ?_
    clear hfi
    rintro e w1 ⟨rfl, rfl⟩
    go_wp2_with fail
    refine (clone_any _ _ _ _ _ hB (by omega)).mono ?_
    rintro e w2 ⟨ao', cap', rfl, ho, hg2⟩
    go_wp2
    go_ret2
    exact ⟨ao', cap', rfl, ho, hg2⟩
/-- What Read answers: the bytes and the error. -/
def readL (L : List Rf) (s : ByteArray) (a k : Int) : List UInt8 × Int :=
  if (findR L s).2 ≠ 0 then ([], (findR L s).2) else match lk L s with
    | none => ([], 4)
    | some f => if readC f.bs.length a k = true then ([], 4) else ((f.bs.drop a.toNat).take k.toNat, 0)
theorem find_or (L : List Rf) (s : ByteArray) : (findR L s).2 ≠ 0 ∨ ∃ j f, Hit L s j f ∧ lk L s = some f ∧ (findR L s).2 = 0 := by
  unfold findR
  cases hs : nameB s with
  | false => left; simp
  | true =>
    rw [if_neg (by simp)]
    cases ha : atN L s with
    | none => left; simp
    | some j =>
      obtain ⟨f, hf, hfs⟩ := atN_some ha
      simp only [hf, Option.map_some]
      by_cases ht : f.th = true
      · right
        exact ⟨j, f, ⟨hs, ha, hf, ht⟩, by rw [lk_atN ha]; exact hf, by simp [ht]⟩
      · left
        rw [if_neg (by simpa using ht)]
        simp
/-- Read. -/
theorem read_p (h : Pv w T b L fs st i) (hi : i ≤ 4000) (s : ByteArray) (a k : Int) (hk : k ≤ 9223372036854775807) :
    Calls Tryz.prog 91 #[.pointer (some ⟨b, 0, none⟩), .string s, .int .i64 a, .int .i64 k] w fun e w' => ∃ ao nn cap, e = .returned (.tuple #[.slice ao nn cap, .int .i64 (readL L s a k).2]) ∧ Ow w' w.heap.size 5 ao nn cap (readL L s a k).1 ∧ w.grownBy w' none := by
  rcases find_or L s with hc | ⟨j, f, hh, hlk, hc⟩
  · have hR : readL L s a k = ([], (findR L s).2) := by unfold readL; rw [if_pos hc]
    rw [hR]
    refine (read_lost (h.lost s hc) a k).mono ?_
    rintro e w2 ⟨rfl, rfl⟩
    exact ⟨none, 0, 0, rfl, Ow.nil _ _ _, grown_refl _ _⟩
  · have hR : readL L s a k = if readC f.bs.length a k = true then ([], 4) else ((f.bs.drop a.toNat).take k.toNat, 0) := by unfold readL; rw [if_neg (by simp [hc]), hlk]
    rw [hR]
    letI FO : Inhabited (Nat → Prop) := ⟨T⟩
    obtain ⟨m, n, D, X, B, hI, hM, tm, tg⟩ := h.ex
    obtain ⟨g, bo, bc, hg, hX, hB, hf, hla, hbn, ho, hbb, hbg, hne⟩ := Iv.hit hI hM hh
    have hfi := find_ds s g hI.ds hh.nm hg hf
    cases hr : readC f.bs.length a k with
    | true =>
      simp only [if_true]
      refine (read_out hfi hf a k hr).mono ?_
      rintro e w2 ⟨rfl, rfl⟩
      exact ⟨none, 0, 0, rfl, Ow.nil _ _ _, grown_refl _ _⟩
    | false =>
      rw [if_neg (by simp)]
      unfold readC at hr
      simp only [Bool.or_eq_false_iff, decide_eq_false_iff_not] at hr
      obtain ⟨a1, a2, a3⟩ := hr
      obtain ⟨a', rfl⟩ : ∃ a' : Nat, a = a' := ⟨a.toNat, by omega⟩
      obtain ⟨k', rfl⟩ : ∃ k' : Nat, k = k' := ⟨k.toNat, by omega⟩
      simp only [Int.toNat_natCast]
      rcases ho.row.2 with ⟨h4, h5⟩ | ⟨q, c, cs, h4, _⟩
      · injection h4 with e1 e2 e3
        subst e1
        subst e3
        obtain rfl : a' = 0 := by omega
        rw [h5] at hf
        have e9 : f.bs = [] := List.length_eq_zero_iff.1 h5
        rw [e9]
        refine (read_nil hfi hf k' (by omega)).mono ?_
        rintro e w2 ⟨ao, cap, rfl, h1, h2⟩
        exact ⟨ao, 0, cap, rfl, by simpa using h1, h2⟩
      · injection h4 with e1 e2 e3
        subst e1
        refine (read_in hfi hf f.bs ho.shows (by omega) a' k' (by omega) (by omega)).mono ?_
        rintro e w2 ⟨ao, cap, rfl, h1, h2⟩
        exact ⟨ao, _, cap, rfl, h1, h2⟩
set_option maxRecDepth 100000 in
theorem file_not (fe : Int) (hfe : fe = 2 ∨ fe = 171) (hk : ∀ W, w.grownBy W none → Calls Tryz.prog 85 #[.pointer (some ⟨b, 0, none⟩), .string s] W fun e w' => e = .returned (.tuple #[.pointer none, .int .i64 fe]) ∧ w' = W) : Calls Tryz.prog 36 #[.pointer (some ⟨b, 0, none⟩), .string s] w fun e w' => e = .returned (.tuple #[toldV ⟨#[]⟩ 0 0 false false, .int .i64 fe]) ∧ w.grownBy w' none := by
  have hga := alloc_grown w (.cells #[.string ⟨#[]⟩, .int .i64 0, .int .i64 0, .bool false, .bool false] 82)
  have hka := World.alloc_heap_new w (.cells #[.string ⟨#[]⟩, .int .i64 0, .int .i64 0, .bool false, .bool false] 82)
  have hkn := hk _ hga
  have HK : Hid _ := hka
  clear hk hka
  unfold toldV
  rcases hfe with rfl | rfl <;>
  · go_enter Tryz.func36, Tryz.ntmps36
    go_wp2_with fail
    refine hkn.mono ?_
    rintro e w1 ⟨rfl, hw1⟩
    subst hw1
    go_wp2
    have kk := HK.out
    generalize w.alloc (.cells #[.string ⟨#[]⟩, .int .i64 0, .int .i64 0, .bool false, .bool false] 82) = W at *
    have u0 := cell_of (i := 0) (v := .string ⟨#[]⟩) kk rfl
    have u1 := cell_of (i := 1) (v := .int .i64 0) kk rfl
    have u2 := cell_of (i := 2) (v := .int .i64 0) kk rfl
    have u3 := cell_of (i := 3) (v := .bool false) kk rfl
    have u4 := cell_of (i := 4) (v := .bool false) kk rfl
    first
      | exact bodyPost_ret (v := .tuple #[toldV ⟨#[]⟩ 0 0 false false, .int .i64 2]) (by simp [results, Tryz.results36, go_sem, u0, u1, u2, u3, u4, toldV]) rfl ⟨rfl, hga⟩
      | exact bodyPost_ret (v := .tuple #[toldV ⟨#[]⟩ 0 0 false false, .int .i64 171]) (by simp [results, Tryz.results36, go_sem, u0, u1, u2, u3, u4, toldV]) rfl ⟨rfl, hga⟩
/-- File. -/
theorem file_p (h : Pv w T b L fs st i) (s : ByteArray) : Calls Tryz.prog 36 #[.pointer (some ⟨b, 0, none⟩), .string s] w fun e w' => e = .returned (.tuple #[(fileR L s).1, .int .i64 (fileR L s).2]) ∧ w.grownBy w' none := by
  letI FO : Inhabited (Nat → Prop) := ⟨T⟩
  obtain ⟨m, n, D, X, B, hI, hM, tm, tg⟩ := h.ex
  have hdk : ∀ W, w.grownBy W none → ∃ fo fn fc, Dk W b m fo fn fc st n D := fun W hW => (hI.ds.grown hW).dk
  cases hs : nameB s with
  | false =>
    have hF : fileR L s = (toldV ⟨#[]⟩ 0 0 false false, 2) := by unfold fileR; rw [if_pos hs]
    rw [hF]
    exact file_not 2 (.inl rfl) (fun W hW => by obtain ⟨fo, fn, fc, hd⟩ := hdk W hW; exact known_bad s hd.hd hs)
  | true =>
    cases ha : atN L s with
    | none =>
      have hF : fileR L s = (toldV ⟨#[]⟩ 0 0 false false, 171) := by unfold fileR; rw [if_neg (by simp [hs]), ha]
      rw [hF]
      refine file_not 171 (.inr rfl) (fun W hW => ?_)
      obtain ⟨fo, fn, fc, hd⟩ := hdk W hW
      obtain ⟨g', hg', hk⟩ := known_yes s hd hs
      obtain rfl := at_one ((hM s).at_none (lk_atN_none.1 ha)) hg'
      simpa using hk
    | some j =>
      obtain ⟨f, hf, hfs⟩ := atN_some ha
      have hF : fileR L s = (f.told, 0) := by unfold fileR; rw [if_neg (by simp [hs]), ha]; simp only [hf]
      rw [hF]
      obtain ⟨g, hg, r1, r2, r3, r4, r5⟩ := (hM s).at_some (by rw [lk_atN ha]; exact hf)
      have hfl := hI.fl s g hg
      unfold FlX at hfl
      rw [r1, r2, r3, r4] at hfl
      have := file_at s g hI.ds hs hg hfl
      unfold Rf.told
      rwa [hfs]
end
end Go.Proofs.YtlghcboenkglnaaGreatDoor.Dsk

/-
  A file in which nothing is found yet.
-/
namespace Go.Proofs.YtlghcboenkglnaaGreatDoor
open Go.RowKit
set_option linter.unusedVariables false

section
variable {w w' : World} {d i : Nat} {fs : List (Int × Int)} {st : Int} {T : Nat → Prop} {L : List Dsk.Rf}
set_option maxRecDepth 100000 in
theorem smade_yes (h : Dsk.Pv w T d L fs st i) : Calls Tryz.prog 96 #[.pointer (some ⟨d, 0, none⟩)] w fun e w' => e = .returned (.bool true) ∧ w.grownBy w' none := by
  have hF : Dsk.fileR L ⟨#[]⟩ = (Dsk.toldV ⟨#[]⟩ 0 0 false false, 2) := by unfold Dsk.fileR; rw [if_pos (by decide)]
  have hfp := Dsk.file_p h ⟨#[]⟩
  rw [hF] at hfp
  unfold Dsk.toldV at hfp
  go_enter Tryz.func96, Tryz.ntmps96
  go_wp2_with fail
  refine hfp.mono ?_
  rintro e w1 ⟨rfl, hg1⟩
  go_wp2
  go_ret
  exact ⟨rfl, grown_trans hg1 (alloc_grown _ _) (by simp)⟩
set_option maxRecDepth 100000 in
set_option maxHeartbeats 2000000 in
/-- fileOf. -/
theorem fileOf_ok (h : Dsk.Pv w T d L fs st i) (s a : ByteArray) (x : Nat) (step : Int) (hp : parseV s = .tuple #[.string a, .int .i64 (x : Int), .bool true]) (hs : s.size ≤ maxLen) (h1 : 1 ≤ step) (h2 : step ≤ 16777216) :
    Calls Tryz.prog 50 #[.pointer (some ⟨d, 0, none⟩), .string s, .int .i64 step] w fun e w' => ∃ b, e = .returned (.tuple #[(⟨0, x, 0, 150, d, s, x, b⟩ : Fi).val, .int .i64 0]) ∧ Xu w' (Dsk.Nw w w') b step [] ∧ w.grownBy w' none := by
  have hg0 := alloc_grown w Z8
  have hpa := fun W => parse_any W s hs
  rw [hp] at hpa
  go_enter Tryz.func50, Tryz.ntmps50
  go_wp2_with fail
  refine (smade_yes (h.grown hg0)).mono ?_
  rintro e w1 ⟨rfl, hg1⟩
  go_wp2_with fail
  refine (hpa _).mono ?_
  rintro e w2 ⟨rfl, hg2⟩
  go_wp2_with fail
  refine (Idx.new_ok _ step h1 h2).mono ?_
  rintro e w3 ⟨b, rfl, hX, hg3⟩
  have hgA := grown_trans (grown_trans hg1 hg2 (by simp)) hg3 (by simp)
  have hk := heap_kept hgA (World.alloc_heap_new w Z8) (by simp)
  have v0 := cell_at hk (i := 0)
  have v1 := cell_at hk (i := 1)
  have v2 := cell_at hk (i := 2)
  have v3 := cell_at hk (i := 3)
  have v4 := cell_at hk (i := 4)
  have v5 := cell_at hk (i := 5)
  have v6 := cell_at hk (i := 6)
  have v7 := cell_at hk (i := 7)
  simp only [List.getElem?_toArray, List.getElem?_cons_zero, List.getElem?_cons_succ] at v0 v1 v2 v3 v4 v5 v6 v7
  have f0 := fz_at hk 0
  have f1 := fz_at hk 1
  have f2 := fz_at hk 2
  have f3 := fz_at hk 3
  have f4 := fz_at hk 4
  have f5 := fz_at hk 5
  have f6 := fz_at hk 6
  have f7 := fz_at hk 7
  go_wp2
  obtain ⟨W, hW, hWk, hWc⟩ := put8 (.int .i64 0) (.int .i64 x) (.int .i64 0) (.int .i64 150) (.pointer (some ⟨d, 0, none⟩)) (.string s) (.int .i64 x) (.pointer (some ⟨b, 0, none⟩)) hk
  rw [← hW]
  have hs1 := (grown_trans hg1 hg2 (by simp)).size
  have hs0 : w.heap.size < (w.alloc Z8).heap.size := by simp
  have c0 := cell_at hWk (i := 0)
  have c1 := cell_at hWk (i := 1)
  have c2 := cell_at hWk (i := 2)
  have c3 := cell_at hWk (i := 3)
  have c4 := cell_at hWk (i := 4)
  have c5 := cell_at hWk (i := 5)
  have c6 := cell_at hWk (i := 6)
  have c7 := cell_at hWk (i := 7)
  simp only [List.getElem?_toArray, List.getElem?_cons_zero, List.getElem?_cons_succ] at c0 c1 c2 c3 c4 c5 c6 c7
  clear v0 v1 v2 v3 v4 v5 v6 v7 f0 f1 f2 f3 f4 f5 f6 f7
  refine bodyPost_ret (v := .tuple #[(⟨0, x, 0, 150, d, s, x, b⟩ : Fi).val, .int .i64 0]) (by simp [results, Tryz.results50, go_sem, c0, c1, c2, c3, c4, c5, c6, c7, Fi.val, Fi.cells]) rfl ⟨b, rfl, ?_, grown_chg (grown_trans hg0 hgA (by simp)) hWc (fun k e => by omega)⟩
  have hX2 := hX.chg hWc (fun k h1 h2 e => by omega)
  exact Xu.of hX2 (by omega)
end
end Go.Proofs.YtlghcboenkglnaaGreatDoor

/-
  Picks that came in within something: of none of them nothing is said of where they lie.
-/
namespace Go.Proofs.YtlghcboenkglnaaGreatDoor.Dsk
open Go.Proofs.YtlghcboenkglnaaGreatDoor
open Go.RowKit
set_option linter.unusedVariables false

/-- Picks. -/
structure Ip (w : World) (o : Option Addr) (n : Nat) (l : List Int) : Prop where
  len : l.length = n
  k : ∀ i x, l[i]? = some x → ∃ q f, o = some ⟨q, f, none⟩ ∧ w.cell? ⟨q, f + i, none⟩ = some (.int .i64 x)
theorem Ip.chg {w w' : World} {o : Option Addr} {n : Nat} {l : List Int} {S : Nat → Prop} (h : Ip w o n l) (hc : Chg w w' S) (hS : ∀ a, o = some a → n = 0 ∨ ¬ S a.block) : Ip w' o n l :=
  ⟨h.len, fun i x hx => by
    obtain ⟨q, f, h1, h2⟩ := h.k i x hx
    have hi2 := (List.getElem?_eq_some_iff.1 hx).1
    have := h.len
    refine ⟨q, f, h1, hc.cell h2 ?_⟩
    rcases hS _ h1 with h3 | h3
    · omega
    · exact h3⟩
theorem Ip.grown {w w' : World} {o : Option Addr} {n : Nat} {l : List Int} (h : Ip w o n l) (hg : w.grownBy w' none) : Ip w' o n l := h.chg (Chg.of_grown hg (fun _ => False)) (fun _ _ => .inr (fun e => e))
end Go.Proofs.YtlghcboenkglnaaGreatDoor.Dsk

/-
  Calls on both disks, in one word.
-/
namespace Go.Proofs.YtlghcboenkglnaaGreatDoor.Dsk
open Go.Proofs.YtlghcboenkglnaaGreatDoor
open Go.RowKit Go.Maps Go.WideMaps
set_option linter.unusedVariables false

/-- What a call answers and leaves. -/
structure An where
  c : Int
  L : List Rf
  fs : List (Int × Int)
  st : Int
section
variable {w w' : World} {b rb i : Nat} {fs : List (Int × Int)} {st : Int} {T U : Nat → Prop} {L : List Rf} {s : ByteArray}

def hitA (L : List Rf) (fs : List (Int × Int)) (st : Int) (s : ByteArray) (k : Nat → Rf → An) : An :=
  if (findR L s).2 ≠ 0 then ⟨(findR L s).2, L, fs, st⟩ else match atN L s with
    | none => ⟨0, L, fs, st⟩
    | some j => match L[j]? with | none => ⟨0, L, fs, st⟩ | some f => k j f
theorem hitA_lost (k : Nat → Rf → An) (hc : (findR L s).2 ≠ 0) : hitA L fs st s k = ⟨(findR L s).2, L, fs, st⟩ := by unfold hitA; rw [if_pos hc]
theorem hitA_hit (k : Nat → Rf → An) {j : Nat} {f : Rf} (hh : Hit L s j f) : hitA L fs st s k = k j f := by
  unfold hitA
  rw [hh.find, if_neg (by simp), hh.at']
  simp only [hh.get]
def creA (L : List Rf) (fs : List (Int × Int)) (st : Int) (s : ByteArray) : An := ⟨(creL L fs s).1, (creL L fs s).2.2, if (creL L fs s).2.1 then fs.tail else fs, if (creL L fs s).2.1 then st + 1 else st⟩
def appA (L : List Rf) (fs : List (Int × Int)) (st : Int) (s : ByteArray) (x : List UInt8) : An := hitA L fs st s fun j f => ⟨(stepR fs (x.length : Int)).2, L.set j { f with bs := f.bs ++ x.take (stepR fs (x.length : Int)).1.toNat }, fs.tail, st + 1⟩
theorem step_nat (fs : List (Int × Int)) (z : Nat) : (stepR fs (z : Int)).1 = ((stepR fs (z : Int)).1.toNat : Int) ∧ (stepR fs (z : Int)).1.toNat ≤ z := by
  obtain ⟨j, h1, h2⟩ := stepR_le fs z
  rw [h1]
  simpa using h2
/-- What the program's call leaves. -/
def PA (w : World) (T : Nat → Prop) (b i : Nat) (A : An) (e : Ending) (w' : World) : Prop := e = .returned (.int .i64 A.c) ∧ Pn w w' T b A.L A.fs A.st (i + 1)
theorem Rn.refl (h : Rv w U rb L fs st) : Rn w w U rb L fs st := Rn.of h (Chg.refl _ _)
theorem cre_P (h : Pv w T b L fs st i) (hi : i < 4000) (s : ByteArray) : Calls Tryz.prog 51 #[.pointer (some ⟨b, 0, none⟩), .string s] w (PA w T b i (creA L fs st s)) := create_p h hi s
/-! Files that may come back last, behind each call. -/
theorem Gd.set (h : Gd L) {j : Nat} {f : Rf} (hf : f.la ≤ f.bs.length) (ht : f.th = false → f.la = f.bs.length) : Gd (L.set j f) := fun g hg => by
  rcases List.mem_or_eq_of_mem_set hg with h1 | rfl
  · exact h g h1
  · exact ⟨hf, ht⟩
end
end Go.Proofs.YtlghcboenkglnaaGreatDoor.Dsk

/-
  Create.
-/
namespace Go.Proofs.YtlghcboenkglnaaGreatDoor
open Go.RowKit
set_option linter.unusedVariables false

/-- A segment, its disk (whose memory is T) and its index (whose memory is U). -/
structure Sg (w : World) (T U : Nat → Prop) (s : Nat) (f : Fi) (step : Int) (l : List Idx.Sd) (L : List Dsk.Rf) (fs : List (Int × Int)) (st : Int) (i : Nat) : Prop where
  seg : Lf w s 104 f
  dk : Dsk.Pv w T f.d L fs st i
  ix : Xu w U f.x step l
  tu : ∀ k, T k → ¬ U k
  ts : ¬ T s
  us : ¬ U s
section
variable {w w' : World} {d i : Nat} {fs : List (Int × Int)} {st : Int} {T U : Nat → Prop} {L : List Dsk.Rf}
theorem Sg.chg {S : Nat → Prop} {s : Nat} {f : Fi} {step : Int} {l : List Idx.Sd} (h : Sg w T U s f step l L fs st i) (hc : Chg w w' S) (h1 : ¬ S s) (h2 : ∀ k, T k → ¬ S k) (h3 : ∀ k, U k → ¬ S k) : Sg w' T U s f step l L fs st i :=
  ⟨h.seg.chg hc h1, h.dk.chg hc h2, h.ix.chg hc h3, h.tu, h.ts, h.us⟩
theorem Sg.grown {s : Nat} {f : Fi} {step : Int} {l : List Idx.Sd} (h : Sg w T U s f step l L fs st i) (hg : w.grownBy w' none) : Sg w' T U s f step l L fs st i := h.chg (Chg.of_grown hg (fun _ => False)) (fun e => e) (fun _ _ e => e) (fun _ _ e => e)

set_option maxRecDepth 100000 in
set_option maxHeartbeats 2000000 in
theorem fileOf_none (h : Dsk.Pv w T d L fs st i) (s : ByteArray) (step : Int) (hp : parseV s = .tuple #[.string ⟨#[]⟩, .int .i64 0, .bool false]) (hs : s.size ≤ maxLen) :
    Calls Tryz.prog 50 #[.pointer (some ⟨d, 0, none⟩), .string s, .int .i64 step] w fun e w' => e = .returned (.tuple #[file0, .int .i64 2]) ∧ w.grownBy w' none := by
  have hg0 := alloc_grown w Z8
  have hpa := fun W => parse_any W s hs
  rw [hp] at hpa
  have hx : ∀ W, Calls Tryz.prog 97 #[.int .i64 step] W fun e w' => (∃ p c, e = .returned (.tuple #[.pointer p, .int .i64 c])) ∧ W.grownBy w' none := fun W => by
    by_cases hb : step < 1 ∨ 16777216 < step
    · exact (Idx.new_bad W step hb).mono fun e w' q => ⟨⟨_, _, q.1⟩, by rw [q.2]; exact World.grownBy.refl _ _⟩
    · exact (Idx.new_ok W step (by omega) (by omega)).mono fun e w' ⟨b, q, _, g⟩ => ⟨⟨_, _, q⟩, g⟩
  go_enter Tryz.func50, Tryz.ntmps50
  go_wp2_with fail
  refine (smade_yes (h.grown hg0)).mono ?_
  rintro e w1 ⟨rfl, hg1⟩
  go_wp2_with fail
  refine (hpa _).mono ?_
  rintro e w2 ⟨rfl, hg2⟩
  go_wp2_with fail
  refine (hx _).mono ?_
  rintro e w3 ⟨⟨p, c, rfl⟩, hg3⟩
  have hgA := grown_trans (grown_trans hg1 hg2 (by simp)) hg3 (by simp)
  have hk := heap_kept hgA (World.alloc_heap_new w Z8) (by simp)
  have v0 := cell_at hk (i := 0)
  have v1 := cell_at hk (i := 1)
  have v2 := cell_at hk (i := 2)
  have v3 := cell_at hk (i := 3)
  have v4 := cell_at hk (i := 4)
  have v5 := cell_at hk (i := 5)
  have v6 := cell_at hk (i := 6)
  have v7 := cell_at hk (i := 7)
  simp only [List.getElem?_toArray, List.getElem?_cons_zero, List.getElem?_cons_succ] at v0 v1 v2 v3 v4 v5 v6 v7
  have f0 := fz_at hk 0
  have f1 := fz_at hk 1
  have f2 := fz_at hk 2
  have f3 := fz_at hk 3
  have f4 := fz_at hk 4
  have f5 := fz_at hk 5
  have f6 := fz_at hk 6
  have f7 := fz_at hk 7
  go_wp2
  obtain ⟨W, hW, hWk, hWc⟩ := put8 (.int .i64 0) (.int .i64 0) (.int .i64 0) (.int .i64 0) (.pointer none) (.string ⟨#[]⟩) (.int .i64 0) (.pointer none) hk
  rw [← hW]
  have hs0 : w.heap.size < (w.alloc Z8).heap.size := by simp
  have c0 := cell_at hWk (i := 0)
  have c1 := cell_at hWk (i := 1)
  have c2 := cell_at hWk (i := 2)
  have c3 := cell_at hWk (i := 3)
  have c4 := cell_at hWk (i := 4)
  have c5 := cell_at hWk (i := 5)
  have c6 := cell_at hWk (i := 6)
  have c7 := cell_at hWk (i := 7)
  simp only [List.getElem?_toArray, List.getElem?_cons_zero, List.getElem?_cons_succ] at c0 c1 c2 c3 c4 c5 c6 c7
  clear v0 v1 v2 v3 v4 v5 v6 v7 f0 f1 f2 f3 f4 f5 f6 f7
  exact bodyPost_ret (v := .tuple #[file0, .int .i64 2]) (by simp [results, Tryz.results50, go_sem, c0, c1, c2, c3, c4, c5, c6, c7, file0]) rfl ⟨rfl, grown_chg (grown_trans hg0 hgA (by simp)) hWc (fun k e => by omega)⟩
set_option maxRecDepth 100000 in
set_option maxHeartbeats 2000000 in
theorem fileOf_step (h : Dsk.Pv w T d L fs st i) (s : ByteArray) (step : Int) (a : ByteArray) (x : Int) (hp : parseV s = .tuple #[.string a, .int .i64 x, .bool true]) (hb : step < 1 ∨ 16777216 < step) (hs : s.size ≤ maxLen) :
    Calls Tryz.prog 50 #[.pointer (some ⟨d, 0, none⟩), .string s, .int .i64 step] w fun e w' => e = .returned (.tuple #[file0, .int .i64 2]) ∧ w.grownBy w' none := by
  have hg0 := alloc_grown w Z8
  have hpa := fun W => parse_any W s hs
  rw [hp] at hpa
  have hx : ∀ W, Calls Tryz.prog 97 #[.int .i64 step] W fun e w' => (e = .returned (.tuple #[.pointer none, .int .i64 2])) ∧ W.grownBy w' none := fun W => (Idx.new_bad W step hb).mono fun e w' q => ⟨q.1, by rw [q.2]; exact World.grownBy.refl _ _⟩
  go_enter Tryz.func50, Tryz.ntmps50
  go_wp2_with fail
  refine (smade_yes (h.grown hg0)).mono ?_
  rintro e w1 ⟨rfl, hg1⟩
  go_wp2_with fail
  refine (hpa _).mono ?_
  rintro e w2 ⟨rfl, hg2⟩
  go_wp2_with fail
  refine (hx _).mono ?_
  rintro e w3 ⟨rfl, hg3⟩
  have hgA := grown_trans (grown_trans hg1 hg2 (by simp)) hg3 (by simp)
  have hk := heap_kept hgA (World.alloc_heap_new w Z8) (by simp)
  have v0 := cell_at hk (i := 0)
  have v1 := cell_at hk (i := 1)
  have v2 := cell_at hk (i := 2)
  have v3 := cell_at hk (i := 3)
  have v4 := cell_at hk (i := 4)
  have v5 := cell_at hk (i := 5)
  have v6 := cell_at hk (i := 6)
  have v7 := cell_at hk (i := 7)
  simp only [List.getElem?_toArray, List.getElem?_cons_zero, List.getElem?_cons_succ] at v0 v1 v2 v3 v4 v5 v6 v7
  have f0 := fz_at hk 0
  have f1 := fz_at hk 1
  have f2 := fz_at hk 2
  have f3 := fz_at hk 3
  have f4 := fz_at hk 4
  have f5 := fz_at hk 5
  have f6 := fz_at hk 6
  have f7 := fz_at hk 7
  go_wp2
  obtain ⟨W, hW, hWk, hWc⟩ := put8 (.int .i64 0) (.int .i64 0) (.int .i64 0) (.int .i64 0) (.pointer none) (.string ⟨#[]⟩) (.int .i64 0) (.pointer none) hk
  rw [← hW]
  have hs0 : w.heap.size < (w.alloc Z8).heap.size := by simp
  have c0 := cell_at hWk (i := 0)
  have c1 := cell_at hWk (i := 1)
  have c2 := cell_at hWk (i := 2)
  have c3 := cell_at hWk (i := 3)
  have c4 := cell_at hWk (i := 4)
  have c5 := cell_at hWk (i := 5)
  have c6 := cell_at hWk (i := 6)
  have c7 := cell_at hWk (i := 7)
  simp only [List.getElem?_toArray, List.getElem?_cons_zero, List.getElem?_cons_succ] at c0 c1 c2 c3 c4 c5 c6 c7
  clear v0 v1 v2 v3 v4 v5 v6 v7 f0 f1 f2 f3 f4 f5 f6 f7
  exact bodyPost_ret (v := .tuple #[file0, .int .i64 2]) (by simp [results, Tryz.results50, go_sem, c0, c1, c2, c3, c4, c5, c6, c7, file0]) rfl ⟨rfl, grown_chg (grown_trans hg0 hgA (by simp)) hWc (fun k e => by omega)⟩
set_option maxRecDepth 100000 in
set_option maxHeartbeats 2000000 in
/-- Create: what may not be. -/
theorem create_arg (h : Dsk.Pv w T d L fs st i) (s : ByteArray) (x step : Int) (hb : logB s = false ∨ x < 0 ∨ 9007199254740992 < x ∨ step < 1 ∨ 16777216 < step) :
    Calls Tryz.prog 12 #[.pointer (some ⟨d, 0, none⟩), .string s, .int .i64 x, .int .i64 step] w fun e w' => e = .returned (.tuple #[.pointer none, .int .i64 2]) ∧ w.grownBy w' none := by
  have hnm : ∃ n a y k, (Calls Tryz.prog 41 #[.string s, .int .i64 x] w fun e w' => e = .returned (.tuple #[.string n, .int .i64 k]) ∧ w.grownBy w' none) ∧ n.size ≤ maxLen ∧ (parseV n = .tuple #[.string ⟨#[]⟩, .int .i64 0, .bool false] ∨ parseV n = .tuple #[.string a, .int .i64 y, .bool true] ∧ (step < 1 ∨ 16777216 < step)) := by
    by_cases hn : logB s = false ∨ x < 0 ∨ 9007199254740992 < x
    · exact ⟨_, ⟨#[]⟩, 0, _, (name_bad w s x hn).mono fun e w' q => ⟨q.1, by rw [q.2]; exact World.grownBy.refl _ _⟩, by decide, .inl parseV_none⟩
    · obtain ⟨y, rfl⟩ : ∃ y : Nat, x = y := ⟨x.toNat, by omega⟩
      have hl : logB s = true := by cases hh : logB s <;> simp_all
      have hz : s.size ≤ 8 := by unfold logB at hl; simp at hl; omega
      exact ⟨segN s y, s, y, 0, name_ok w s y hl (by omega), by rw [segN_size]; unfold maxLen; omega, .inr ⟨parseV_name hl (by omega), by rcases hb with hb | hb | hb | hb <;> first | omega | (rw [hl] at hb; cases hb)⟩⟩
  obtain ⟨n, a, y, k, hn, hsz, hp⟩ := hnm
  have hf : ∀ W, w.grownBy W none → Calls Tryz.prog 50 #[.pointer (some ⟨d, 0, none⟩), .string n, .int .i64 step] W fun e w' => e = .returned (.tuple #[file0, .int .i64 2]) ∧ W.grownBy w' none := fun W hW => by
    rcases hp with hp | ⟨hp, hb2⟩
    · exact fileOf_none (h.grown hW) n step hp hsz
    · exact fileOf_step (h.grown hW) n step a y hp hb2 hsz
  unfold file0 at hf
  go_enter Tryz.func12, Tryz.ntmps12
  go_wp2_with fail
  refine hn.mono ?_
  rintro e w1 ⟨rfl, hg1⟩
  go_wp2_with fail
  refine (hf _ hg1).mono ?_
  rintro e w2 ⟨rfl, hg2⟩
  go_wp2
  go_ret2
  exact ⟨rfl, grown_trans (grown_trans hg1 hg2 (by simp)) (alloc_grown _ _) (by simp)⟩
end
end Go.Proofs.YtlghcboenkglnaaGreatDoor
