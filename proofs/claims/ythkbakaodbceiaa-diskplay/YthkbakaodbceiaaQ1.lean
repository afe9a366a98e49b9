/-
  The document's Tell, Read, File, Names.
-/
import Derived.Test.YthkbakaodbceiaaP9
import Derived.Test.YthkbakaodbceiaaBb
import Derived.Laws.IdiomStrings
namespace Go.Proofs.Ythkbakaodbceiaa
open Go.RowKit
set_option linter.unusedVariables false

section
variable {w w' : World} {T : Nat → Prop} {rb : Nat} {L : List Rf} {fs : List (Int × Int)} {st : Int}

/-- A file as the document tells it. -/
def Rf.told (f : Rf) : Value := toldV f.s f.bs.length f.la f.th f.nl
def Rf.agg (f : Rf) : Value := .agg #[.string f.s, .string ⟨f.bs.toArray⟩, .int .i64 (f.la : Int), .bool f.th, .bool f.nl]

set_option maxRecDepth 100000 in
set_option maxHeartbeats 1000000 in
theorem tell_r (w : World) (f : Rf) : Calls Try.prog 55 #[f.agg] w fun e w' => e = .returned f.told ∧ w.grownBy w' none := by
  have hss : (⟨f.bs.toArray⟩ : ByteArray).size = f.bs.length := by simp [ByteArray.size]
  have ga := alloc_grown w (.cells #[.string f.s, .string ⟨f.bs.toArray⟩, .int .i64 (f.la : Int), .bool f.th, .bool f.nl] 101)
  have gb := alloc_grown (w.alloc (.cells #[.string f.s, .string ⟨f.bs.toArray⟩, .int .i64 (f.la : Int), .bool f.th, .bool f.nl] 101)) (.cells #[.string f.s, .int .i64 f.bs.length, .int .i64 (f.la : Int), .bool f.th, .bool f.nl] 55)
  have hG := grown_trans ga gb (by simp)
  unfold Rf.agg Rf.told
  have kk := World.alloc_heap_new (w.alloc (.cells #[.string f.s, .string ⟨f.bs.toArray⟩, .int .i64 (f.la : Int), .bool f.th, .bool f.nl] 101)) (.cells #[.string f.s, .int .i64 f.bs.length, .int .i64 (f.la : Int), .bool f.th, .bool f.nl] 55)
  rw [World.size_alloc] at kk
  have HK : Hid _ := kk
  clear ga gb kk
  go_enter Try.func55, Try.ntmps55
  go_wp2
  have kk := HK.out
  generalize (w.alloc (.cells #[.string f.s, .string ⟨f.bs.toArray⟩, .int .i64 (f.la : Int), .bool f.th, .bool f.nl] 101)).alloc (.cells #[.string f.s, .int .i64 f.bs.length, .int .i64 (f.la : Int), .bool f.th, .bool f.nl] 55) = W at *
  have u0 := cell_of (i := 0) (v := .string f.s) kk rfl
  have u1 := cell_of (i := 1) (v := .int .i64 f.bs.length) kk rfl
  have u2 := cell_of (i := 2) (v := .int .i64 (f.la : Int)) kk rfl
  have u3 := cell_of (i := 3) (v := .bool f.th) kk rfl
  have u4 := cell_of (i := 4) (v := .bool f.nl) kk rfl
  exact bodyPost_ret (v := toldV f.s f.bs.length f.la f.th f.nl) (by simp [results, Try.results55, go_sem, u0, u1, u2, u3, u4, toldV]) rfl ⟨rfl, hG⟩

set_option maxRecDepth 100000 in
set_option maxHeartbeats 1000000 in
theorem read_r_lost (h : Rv w T rb L fs st) (hl : L.length ≤ 100000) (s : ByteArray) (hc : (findR L s).2 ≠ 0) (v u : Value) : Calls Try.prog 28 #[.pointer (some ⟨rb, 0, none⟩), .string s, v, u] w fun e w' => e = .returned (.tuple #[.slice none 0 0, .int .i64 (findR L s).2]) ∧ w' = w := by
  have hf := find_r h hl s
  have d : ((findR L s).2 != 0) = true := by simpa using hc
  generalize (findR L s).1 = q at *
  generalize (findR L s).2 = q2 at *
  clear h hc
  go_enter Try.func28, Try.ntmps28
  go_wp2_with fail
  refine hf.mono ?_
  rintro e w1 ⟨rfl, rfl⟩
  go_wp2
  go_ret2
  exact ⟨rfl, rfl⟩

theorem bytes_conv (w : World) (x : List UInt8) (hs : x.length ≤ maxLen) : Bs (w.drew.alloc (.cells (bytesRow ⟨x.toArray⟩ (grownCap w x.length 0 5)) 5 ((bytesRow ⟨x.toArray⟩ (grownCap w x.length 0 5)).size, (bytesRow ⟨x.toArray⟩ (grownCap w x.length 0 5)).size + 1))) (some ⟨w.heap.size, 0, none⟩) x.length (grownCap w x.length 0 5) x := by
  have hge := grownCap_ge w x.length 0 5
  have hcm2 : grownCap w x.length 0 5 ≤ maxLen := grownCap_le_maxLen w x.length 0 5 hs
  refine ⟨rfl, hge, hcm2, (by simp), fun a ha j u hu => ?_⟩
  obtain rfl := Option.some.inj ha
  have hh : (w.drew.alloc (.cells (bytesRow ⟨x.toArray⟩ (grownCap w x.length 0 5)) 5 ((bytesRow ⟨x.toArray⟩ (grownCap w x.length 0 5)).size, (bytesRow ⟨x.toArray⟩ (grownCap w x.length 0 5)).size + 1))).heap[w.heap.size]? = _ := heap_alloc_new w.drew _
  rw [Addr.add_lit, Nat.zero_add, cell_of_row _ _ j _ 5 _ hh]
  unfold bytesRow
  rw [← Array.getElem?_toList, Array.toList_append, List.getElem?_append_left (by have := (List.getElem?_eq_some_iff.1 hu).1; simp at this ⊢; exact this)]
  simpa [bv] using hu

/-- What Read answers of a file. -/
def readC (n : Nat) (at' k : Int) : Bool := decide (at' < 0) || (decide ((n : Int) < at') || decide (k < 0))

set_option maxRecDepth 100000 in
set_option maxHeartbeats 1000000 in
theorem read_r_range (h : Rv w T rb L fs st) (hl : L.length ≤ 100000) {s : ByteArray} {i : Nat} {f : Rf} (hh : Hit L s i f) (a k : Int) (hr : readC f.bs.length a k = true) :
    Calls Try.prog 28 #[.pointer (some ⟨rb, 0, none⟩), .string s, .int .i64 a, .int .i64 k] w fun e w' => e = .returned (.tuple #[.slice none 0 0, .int .i64 4]) ∧ w' = w := by
  have hfd := find_r h hl s
  rw [hh.find] at hfd
  obtain ⟨g, ac, c0, hrg, hcl, _, _, _⟩ := h.file hh.get
  have c1 := hcl 1 (by decide)
  simp only [Rf.cells, List.getElem?_cons_zero, List.getElem?_cons_succ] at c1
  have hlt : i < L.length := (List.getElem?_eq_some_iff.1 hh.get).1
  have hss : (⟨f.bs.toArray⟩ : ByteArray).size = f.bs.length := by simp [ByteArray.size]
  have i1 : (0 : Int) ≤ (i : Int) := by omega
  have i2 : (i : Int) < (L.length : Int) := by omega
  unfold readC at hr
  clear h hcl
  cases d0 : decide (a < 0) with
  | true =>
    clear hr
    go_enter Try.func28, Try.ntmps28
    go_wp2_with fail
    refine hfd.mono ?_
    rintro e w1 ⟨rfl, rfl⟩
    go_wp2
    go_ret2
    exact ⟨rfl, rfl⟩
  | false =>
    cases d1 : decide ((f.bs.length : Int) < a) with
    | true =>
      clear hr
      go_enter Try.func28, Try.ntmps28
      go_wp2_with fail
      refine hfd.mono ?_
      rintro e w1 ⟨rfl, rfl⟩
      go_wp2
      go_ret2
      exact ⟨rfl, rfl⟩
    | false =>
      rw [d0, d1] at hr
      have d2 : decide (k < 0) = true := by simpa using hr
      clear hr
      go_enter Try.func28, Try.ntmps28
      go_wp2_with fail
      refine hfd.mono ?_
      rintro e w1 ⟨rfl, rfl⟩
      go_wp2
      go_ret2
      exact ⟨rfl, rfl⟩

set_option maxRecDepth 100000 in
set_option maxHeartbeats 1000000 in
theorem read_r (h : Rv w T rb L fs st) (hl : L.length ≤ 100000) {s : ByteArray} {i : Nat} {f : Rf} (hh : Hit L s i f) (hsz : f.bs.length ≤ 16777216) (a k : Nat) (ha : a ≤ f.bs.length) (hk : k ≤ 9223372036854775807) :
    Calls Try.prog 28 #[.pointer (some ⟨rb, 0, none⟩), .string s, .int .i64 a, .int .i64 k] w fun e w' => ∃ o n c, e = .returned (.tuple #[.slice o n c, .int .i64 0]) ∧ Bs w' o n c ((f.bs.drop a).take k) ∧ w.grownBy w' none := by
  have hfd := find_r h hl s
  rw [hh.find] at hfd
  obtain ⟨g, ac, c0, hrg, hcl, _, _, _⟩ := h.file hh.get
  have c1 := hcl 1 (by decide)
  simp only [Rf.cells, List.getElem?_cons_zero, List.getElem?_cons_succ] at c1
  have hlt : i < L.length := (List.getElem?_eq_some_iff.1 hh.get).1
  have hss : (⟨f.bs.toArray⟩ : ByteArray).size = f.bs.length := by simp [ByteArray.size]
  have i1 : (0 : Int) ≤ (i : Int) := by omega
  have i2 : (i : Int) < (L.length : Int) := by omega
  have d0 : decide ((a : Int) < 0) = false := by simp
  have d1 : decide ((f.bs.length : Int) < (a : Int)) = false := by simp; omega
  have d1n : decide (f.bs.length < a) = false := by simp; omega
  have d2 : decide ((k : Int) < 0) = false := by simp
  obtain ⟨c, hc⟩ : ∃ c, c = min k (f.bs.length - a) := ⟨_, rfl⟩
  have hcI : min (k : Int) ((f.bs.length : Int) - (a : Int)) = (c : Int) := by omega
  have wz : IntKind.i64.wrap ((f.bs.length : Int) - (a : Int)) = (f.bs.length : Int) - (a : Int) := by rw [IntWalk.i64_in _ (by omega)]
  have hwd : IntKind.i64.wrap ((a : Int) + (c : Int)) = ((a + c : Nat) : Int) := by rw [IntWalk.i64_in _ (by omega)]; push_cast; rfl
  have hle : a + c ≤ f.bs.length := by omega
  have hx : (⟨f.bs.toArray⟩ : ByteArray).extract a (a + c) = ⟨((f.bs.drop a).take c).toArray⟩ := by
    apply ByteArray.ext
    simp [List.take_drop]
  have htk : (f.bs.drop a).take c = (f.bs.drop a).take k := by
    rcases Nat.le_total k (f.bs.length - a) with h9 | h9
    · rw [show c = k by omega]
    · rw [List.take_of_length_le (by simp; omega), List.take_of_length_le (by simp; omega)]
  have hcv := fun W => run_bytes_of_string (P := Try.prog) W 9 38 5 ⟨((f.bs.drop a).take c).toArray⟩ Try.underlying9 Try.underlying38 Try.underlying5
  have hln : (⟨((f.bs.drop a).take c).toArray⟩ : ByteArray).size = ((f.bs.drop a).take c).length := by simp [ByteArray.size]
  simp only [hln] at hcv
  have hB := bytes_conv w ((f.bs.drop a).take c) (by unfold maxLen; simp; omega)
  rw [htk] at hB
  have e1 : (0 : Int) ≤ (a : Int) := by omega
  have e2 : (a : Int) ≤ ((a + c : Nat) : Int) := by omega
  have e3 : ((a + c : Nat) : Int) ≤ (f.bs.length : Int) := by omega
  have e2' : (a : Int) ≤ (a : Int) + (c : Int) := by omega
  have e3' : (a : Int) + (c : Int) ≤ (f.bs.length : Int) := by omega
  rw [htk] at hx hcv
  have hG := grown_trans (grown_drew w none) (alloc_grown w.drew (.cells (bytesRow ⟨((f.bs.drop a).take k).toArray⟩ (grownCap w ((f.bs.drop a).take k).length 0 5)) 5 ((bytesRow ⟨((f.bs.drop a).take k).toArray⟩ (grownCap w ((f.bs.drop a).take k).length 0 5)).size, (bytesRow ⟨((f.bs.drop a).take k).toArray⟩ (grownCap w ((f.bs.drop a).take k).length 0 5)).size + 1))) (by simp)
  generalize (f.bs.drop a).take k = xs at *
  have HB : Hid _ := hB
  have HG : Hid _ := hG
  clear h hcl hh hB hG htk hc hln
  go_enter Try.func28, Try.ntmps28
  go_wp2_with fail
  refine hfd.mono ?_
  rintro e w1 ⟨rfl, rfl⟩
  go_wp2
  go_ret2
  exact ⟨_, _, _, rfl, HB.out, HG.out⟩

set_option maxRecDepth 100000 in
set_option maxHeartbeats 1000000 in
theorem names_r (h : Rv w T rb L fs st) (hl : L.length ≤ 4000) : Calls Try.prog 58 #[.pointer (some ⟨rb, 0, none⟩)] w fun e w' => ∃ v, e = .returned v ∧ w'.ownsRow w.heap.size 9 1 v (L.filter (·.th)).length (((L.filter (·.th)).map (·.s)).map .string) ∧ w.grownBy w' none := by
  obtain ⟨ao, ac, fo, fn, fc, c0, _, _, _, hr, _⟩ := h.cells
  have hrm := hr.room
  unfold maxLen at hrm
  obtain ⟨hrm1, hrm2⟩ := hrm
  have HR : Hid _ := hr
  clear hr h
  go_enter Try.func58, Try.ntmps58
  go_wp2_with fail
  go_loopw [3, 4] (fun v i' wr => ∃ i : Nat, i' = .int .i64 i ∧ i ≤ L.length ∧ w.grownBy wr none ∧ wr.ownsRow w.heap.size 9 1 v ((L.take i).filter (·.th)).length ((((L.take i).filter (·.th)).map (·.s)).map .string)) (fun _ i' _ => L.length - (intOf i').toNat)
  case atStart => exact ⟨0, rfl, Nat.zero_le _, grown_refl _ _, World.ownsRow_nil _ _ _ _⟩
  case round =>
    obtain ⟨i, rfl, hi, hgw, hro⟩ := hrel
    have c0r := hgw.cell c0 (by simp)
    have hrr := HR.out.own hgw (fun r e => by cases e)
    have hlM : ((L.take i).filter (·.th)).length ≤ i := Nat.le_trans (List.length_filter_le _ _) (by simp; omega)
    have hws := hgw.size
    by_cases hlt : i < L.length
    · have dl : decide ((i : Int) < (L.length : Int)) = true := by simp; omega
      have dl2 : decide (i < L.length) = true := by simpa using hlt
      obtain ⟨f, hf⟩ : ∃ f, L[i]? = some f := ⟨_, List.getElem?_eq_getElem hlt⟩
      obtain ⟨g, rfl, _, _⟩ := hrr.addr (by omega)
      have q0 := hrr.at hf 0 (by decide)
      have q3 := hrr.at hf 3 (by decide)
      simp only [Rf.cells, List.getElem?_cons_zero, List.getElem?_cons_succ, Nat.add_zero] at q0 q3
      have i1 : (0 : Int) ≤ (i : Int) := by omega
      have i2 : (i : Int) < (L.length : Int) := by omega
      have wz : IntKind.i64.wrap ((i : Int) + 1) = ((i + 1 : Nat) : Int) := by rw [IntWalk.i64_in _ (by omega)]; push_cast; rfl
      have htk : L.take (i + 1) = L.take i ++ [f] := by rw [List.take_add_one, hf]; rfl
      clear hf hrr
      cases hth : f.th with
      | false =>
        rw [hth] at q3
        have hro2 : Hid (wr.ownsRow w.heap.size 9 1 u3 ((L.take (i + 1)).filter (·.th)).length ((((L.take (i + 1)).filter (·.th)).map (·.s)).map .string)) := (by
          show wr.ownsRow _ _ _ _ _ _
          rw [htk, List.filter_append]
          simpa [List.filter, hth] using hro)
        clear hro htk
        go_wp2
        go_roundw
        case rel => exact ⟨i + 1, by first | rfl | simp, by omega, hgw, hro2.out⟩
        case measure => simp [intOf]; omega
      | true =>
        rw [hth] at q3
        obtain ⟨inf, hi9, hz', hz1, hz2⟩ := info9_parts
        have hga := alloc_grown wr (.cells #[.string f.s] 9)
        have hro' := row_kept hro hga (fun r e => by cases e)
        have hbase : w.heap.size ≤ (wr.alloc (.cells #[.string f.s] 9)).heap.size := by simp; omega
        have hob : ∀ k, u3.ownBlock = some k → w.heap.size ≤ k := fun k hk => by
          rcases hro.2 with ⟨e9, _⟩ | ⟨g9, c9, cur9, e9, hb9, _⟩
          · rw [e9] at hk; cases hk
          · rw [e9] at hk; cases hk; exact hb9
        go_wp2_with (at_builtin; (refine wpList_append_own _ rfl _ _ 77 rfl w.heap.size 9 inf (.string ⟨#[]⟩) 1 16 Try.underlying77 hi9 hz' hz1 hz2 rfl (by decide) _ _ _ rfl hro' ⟨wr.heap.size, 0, none⟩ 1 1 [.string f.s] rfl (by simp) (cell_one_new _ _ _) (by simp [Value.oneCell']) (by unfold maxLen; omega) (by omega) hbase ?_))
        intro v' W2 hown hg2 _
        have hg25 : w.grownBy W2 none := grown_trans (grown_trans hgw hga (by simp)) hg2 (fun k e => Or.inr (hob k e))
        have hro2 : Hid (W2.ownsRow w.heap.size 9 1 v' ((L.take (i + 1)).filter (·.th)).length ((((L.take (i + 1)).filter (·.th)).map (·.s)).map .string)) := (by
          show W2.ownsRow _ _ _ _ _ _
          rw [htk, List.filter_append]
          simpa [List.filter, hth] using hown)
        clear hro hro' hown hg2 htk hga
        go_wp2
        go_roundw
        case rel => exact ⟨i + 1, by first | rfl | simp, by omega, hg25, hro2.out⟩
        case measure => simp [intOf]; omega
    · obtain rfl : i = L.length := by omega
      have dl : decide ((L.length : Int) < (L.length : Int)) = false := by simp
      rw [List.take_of_length_le (Nat.le_refl _)] at hro
      clear hrr
      go_wp2
      go_ret
      exact ⟨u3, rfl, by simpa using hro, hgw⟩
end
end Go.Proofs.Ythkbakaodbceiaa
