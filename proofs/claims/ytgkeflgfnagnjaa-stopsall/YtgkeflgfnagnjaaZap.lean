import Derived.Test.YtgkeflgfnagnjaaZao
import Derived.Test.YtgkeflgfnagnjaaZai
import Derived.Sort.Walk0
import Derived.Test.YtgkeflgfnagnjaaZal
/-
  The document's SyncDir and Remove.
-/
namespace Go.Proofs.Ytgkeflgfnagnjaa
open Go.RowKit
set_option linter.unusedVariables false
set_option maxRecDepth 100000

/-- Behind a SyncDir. -/
def sdL (L : List Rf) : List Rf := (L.filter (·.th)).map (fun f => { f with nl := true })
theorem sdL_snoc (L : List Rf) (f : Rf) : sdL (L ++ [f]) = if f.th = true then sdL L ++ [{ f with nl := true }] else sdL L := by
  unfold sdL
  rw [List.filter_append, List.map_append]
  cases h : f.th <;> simp [List.filter, h]
theorem sdL_len (L : List Rf) : (sdL L).length ≤ L.length := by unfold sdL; rw [List.length_map]; exact List.length_filter_le _ _
section
variable {w w' : World} {T : Nat → Prop} {rb : Nat} {L : List Rf} {fs : List (Int × Int)} {st : Int}

set_option maxRecDepth 100000 in
set_option maxHeartbeats 4000000 in
theorem syncdir_r (h : Rv w T rb L fs st) (hl : L.length ≤ 4000) (h0 : 0 ≤ st) (h1 : st < 4611686018427387904) :
    Calls Try.prog 38 #[.pointer (some ⟨rb, 0, none⟩)] w fun e w' => e = .returned (.int .i64 (stepC fs).1) ∧ Rn w w' T rb (if (stepC fs).1 = 0 then sdL L else L) fs.tail (st + 1) := by
  have hst := step_r h h0 h1
  by_cases hc : (stepC fs).1 = 0
  · rw [hc] at hst ⊢
    rw [if_pos rfl]
    generalize (stepC fs).2 = kp at *
    clear h hc
    go_enter Try.func38, Try.ntmps38
    go_wp2_with fail
    refine hst.mono ?_
    clear hst
    rintro e w2 ⟨rfl, hR2, hC2⟩
    obtain ⟨ao, ac, fo, fn, fc, c0, _, _, fz, hr, _⟩ := hR2.cells
    have hrm := hr.room
    unfold maxLen at hrm
    obtain ⟨hrm1, hrm2⟩ := hrm
    have HR : Hid _ := hr
    have hrbl := hR2.lt rb hR2.tb
    clear hr
    go_wp2_with fail
    go_loopw [5, 6] (fun v i' wr => ∃ i : Nat, i' = .int .i64 i ∧ i ≤ L.length ∧ w2.grownBy wr none ∧ ∃ ro rc, v = .slice ro (sdL (L.take i)).length rc ∧ Rr wr w2.heap.size ro (sdL (L.take i)).length rc (sdL (L.take i))) (fun _ i' _ => L.length - (intOf i').toNat)
    case atStart => exact ⟨0, rfl, Nat.zero_le _, grown_refl _ _, none, 0, rfl, Rr.nil _ _⟩
    case round =>
      obtain ⟨i, rfl, hi, hgw, ro, rc, rfl, hro⟩ := hrel
      have c0r := hgw.cell c0 (by simp)
      have hrr := HR.out.own hgw (fun r e => by cases e)
      have hlM : (sdL (L.take i)).length ≤ i := Nat.le_trans (sdL_len _) (by simp; omega)
      have hws := hgw.size
      by_cases hlt : i < L.length
      · have dl : decide ((i : Int) < (L.length : Int)) = true := by simp; omega
        have dl2 : decide (i < L.length) = true := by simpa using hlt
        obtain ⟨f, hf⟩ : ∃ f, L[i]? = some f := ⟨_, List.getElem?_eq_getElem hlt⟩
        obtain ⟨g, rfl, _, _⟩ := hrr.addr (by omega)
        have q0 := hrr.at hf 0 (by decide)
        have q1 := hrr.at hf 1 (by decide)
        have q2 := hrr.at hf 2 (by decide)
        have q3 := hrr.at hf 3 (by decide)
        have q4 := hrr.at hf 4 (by decide)
        simp only [Rf.cells, List.getElem?_cons_zero, List.getElem?_cons_succ, Nat.add_zero] at q0 q1 q2 q3 q4
        have i1 : (0 : Int) ≤ (i : Int) := by omega
        have i2 : (i : Int) < (L.length : Int) := by omega
        have wz : IntKind.i64.wrap ((i : Int) + 1) = ((i + 1 : Nat) : Int) := by rw [IntWalk.i64_in _ (by omega)]; push_cast; rfl
        have htk : L.take (i + 1) = L.take i ++ [f] := by rw [List.take_add_one, hf]; rfl
        have hsn := sdL_snoc (L.take i) f
        rw [← htk] at hsn
        have HSN : Hid _ := hsn
        have ga := alloc_grown wr (.cells #[.string f.s, .string ⟨f.bs.toArray⟩, .int .i64 (f.la : Int), .bool f.th, .bool f.nl] 82)
        have ka := World.alloc_heap_new wr (.cells #[.string f.s, .string ⟨f.bs.toArray⟩, .int .i64 (f.la : Int), .bool f.th, .bool f.nl] 82)
        have hga := grown_trans hgw ga (by simp)
        clear hf htk hsn hrr
        cases hth : f.th with
        | false =>
          rw [hth] at q3 ga ka hga
          have hrel2 : Hid (∃ ro' rc', (.slice ro (sdL (L.take i)).length rc : Value) = .slice ro' (sdL (L.take (i + 1))).length rc' ∧ Rr (wr.alloc (.cells #[.string f.s, .string ⟨f.bs.toArray⟩, .int .i64 (f.la : Int), .bool false, .bool f.nl] 82)) w2.heap.size ro' (sdL (L.take (i + 1))).length rc' (sdL (L.take (i + 1)))) := (by
            have := HSN.out
            rw [hth] at this
            simp at this
            show ∃ ro' rc', _
            rw [this]
            exact ⟨ro, rc, rfl, hro.own ga (fun r e => by cases e)⟩)
          clear hro HSN ka ga
          go_wp2
          go_roundw
          case rel => exact ⟨i + 1, by first | rfl | simp, by omega, hga, hrel2.out⟩
          case measure => simp [intOf]; omega
        | true =>
          rw [hth] at q3
          clear ga ka hga
          have ga := alloc_grown wr (.cells #[.string f.s, .string ⟨f.bs.toArray⟩, .int .i64 (f.la : Int), .bool true, .bool true] 82)
          have hga := grown_trans hgw ga (by simp)
          have gc := alloc_grown (wr.alloc (.cells #[.string f.s, .string ⟨f.bs.toArray⟩, .int .i64 (f.la : Int), .bool true, .bool true] 82)) (.cells #[.string f.s, .string ⟨f.bs.toArray⟩, .int .i64 (f.la : Int), .bool true, .bool true] 82)
          have kc := World.alloc_heap_new (wr.alloc (.cells #[.string f.s, .string ⟨f.bs.toArray⟩, .int .i64 (f.la : Int), .bool true, .bool true] 82)) (.cells #[.string f.s, .string ⟨f.bs.toArray⟩, .int .i64 (f.la : Int), .bool true, .bool true] 82)
          rw [World.size_alloc] at kc
          have hX2 : Rs ((wr.alloc (.cells #[.string f.s, .string ⟨f.bs.toArray⟩, .int .i64 (f.la : Int), .bool true, .bool true] 82)).alloc (.cells #[.string f.s, .string ⟨f.bs.toArray⟩, .int .i64 (f.la : Int), .bool true, .bool true] 82)) (some ⟨wr.heap.size + 1, 0, none⟩) 1 1 [{ f with nl := true }] := ⟨rfl, Nat.le_refl _, by unfold maxLen; omega, (fun e => by cases e), fun a e j u hu => by
            cases e
            rw [Addr.add_lit, Nat.zero_add, cell_at kc]
            simpa [rcells, Rf.cells, hth] using hu⟩
          have hroc := (hro.own ga (fun r e => by cases e)).own gc (fun r e => by cases e)
          have hgc := grown_trans hga gc (by simp)
          have hsn2 : Hid (sdL (L.take (i + 1)) = sdL (L.take i) ++ [{ f with nl := true }]) := (by have := HSN.out; rw [if_pos hth] at this; exact this)
          clear kc HSN hro ga
          go_wp2_with (at_builtin; (refine wpList_append_rf rfl _ _ rfl rfl hroc rfl hX2 (by omega) (by simp; omega) ?_))
          intro ro2 rc2 w5 hr5 hg5
          have hg25 : w2.grownBy w5 none := grown_trans hgc hg5 (fun k e => Or.inr (hroc.from_base k e).1)
          have hrel2 : Hid (∃ ro' rc', (.slice ro2 ((sdL (L.take i)).length + 1) rc2 : Value) = .slice ro' (sdL (L.take (i + 1))).length rc' ∧ Rr w5 w2.heap.size ro' (sdL (L.take (i + 1))).length rc' (sdL (L.take (i + 1)))) := (by
            show ∃ ro' rc', _
            rw [hsn2.out, List.length_append, hth]
            exact ⟨ro2, rc2, rfl, hr5⟩)
          clear hr5 hg5 hroc hX2 hgc gc
          go_wp2
          go_roundw
          case rel => exact ⟨i + 1, by first | rfl | simp, by omega, hg25, hrel2.out⟩
          case measure => simp [intOf]; omega
      · obtain rfl : i = L.length := by omega
        have dl : decide ((L.length : Int) < (L.length : Int)) = false := by simp
        rw [List.take_of_length_le (Nat.le_refl _)] at hro ⊢
        have f0r : wr.frozen? ⟨rb, 0, none⟩ = false := (World.frozen?_of_block (w := w2) (a := ⟨rb, 0, none⟩) (hgw.block rb hrbl (by simp))).trans (fz 0)
        have hfin : Hid (Rn w (wr.setCell ⟨rb, 0, none⟩ (.slice ro (sdL L).length rc)) T rb (sdL L) fs.tail (st + 1)) := Rn.after hC2 (Rv.rerow hR2 hgw (Nat.le_refl _) hro)
        clear hro hrr hR2 hC2
        go_wp2
        go_ret
        exact ⟨rfl, hfin.out⟩
  · rw [if_neg hc]
    have d2 : ((stepC fs).1 != 0) = true := by simpa using hc
    generalize (stepC fs).2 = kp at *
    generalize (stepC fs).1 = cd at *
    clear h hc
    go_enter Try.func38, Try.ntmps38
    go_wp2_with fail
    refine hst.mono ?_
    clear hst
    rintro e w2 ⟨rfl, hR2, hC2⟩
    go_wp2
    go_ret
    exact ⟨rfl, Rn.of hR2 hC2⟩
/-- The record of a file, put anew in its place. -/
theorem Rv.file5 (h : Rv w T rb L fs st) {i : Nat} {f : Rf} (hf : L[i]? = some f) : ∃ g ac, w.cell? ⟨rb, 0, none⟩ = some (.slice (some ⟨g, 0, none⟩) L.length ac) ∧ rb ≠ g ∧ (∀ k, k < 5 → w.cell? ⟨g, i * 5 + k, none⟩ = f.cells[k]?) ∧ (∀ k, w.frozen? ⟨g, k, none⟩ = false) ∧ T g ∧
    ∀ f' : Rf, Rv (((((w.setCell ⟨g, i * 5, none⟩ (.string f'.s)).setCell ⟨g, i * 5 + 1, none⟩ (.string ⟨f'.bs.toArray⟩)).setCell ⟨g, i * 5 + 2, none⟩ (.int .i64 (f'.la : Int))).setCell ⟨g, i * 5 + 3, none⟩ (.bool f'.th)).setCell ⟨g, i * 5 + 4, none⟩ (.bool f'.nl)) T rb (L.set i f') fs st ∧ Chg w (((((w.setCell ⟨g, i * 5, none⟩ (.string f'.s)).setCell ⟨g, i * 5 + 1, none⟩ (.string ⟨f'.bs.toArray⟩)).setCell ⟨g, i * 5 + 2, none⟩ (.int .i64 (f'.la : Int))).setCell ⟨g, i * 5 + 3, none⟩ (.bool f'.th)).setCell ⟨g, i * 5 + 4, none⟩ (.bool f'.nl)) T := by
  obtain ⟨g, ac, h1, h2, h3, h4, h5, _⟩ := h.file hf
  refine ⟨g, ac, h1, h2, h3, h4, h5, fun f' => ?_⟩
  obtain ⟨ao, ac', fo, fn, fc, k1, k2, k3, k4, k5⟩ := h.ex
  have e1 : ao = some ⟨g, 0, none⟩ ∧ ac' = ac := by
    have : w.cell? ⟨rb, 0, none⟩ = some (.slice ao L.length ac') := by rw [cell_at k1]; rfl
    rw [h1] at this
    simp at this
    exact ⟨this.1.symm, this.2.symm⟩
  obtain ⟨rfl, rfl⟩ := e1
  have hlt : i < L.length := (List.getElem?_eq_some_iff.1 hf).1
  have tg := k2.ty g rfl
  have s0 := k2.set (k := 0) (v := .string f'.s) (f' := { f with s := f'.s }) hf (by decide) rfl
  have s1 := s0.set (i := i) (f := { f with s := f'.s }) (k := 1) (v := .string ⟨f'.bs.toArray⟩) (f' := { f with s := f'.s, bs := f'.bs }) (by simp [hlt]) (by decide) rfl
  have s2 := s1.set (i := i) (f := { f with s := f'.s, bs := f'.bs }) (k := 2) (v := .int .i64 (f'.la : Int)) (f' := { f with s := f'.s, bs := f'.bs, la := f'.la }) (by simp [hlt]) (by decide) rfl
  have s3 := s2.set (i := i) (f := { f with s := f'.s, bs := f'.bs, la := f'.la }) (k := 3) (v := .bool f'.th) (f' := { f with s := f'.s, bs := f'.bs, la := f'.la, th := f'.th }) (by simp [hlt]) (by decide) rfl
  have s4 := s3.set (i := i) (f := { f with s := f'.s, bs := f'.bs, la := f'.la, th := f'.th }) (k := 4) (v := .bool f'.nl) (f' := f') (by simp [hlt]) (by decide) rfl
  simp only [List.set_set, Nat.add_zero] at s4
  have hC : Chg w _ (fun q => q = g) := ((((setCell_chg w g (i * 5) (.string f'.s)).trans (setCell_chg _ g (i * 5 + 1) (.string ⟨f'.bs.toArray⟩))).trans (setCell_chg _ g (i * 5 + 2) (.int .i64 (f'.la : Int)))).trans (setCell_chg _ g (i * 5 + 3) (.bool f'.th))).trans (setCell_chg _ g (i * 5 + 4) (.bool f'.nl))
  have hl : (L.set i f').length = L.length := by simp
  refine ⟨⟨⟨some ⟨g, 0, none⟩, ac', fo, fn, fc, ?_, ?_, k3.chg hC (fun a e k => (k4 a e).2.ne tg (by decide) k), fun a e => ⟨(k4 a e).1, (k4 a e).2.chg hC (fun k => (k4 a e).2.ne tg (by decide) k)⟩, k5⟩, h.tb, fun k hk => by simpa using h.lt k hk⟩, hC.mono (fun q _ e => e ▸ h5)⟩
  · rw [hl]; exact (hC.block rb (lt_of_heap k1) h2).trans k1
  · rw [hl]; exact s4
/-- Behind a Remove. -/
def rmL (L : List Rf) (i : Nat) (f : Rf) : List Rf := if f.nl = true then L.set i ⟨f.s, f.bs.take f.la, f.la, false, true⟩ else L.take i ++ L.drop (i + 1)
set_option maxRecDepth 100000 in
set_option maxHeartbeats 2000000 in
theorem remove_r_lost (h : Rv w T rb L fs st) (hl : L.length ≤ 100000) (s : ByteArray) (hc : (findR L s).2 ≠ 0) : Calls Try.prog 40 #[.pointer (some ⟨rb, 0, none⟩), .string s] w fun e w' => e = .returned (.int .i64 (findR L s).2) ∧ w' = w := by
  have hf := find_r h hl s
  have d : ((findR L s).2 != 0) = true := by simpa using hc
  generalize (findR L s).1 = q at *
  generalize (findR L s).2 = q2 at *
  clear h hc
  go_enter Try.func40, Try.ntmps40
  go_wp2_with fail
  refine hf.mono ?_
  rintro e w1 ⟨rfl, rfl⟩
  go_wp2
  go_ret
  exact ⟨rfl, rfl⟩
set_option maxRecDepth 100000 in
set_option maxHeartbeats 4000000 in
theorem remove_r (h : Rv w T rb L fs st) (hl : L.length ≤ 4000) (h0 : 0 ≤ st) (h1 : st < 4611686018427387904) {s : ByteArray} {i : Nat} {f : Rf} (hh : Hit L s i f) (hla : f.la ≤ f.bs.length) :
    Calls Try.prog 40 #[.pointer (some ⟨rb, 0, none⟩), .string s] w fun e w' => e = .returned (.int .i64 (stepC fs).1) ∧ Rn w w' T rb (if (stepC fs).1 = 0 then rmL L i f else L) fs.tail (st + 1) := by
  have hfd := find_r h (by omega) s
  rw [hh.find] at hfd
  have hst := step_r h h0 h1
  have hlt : i < L.length := (List.getElem?_eq_some_iff.1 hh.get).1
  have i1 : (0 : Int) ≤ (i : Int) := by omega
  have i2 : (i : Int) < (L.length : Int) := by omega
  have hget := hh.get
  by_cases hc : (stepC fs).1 = 0
  · rw [hc] at hst ⊢
    rw [if_pos rfl]
    generalize (stepC fs).2 = kp at *
    have HG : Hid _ := hget
    clear h hc hh hget
    cases hnl : f.nl with
    | true =>
      go_enter Try.func40, Try.ntmps40
      go_wp2_with fail
      refine hfd.mono ?_
      rintro e w1 ⟨rfl, rfl⟩
      go_wp2_with fail
      refine hst.mono ?_
      clear hst hfd
      rintro e w2 ⟨rfl, hR2, hC2⟩
      have ga := alloc_grown w2 (.cells #[.string f.s, .string ⟨f.bs.toArray⟩, .int .i64 (f.la : Int), .bool f.th, .bool f.nl] 82)
      have ka := World.alloc_heap_new w2 (.cells #[.string f.s, .string ⟨f.bs.toArray⟩, .int .i64 (f.la : Int), .bool f.th, .bool f.nl] 82)
      obtain ⟨g, ac, c0, hrg, hcl, fz, hTg, _⟩ := hR2.file5 HG.out
      obtain ⟨g', ac', c0', hrg', hcl', fz', hTg', hput⟩ := ((hR2.grown ga).grown (grown_drew _ none)).file5 HG.out
      have eg : g' = g ∧ ac' = ac := by
        have := (grown_trans ga (grown_drew _ none) (by simp)).cell c0 (by simp)
        rw [c0'] at this
        simp at this
        exact this
      obtain ⟨rfl, rfl⟩ := eg
      have q0 := hcl 0 (by decide)
      have q1 := hcl 1 (by decide)
      have q2 := hcl 2 (by decide)
      have q3 := hcl 3 (by decide)
      have q4 := hcl 4 (by decide)
      simp only [Rf.cells, List.getElem?_cons_zero, List.getElem?_cons_succ, Nat.add_zero] at q0 q1 q2 q3 q4
      have hgl := hR2.lt _ hTg
      have hput2 := hput ⟨f.s, f.bs.take f.la, f.la, false, true⟩
      have x0 := cell_of (i := 0) (v := .string f.s) ka rfl
      have x1 := cell_of (i := 1) (v := .string ⟨f.bs.toArray⟩) ka rfl
      have x2 := cell_of (i := 2) (v := .int .i64 (f.la : Int)) ka rfl
      have x4 := cell_of (i := 4) (v := .bool f.nl) ka rfl
      have hlb : f.la ≤ (⟨f.bs.toArray⟩ : ByteArray).size := by simpa [ByteArray.size] using hla
      have hca := ga.cell c0 (by simp)
      have p0 := ga.cell q0 (by simp)
      have p1 := ga.cell q1 (by simp)
      have p2 := ga.cell q2 (by simp)
      have p3 := ga.cell q3 (by simp)
      have p4 := ga.cell q4 (by simp)
      have fza : ∀ k, (w2.alloc (.cells #[.string f.s, .string ⟨f.bs.toArray⟩, .int .i64 (f.la : Int), .bool f.th, .bool f.nl] 82)).frozen? ⟨g', k, none⟩ = false := fun k => (World.frozen?_of_block (w := w2) (a := ⟨g', k, none⟩) (ga.block g' hgl (by simp))).trans (fz k)
      have hne : w2.heap.size ≠ g' := by omega
      have hfin : Hid (Rn w1 _ T rb (L.set i ⟨f.s, f.bs.take f.la, f.la, false, true⟩) fs.tail (st + 1)) := Rn.of hput2.1 (hC2.trans ((Chg.of_grown (grown_trans ga (grown_drew _ none) (by simp)) _).trans hput2.2))
      clear hput hput2 hcl hcl' hR2 hC2 c0' fz' ka ga
      simp only [hnl] at x0 x1 x2 x4 hca p0 p1 p2 p3 p4 q4 fza hfin
      have HLB : Hid _ := hlb
      have HLT : Hid _ := hlt
      clear hlb
      go_wp2_with fail
      generalize w2.alloc (.cells #[.string f.s, .string ⟨f.bs.toArray⟩, .int .i64 (f.la : Int), .bool f.th, .bool true] 82) = w3 at *
      refine wp_mono (reg26 w3 rb g' i L.length ac' w2.heap.size f.la _ _ HLB.out hca hrg hne HLT.out x0 x1 x2 _ _ _ _ _ p0 p1 p2 p3 p4 fza _ _ _ _ _ _ _ _ _ _ _ _ _ _ _ _ _ _ _ _ _ _ _ _ _ _ _ _ _ _ _ _ _ _ _ _ _ _ _ _ _ _ _ _ _ _ _ _ _ _ _ _ _ _ _ _ _ _ _ _ _ _ _ _ _ _ _ _ _ _ _) ?_
      rintro e a' w4 ⟨rfl, u37, u38, u39, u40, u41, u42, u43, u44, u45, u46, u47, u48, u49, u50, u51, u52, rfl, rfl⟩
      rw [ba_take0 _ _ hla]
      go_wp2
      go_ret
      exact ⟨rfl, by unfold rmL; rw [if_pos hnl]; exact hfin.out⟩
    | false =>
      go_enter Try.func40, Try.ntmps40
      go_wp2_with fail
      refine hfd.mono ?_
      rintro e w1 ⟨rfl, rfl⟩
      go_wp2_with fail
      refine hst.mono ?_
      clear hst hfd
      rintro e w2 ⟨rfl, hR2, hC2⟩
      have ga := alloc_grown w2 (.cells #[.string f.s, .string ⟨f.bs.toArray⟩, .int .i64 (f.la : Int), .bool f.th, .bool f.nl] 82)
      have ka := World.alloc_heap_new w2 (.cells #[.string f.s, .string ⟨f.bs.toArray⟩, .int .i64 (f.la : Int), .bool f.th, .bool f.nl] 82)
      have hR3 := hR2.grown ga
      obtain ⟨g, ac, c0, hrg, hcl, fz, hTg, _⟩ := hR2.file5 HG.out
      obtain ⟨ao, ac', fo, fn, fc, k0, _, _, fza, hrr, _⟩ := hR3.cells
      have hca := ga.cell c0 (by simp)
      have eg : ao = some ⟨g, 0, none⟩ ∧ ac' = ac := by
        rw [hca] at k0
        simp at k0
        exact ⟨k0.1.symm, k0.2.symm⟩
      obtain ⟨rfl, rfl⟩ := eg
      have hRs := hrr.shows
      have q0 := hcl 0 (by decide)
      have q1 := hcl 1 (by decide)
      have q2 := hcl 2 (by decide)
      have q3 := hcl 3 (by decide)
      have q4 := hcl 4 (by decide)
      simp only [Rf.cells, List.getElem?_cons_zero, List.getElem?_cons_succ, Nat.add_zero] at q0 q1 q2 q3 q4
      have x4 := cell_of (i := 4) (v := .bool f.nl) ka rfl
      have hrm := hrr.room
      unfold maxLen at hrm
      obtain ⟨hrm1, hrm2⟩ := hrm
      have hX1 := hRs.take i (by omega)
      have hrbl := hR3.lt rb hR3.tb
      have s1 : (0 : Int) ≤ (i : Int) := by omega
      have s2 : (i : Int) ≤ (ac' : Int) := by omega
      have t1 : (0 : Int) ≤ (i : Int) + 1 := by omega
      have t2 : (i : Int) + 1 ≤ (L.length : Int) := by omega
      have t3 : (i : Int) + 1 ≤ (ac' : Int) := by omega
      have wz : IntKind.i64.wrap ((i : Int) + 1) = ((i + 1 : Nat) : Int) := by rw [IntWalk.i64_in _ (by omega)]; push_cast; rfl
      have u1 : (0 : Int) ≤ ((i + 1 : Nat) : Int) := by omega
      have u2 : ((i + 1 : Nat) : Int) ≤ (L.length : Int) := by omega
      simp only [hnl] at x4 hca hRs hX1 hR3 hrr q4 ga fza k0 hrbl ka
      clear hcl ka k0 hrr
      go_wp2_with (at_builtin; (refine wpList_append_rf rfl _ _ rfl rfl (Rr.nil (w2.alloc (.cells #[.string f.s, .string ⟨f.bs.toArray⟩, .int .i64 (f.la : Int), .bool f.th, .bool false] 82)) (w2.alloc (.cells #[.string f.s, .string ⟨f.bs.toArray⟩, .int .i64 (f.la : Int), .bool f.th, .bool false] 82)).heap.size) rfl hX1 (by omega) (Nat.le_refl _) ?_))
      intro ro1 rc1 w4 hr1 hg4
      have hg4 : (w2.alloc (.cells #[.string f.s, .string ⟨f.bs.toArray⟩, .int .i64 (f.la : Int), .bool f.th, .bool false] 82)).grownBy w4 none := hg4
      have c04 := hg4.cell hca (by simp)
      have hs4 := hg4.size
      have hX3 : Rs w4 (if ac' = i + 1 then some ⟨g, 0, none⟩ else some ⟨g, (i + 1) * 5, none⟩) (L.length - (i + 1)) (ac' - (i + 1)) (L.drop (i + 1)) := by
        by_cases hia : ac' = i + 1
        · rw [if_pos hia]; exact Rs.drop (i := 0) (hRs.grown hg4) (i + 1) (by omega) 0 (.inl (by omega))
        · rw [if_neg hia]; exact Rs.drop (i := 0) (hRs.grown hg4) (i + 1) (by omega) ((i + 1) * 5) (.inr (by omega))
      go_wp2_with (at_builtin; (refine wpList_append_rf rfl _ _ rfl rfl hr1 rfl hX3 (by omega) (by have := hg4.size; simp at this; omega) ?_))
      all_goals
        intro ro3 rc3 w6 hr3 hg6
        have hb1 : ∀ q, blk ro1 = some q → (w2.alloc (.cells #[.string f.s, .string ⟨f.bs.toArray⟩, .int .i64 (f.la : Int), .bool f.th, .bool false] 82)).heap.size ≤ q := fun q hq => by have := (hr1.from_base q hq).1; simp; omega
        have hg36 : (w2.alloc (.cells #[.string f.s, .string ⟨f.bs.toArray⟩, .int .i64 (f.la : Int), .bool f.th, .bool false] 82)).grownBy w6 none := grown_trans hg4 hg6 (fun k e => Or.inr (hb1 k e))
        have c06 := hg36.cell hca (by simp)
        have f06 : w6.frozen? ⟨rb, 0, none⟩ = false := (World.frozen?_of_block (w := (w2.alloc (.cells #[.string f.s, .string ⟨f.bs.toArray⟩, .int .i64 (f.la : Int), .bool f.th, .bool false] 82))) (a := ⟨rb, 0, none⟩) (hg36.block rb hrbl (by simp))).trans (fza 0)
        have hfin : Hid (Rn w1 (w6.setCell ⟨rb, 0, none⟩ (.slice ro3 (i + (L.length - (i + 1))) rc3)) T rb (L.take i ++ L.drop (i + 1)) fs.tail (st + 1)) := Rn.after (hC2.trans (Chg.of_grown ga _)) (Rv.rerow hR3 hg36 (by simp) hr3)
        clear hr1 hr3 hX1 hX3 hg4 hg6 hR2 hC2 ga hR3 hRs
        go_wp2
        go_ret
        exact ⟨rfl, by unfold rmL; rw [if_neg (by simp [hnl])]; exact hfin.out⟩
  · rw [if_neg hc]
    have d2 : ((stepC fs).1 != 0) = true := by simpa using hc
    generalize (stepC fs).2 = kp at *
    generalize (stepC fs).1 = cd at *
    clear h hc hget
    go_enter Try.func40, Try.ntmps40
    go_wp2_with fail
    refine hfd.mono ?_
    rintro e w1 ⟨rfl, rfl⟩
    go_wp2_with fail
    refine hst.mono ?_
    clear hst hfd
    rintro e w2 ⟨rfl, hR2, hC2⟩
    go_wp2
    go_ret
    exact ⟨rfl, Rn.of hR2 hC2⟩
end
end Go.Proofs.Ytgkeflgfnagnjaa

/-
  The document's files by name.
-/
namespace Go.Proofs.Ytgkeflgfnagnjaa
open Go.RowKit
set_option linter.unusedVariables false
set_option maxRecDepth 100000

/-- One name is ahead of another. -/
def Ahead (a b : ByteArray) : Prop := Op.bytesLess a.toList b.toList = true
theorem Ahead.iff {a b : ByteArray} : Ahead a b ↔ a.toList < b.toList := by unfold Ahead; rw [bytesLess_eq]; simp
theorem Ahead.irrefl (a : ByteArray) : ¬ Ahead a a := by rw [Ahead.iff]; exact List.lt_irrefl _
theorem Ahead.trans {a b c : ByteArray} (h : Ahead a b) (k : Ahead b c) : Ahead a c := by rw [Ahead.iff] at *; exact List.lt_trans h k
theorem Ahead.ne {a b : ByteArray} (h : Ahead a b) : a ≠ b := fun e => by subst e; exact Ahead.irrefl _ h
theorem Ahead.tri {a b : ByteArray} (h : ¬ Ahead a b) (hne : a ≠ b) : Ahead b a := by
  rw [Ahead.iff] at *
  rcases Decidable.em (b.toList < a.toList) with h2 | h2
  · exact h2
  · exact absurd (List.le_antisymm (List.not_lt.1 h2) (List.not_lt.1 h)) (fun e => hne (by have := str_beq a b; rw [e] at this; simpa using this))
/-- The files in the order of their names, no name twice. -/
def Srt (L : List Rf) : Prop := L.Pairwise (fun f g => Ahead f.s g.s)
/-- The file of a name. -/
def lk (L : List Rf) (s : ByteArray) : Option Rf := L.find? (fun f => decide (f.s = s))
theorem lk_none {L : List Rf} {s : ByteArray} : lk L s = none ↔ ∀ f ∈ L, f.s ≠ s := by simp [lk, List.find?_eq_none]
theorem lk_name {L : List Rf} {s : ByteArray} {f : Rf} (h : lk L s = some f) : f.s = s := by simpa using List.find?_some h
theorem lk_mem {L : List Rf} {s : ByteArray} {f : Rf} (h : lk L s = some f) : f ∈ L := List.mem_of_find?_eq_some h
theorem Srt.lk_of {L : List Rf} (h : Srt L) {f : Rf} (hf : f ∈ L) : lk L f.s = some f := by
  induction L with
  | nil => cases hf
  | cons a L ih =>
    unfold Srt at h
    rw [List.pairwise_cons] at h
    unfold lk
    rw [List.find?_cons]
    by_cases e : a.s = f.s
    · simp only [e, decide_true]
      rcases List.mem_cons.1 hf with rfl | h2
      · rfl
      · exact absurd e (h.1 f h2).ne
    · simp only [e, decide_false]
      rcases List.mem_cons.1 hf with rfl | h2
      · exact absurd rfl e
      · exact ih h.2 h2
/-- Two lists of one order with the same files: what they say of each name is all. -/
theorem lk_iff {L : List Rf} (h : Srt L) {s : ByteArray} {f : Rf} : lk L s = some f ↔ f ∈ L ∧ f.s = s :=
  ⟨fun e => ⟨lk_mem e, lk_name e⟩, fun ⟨h1, h2⟩ => by subst h2; exact h.lk_of h1⟩
theorem lk_atN {L : List Rf} {s : ByteArray} {i : Nat} (h : atN L s = some i) : lk L s = L[i]? := by
  unfold atN at h
  unfold lk
  obtain ⟨hi, h1, h2⟩ := List.findIdx?_eq_some_iff_getElem.1 h
  rw [List.getElem?_eq_getElem hi]
  rw [List.find?_eq_some_iff_getElem]
  exact ⟨h1, i, hi, rfl, fun j hj => by simpa using h2 j hj⟩
theorem lk_atN_none {L : List Rf} {s : ByteArray} : atN L s = none ↔ lk L s = none := by
  unfold atN lk
  rw [List.findIdx?_eq_none_iff, List.find?_eq_none]
  simp
/-- A file is changed, its name stays. -/
theorem Srt.set {L : List Rf} (h : Srt L) {i : Nat} {f f' : Rf} (hf : L[i]? = some f) (hs : f'.s = f.s) : Srt (L.set i f') := by
  unfold Srt at *
  have e : (L.set i f').map (·.s) = L.map (·.s) := by
    rw [List.map_set, hs]
    apply List.ext_getElem?
    intro j
    rw [List.getElem?_set]
    split
    · rename_i e
      subst e
      split
      · simp [hf]
      · rename_i h9; have := (List.getElem?_eq_some_iff.1 hf).1; simp at h9; omega
    · rfl
  have h2 : (L.map (·.s)).Pairwise Ahead := List.pairwise_map.2 h
  rw [← e] at h2
  exact List.pairwise_map.1 h2
theorem lk_set {L : List Rf} (h : Srt L) {i : Nat} {f f' : Rf} (hf : L[i]? = some f) (hs : f'.s = f.s) (s : ByteArray) : lk (L.set i f') s = if s = f.s then some f' else lk L s := by
  have hi := (List.getElem?_eq_some_iff.1 hf).1
  have hS := h.set hf hs
  split
  · rename_i e
    subst e
    rw [← hs]
    exact hS.lk_of (List.mem_of_getElem? (i := i) (by rw [List.getElem?_set]; simp [hi]))
  · rename_i e
    apply Option.ext
    intro g
    rw [lk_iff hS, lk_iff h]
    constructor
    · rintro ⟨h1, rfl⟩
      refine ⟨?_, rfl⟩
      obtain ⟨j, hj⟩ := List.mem_iff_getElem?.1 h1
      rw [List.getElem?_set] at hj
      split at hj
      · first
          | (split at hj
             · cases hj; exact absurd hs e
             · cases hj)
          | (cases hj; exact absurd hs e)
      · exact List.mem_of_getElem? hj
    · rintro ⟨h1, rfl⟩
      refine ⟨?_, rfl⟩
      obtain ⟨j, hj⟩ := List.mem_iff_getElem?.1 h1
      refine List.mem_iff_getElem?.2 ⟨j, ?_⟩
      rw [List.getElem?_set]
      split
      · rename_i e2
        subst e2
        rw [hf] at hj
        cases hj
        exact absurd rfl e
      · exact hj
/-- A file is taken out. -/
theorem Srt.sub {L L' : List Rf} (h : Srt L) (hs : L'.Sublist L) : Srt L' := List.Pairwise.sublist hs h
theorem cut_sub (L : List Rf) (i : Nat) : (L.take i ++ L.drop (i + 1)).Sublist L := by
  rw [← List.eraseIdx_eq_take_drop_succ]
  exact List.eraseIdx_sublist L i
theorem lk_cut {L : List Rf} (h : Srt L) {i : Nat} {f : Rf} (hf : L[i]? = some f) (s : ByteArray) : lk (L.take i ++ L.drop (i + 1)) s = if s = f.s then none else lk L s := by
  have hS := h.sub (cut_sub L i)
  have hi := (List.getElem?_eq_some_iff.1 hf).1
  have hd : L.drop i = f :: L.drop (i + 1) := by rw [List.drop_eq_getElem_cons hi]; congr 1; exact (List.getElem?_eq_some_iff.1 hf).2
  have hL : L = L.take i ++ f :: L.drop (i + 1) := by rw [← hd, List.take_append_drop]
  have hP := h
  unfold Srt at hP
  rw [hL, List.pairwise_append, List.pairwise_cons] at hP
  obtain ⟨_, ⟨p1, _⟩, p2⟩ := hP
  have hno : ∀ g ∈ L.take i ++ L.drop (i + 1), g.s ≠ f.s := fun g hg => by
    rcases List.mem_append.1 hg with h1 | h1
    · exact (p2 g h1 f (by simp)).ne
    · exact (p1 g h1).ne.symm
  split
  · rename_i e
    subst e
    exact lk_none.2 hno
  · rename_i e
    apply Option.ext
    intro g
    rw [lk_iff hS, lk_iff h]
    constructor
    · rintro ⟨h1, rfl⟩
      exact ⟨(cut_sub L i).subset h1, rfl⟩
    · rintro ⟨h1, rfl⟩
      refine ⟨?_, rfl⟩
      rw [hL] at h1
      simp at h1
      rcases h1 with h1 | rfl | h1
      · simp [h1]
      · exact absurd rfl e
      · simp [h1]
theorem posL_take (L : List Rf) (s : ByteArray) : ∀ f ∈ L.take (posL L s), Ahead f.s s := by
  induction L with
  | nil => simp
  | cons a L ih =>
    unfold posL
    rw [List.takeWhile_cons]
    split
    · rename_i h1
      intro f hf
      simp at hf
      rcases hf with rfl | hf
      · exact h1
      · exact ih f hf
    · simp
theorem posL_drop {L : List Rf} (h : Srt L) (s : ByteArray) (hn : lk L s = none) : ∀ f ∈ L.drop (posL L s), Ahead s f.s := by
  induction L with
  | nil => simp
  | cons a L ih =>
    have hn' := lk_none.1 hn
    unfold Srt at h
    rw [List.pairwise_cons] at h
    unfold posL
    rw [List.takeWhile_cons]
    split
    · rename_i h1
      intro f hf
      simp at hf
      exact ih h.2 (lk_none.2 (fun f hf => hn' f (by simp [hf]))) f hf
    · rename_i h1
      intro f hf
      have ha : Ahead s a.s := Ahead.tri h1 (hn' a (by simp))
      simp at hf
      rcases hf with rfl | hf
      · exact ha
      · exact ha.trans (h.1 f hf)
theorem Srt.ins {L : List Rf} (h : Srt L) {s : ByteArray} (hn : lk L s = none) : Srt (insL L s) := by
  have h1 := posL_take L s
  have h2 := posL_drop h s hn
  unfold Srt insL
  rw [List.append_assoc, List.pairwise_append]
  refine ⟨h.sub (List.take_sublist _ _), ?_, fun a ha b hb => ?_⟩
  · simp only [List.singleton_append, List.pairwise_cons]
    exact ⟨h2, h.sub (List.drop_sublist _ _)⟩
  · simp at hb
    rcases hb with rfl | hb
    · exact h1 a ha
    · exact (h1 a ha).trans (h2 b hb)
theorem lk_ins {L : List Rf} (h : Srt L) {s : ByteArray} (hn : lk L s = none) (x : ByteArray) : lk (insL L s) x = if x = s then some ⟨s, [], 0, true, false⟩ else lk L x := by
  have hS := h.ins hn
  split
  · rename_i e
    subst e
    exact hS.lk_of (f := ⟨x, [], 0, true, false⟩) (by simp [insL])
  · rename_i e
    apply Option.ext
    intro g
    rw [lk_iff hS, lk_iff h]
    have hm : g ∈ L ↔ g ∈ L.take (posL L s) ∨ g ∈ L.drop (posL L s) := by rw [← List.mem_append, List.take_append_drop]
    rw [hm]
    simp only [insL, List.mem_append, List.mem_singleton]
    constructor
    · rintro ⟨(h1 | rfl) | h1, rfl⟩
      · exact ⟨.inl h1, rfl⟩
      · exact absurd rfl e
      · exact ⟨.inr h1, rfl⟩
    · rintro ⟨h1 | h1, rfl⟩
      · exact ⟨.inl (.inl h1), rfl⟩
      · exact ⟨.inr h1, rfl⟩
/-- SyncDir. -/
theorem Srt.sd {L : List Rf} (h : Srt L) : Srt (sdL L) := by
  unfold Srt sdL
  exact List.pairwise_map.2 (h.sub List.filter_sublist)
theorem lk_sd {L : List Rf} (h : Srt L) (s : ByteArray) : lk (sdL L) s = match lk L s with | none => none | some f => if f.th = true then some { f with nl := true } else none := by
  apply Option.ext
  intro g
  rw [lk_iff h.sd]
  have hm : g ∈ sdL L ↔ ∃ f, (f ∈ L ∧ f.th = true) ∧ { f with nl := true } = g := by simp [sdL]
  rw [hm]
  constructor
  · rintro ⟨⟨f, ⟨h1, h2⟩, rfl⟩, rfl⟩
    have := h.lk_of h1
    simp only at this ⊢
    rw [this]
    simp [h2]
  · intro e
    cases hl : lk L s with
    | none => rw [hl] at e; cases e
    | some f =>
      rw [hl] at e
      simp only at e
      split at e
      · rename_i h2
        cases e
        exact ⟨⟨f, ⟨lk_mem hl, h2⟩, rfl⟩, show f.s = s from lk_name hl⟩
      · cases e
end Go.Proofs.Ytgkeflgfnagnjaa

/-
  The program's disk, with the document's files beside it.
-/
namespace Go.Proofs.Ytgkeflgfnagnjaa
open Go.RowKit Go.Maps Go.WideMaps
set_option linter.unusedVariables false
set_option maxRecDepth 100000

/-- What stands at a name is the document's file. -/
def Mt (D : DataW Unit) (X : Nat → Fm) (B : Nat → List UInt8) (s : ByteArray) : Option Rf → Prop
  | none => at? D s none
  | some f => ∃ g, at? D s (some g) ∧ (X g).bn = f.bs.length ∧ (X g).la = (f.la : Int) ∧ (X g).th = f.th ∧ (X g).nl = f.nl ∧ B g = f.bs
section
variable {w w' : World} {b m base : Nat} {fs : List (Int × Int)} {st : Int} {n i : Nat} {D : DataW Unit} {X : Nat → Fm} {B : Nat → List UInt8} {T T' : Nat → Prop} {L : List Rf}

theorem Ds.owner (h : @Ds ⟨T⟩ w b m fs st n D) (hT : ∀ k, T k → k < w.heap.size → T' k) : @Ds ⟨T'⟩ w b m fs st n D := by
  obtain ⟨⟨fo, fn, fc, a1, a2, a3⟩, a4⟩ := h
  refine @Ds.mk ⟨T'⟩ _ _ _ _ _ _ _ ⟨fo, fn, fc, a1, a2, fun a e => ?_⟩ a4
  obtain ⟨h1, h2, ⟨h3, h4⟩, h5⟩ := a3 a e
  exact ⟨h1, h2, ⟨h3, hT _ h4 h5.ty.lt⟩, h5⟩
theorem Iv.owner (h : @Iv ⟨T⟩ w b m base fs st n D X B i) (hT : ∀ k, T k → k < w.heap.size → T' k) : @Iv ⟨T'⟩ w b m base fs st n D X B i := by
  obtain ⟨d, a1, a2, a3, a4, a5, a6, a7, a8, a9, b1, b2, b3, b4, b5, b6, b7, b8, b9⟩ := h
  exact @Iv.mk ⟨T'⟩ _ _ _ _ _ _ _ _ _ _ _ (Ds.owner d hT) a1 a2 a3 a4 a5 a6 a7 a8 a9 b1 b2 b3 b4 b5 b6 b7 b8 b9
/-- The program's disk at b, whose memory is T, with the document's files, fates, steps; i calls were made. -/
structure Pv (w : World) (T : Nat → Prop) (b : Nat) (L : List Rf) (fs : List (Int × Int)) (st : Int) (i : Nat) : Prop where
  ex : ∃ m n D X B, @Iv ⟨T⟩ w b m 0 fs st n D X B i ∧ (∀ s, Mt D X B s (lk L s)) ∧ T m ∧ ∀ s g, at? D s (some g) → T g ∧ ∀ q, blk (X g).bo = some q → T q
  so : Srt L
  tb : T b
  lt : ∀ k, T k → k < w.heap.size
/-- What a call on the program's disk leaves. -/
def Pn (w w' : World) (T : Nat → Prop) (b : Nat) (L : List Rf) (fs : List (Int × Int)) (st : Int) (i : Nat) : Prop :=
  (∃ T', Pv w' T' b L fs st i ∧ ∀ k, T' k → T k ∨ w.heap.size ≤ k) ∧ Chg w w' T
theorem Pn.mk (hI : @Iv ⟨fun k => T k ∨ w.heap.size ≤ k⟩ w' b m 0 fs st n D X B i) (hM : ∀ s, Mt D X B s (lk L s)) (hso : Srt L) (hm : T m ∨ w.heap.size ≤ m) (hg : ∀ s g, at? D s (some g) → (T g ∨ w.heap.size ≤ g) ∧ ∀ q, blk (X g).bo = some q → T q ∨ w.heap.size ≤ q) (hc : Chg w w' T) (hlt : ∀ k, T k → k < w.heap.size) (tb : T b) : Pn w w' T b L fs st i := by
  letI FO : Inhabited (Nat → Prop) := ⟨fun k => T k ∨ w.heap.size ≤ k⟩
  refine ⟨⟨fun k => (T k ∨ w.heap.size ≤ k) ∧ k < w'.heap.size, ⟨⟨m, n, D, X, B, Iv.owner hI (fun k h1 h2 => ⟨h1, h2⟩), hM, ⟨hm, hI.ds.mp.lt⟩, fun s g h1 => ⟨⟨(hg s g h1).1, (hI.fl s g h1).lt⟩, fun q hq => ⟨(hg s g h1).2 q hq, ((hI.ow s g h1).ty q hq).lt⟩⟩⟩, hso, ⟨.inl tb, Nat.lt_of_lt_of_le (hlt b tb) hc.size⟩, fun k hk => hk.2⟩, fun k hk => hk.1⟩, hc⟩
theorem Pn.refl (h : Pv w T b L fs st i) : Pn w w T b L fs st (i + 1) := by
  letI FO : Inhabited (Nat → Prop) := ⟨T⟩
  obtain ⟨m, n, D, X, B, h1, h2, h3, h4⟩ := h.ex
  exact ⟨⟨T, ⟨⟨m, n, D, X, B, h1.mono, h2, h3, h4⟩, h.so, h.tb, h.lt⟩, fun k hk => .inl hk⟩, Chg.refl _ _⟩
theorem Mt.at_none {s : ByteArray} (h : Mt D X B s (lk L s)) (hn : lk L s = none) : at? D s none := by rw [hn] at h; exact h
theorem Mt.at_some {s : ByteArray} {f : Rf} (h : Mt D X B s (lk L s)) (hn : lk L s = some f) : ∃ g, at? D s (some g) ∧ (X g).bn = f.bs.length ∧ (X g).la = (f.la : Int) ∧ (X g).th = f.th ∧ (X g).nl = f.nl ∧ B g = f.bs := by rw [hn] at h; exact h
/-- Create. -/
theorem create_p (h : Pv w T b L fs st i) (hi : i < 300) (s : ByteArray) :
    Calls Try.prog 24 #[.pointer (some ⟨b, 0, none⟩), .string s] w fun e w' => e = .returned (.int .i64 (creL L fs s).1) ∧ Pn w w' T b (creL L fs s).2.2 (if (creL L fs s).2.1 then fs.tail else fs) (if (creL L fs s).2.1 then st + 1 else st) (i + 1) := by
  letI FO : Inhabited (Nat → Prop) := ⟨T⟩
  obtain ⟨m, n, D, X, B, hI, hM, tm, tg⟩ := h.ex
  have h0 := hI.st0
  have h1 : st < 4611686018427387904 := by have := hI.st1; omega
  cases hs : nameB s with
  | false =>
    have hE : creL L fs s = (2, false, L) := by unfold creL; rw [if_pos hs]
    rw [hE]
    refine (create_bad s hI.ds hs).mono ?_
    rintro e w2 ⟨rfl, rfl⟩
    exact ⟨rfl, Pn.refl h⟩
  | true =>
    cases ha : atN L s with
    | some j =>
      have hE : creL L fs s = (170, false, L) := by unfold creL; rw [if_neg (by simp [hs]), ha]
      obtain ⟨f, hf, hfs⟩ := atN_some ha
      obtain ⟨g, hg, _⟩ := (hM s).at_some (by rw [lk_atN ha]; exact hf)
      rw [hE]
      refine (create_there s g hI.ds hs hg).mono ?_
      rintro e w2 ⟨rfl, rfl⟩
      exact ⟨rfl, Pn.refl h⟩
    | none =>
      have hln := lk_atN_none.1 ha
      have hg := (hM s).at_none hln
      have hsz : Maps.size D < 4096 := by have := hI.sz; omega
      have hE : creL L fs s = ((stepC fs).1, true, if (stepC fs).1 = 0 then insL L s else L) := by unfold creL; rw [if_neg (by simp [hs]), ha]
      rw [hE]
      rw [stepC_code fs 0]
      simp only [if_true]
      by_cases hc : (stepR fs 0).2 = 0
      · rw [if_pos hc, hc]
        refine (create_ok s hI.ds h0 h1 hs hg hsz (by have := hI.sn; unfold maxLen; omega) hc).mono ?_
        rintro e w2 ⟨rfl, g, hgl, hfl, hD, hC⟩
        have hk : WideAt.IsKeyLit (.string s.data.toList) := (string_keyed Try.underlying9).key (keyOf_string_mk (P := Try.prog) Try.underlying9 (name_le hs))
        have hI2 := hI.made hs hgl hk hg hD hfl hC
        have hlt : ∀ t g2, at? D t (some g2) → g2 ≠ g := fun t g2 h2 => by have := (hI.fl t g2 h2).lt; omega
        have hat : ∀ t o, at? D t o → at? (D.put (.string s.data.toList) (.lit (.int .i64 g))) t (if t = s then some g else o) := fun t o ho => at_put hI.ds.mp s t g o ho
        refine ⟨rfl, Pn.mk (Iv.owner (T := T) hI2 (fun k hk _ => .inl hk)) (fun t => ?_) (h.so.ins hln) (.inl tm) (fun t g2 h2 => ?_) (hC.mono (fun q _ e => e.elim (fun e => by rw [e]; exact h.tb) (fun e => by rw [e]; exact tm))) h.lt h.tb⟩
        · rw [lk_ins h.so hln]
          by_cases et : t = s
          · rw [if_pos et]
            have := hat t none (et ▸ hg)
            rw [if_pos et] at this
            exact ⟨g, this, by simp, by simp, by simp, by simp, by simp⟩
          · rw [if_neg et]
            cases hl : lk L t with
            | none =>
              have := hat t none ((hM t).at_none hl)
              rwa [if_neg et] at this
            | some f =>
              obtain ⟨g2, h2, r1, r2, r3, r4, r5⟩ := (hM t).at_some hl
              have := hat t _ h2
              rw [if_neg et] at this
              have hne := hlt t g2 h2
              exact ⟨g2, this, by simpa [hne] using r1, by simpa [hne] using r2, by simpa [hne] using r3, by simpa [hne] using r4, by simpa [hne] using r5⟩
        · by_cases et : t = s
          · have h3 := hat t none (et ▸ hg)
            rw [if_pos et] at h3
            obtain rfl : g = g2 := by have := at_one h3 h2; simpa using this
            exact ⟨.inr hgl, fun q hq => by simp [blk] at hq⟩
          · cases hl : lk L t with
            | none =>
              have h3 := hat t none ((hM t).at_none hl)
              rw [if_neg et] at h3
              have := at_one h3 h2
              cases this
            | some f =>
              obtain ⟨g3, h4, _⟩ := (hM t).at_some hl
              have h3 := hat t _ h4
              rw [if_neg et] at h3
              obtain rfl : g3 = g2 := by have := at_one h3 h2; simpa using this
              have hne := hlt t g3 h4
              exact ⟨.inl (tg t g3 h4).1, fun q hq => .inl ((tg t g3 h4).2 q (by simpa [hne] using hq))⟩
      · rw [if_neg hc]
        refine (create_fail s hI.ds h0 h1 hs hg hsz hc).mono ?_
        rintro e w2 ⟨rfl, hD, hC⟩
        have hI2 := hI.step hD hC
        exact ⟨rfl, Pn.mk (Iv.owner (T := T) hI2 (fun k hk _ => .inl hk)) hM h.so (.inl tm) (fun s g hg => ⟨.inl (tg s g hg).1, fun q hq => .inl ((tg s g hg).2 q hq)⟩) (hC.mono (fun q _ e => by rw [e]; exact h.tb)) h.lt h.tb⟩
end
end Go.Proofs.Ytgkeflgfnagnjaa

/-
  The program's calls on a file, in the document's words.
-/
namespace Go.Proofs.Ytgkeflgfnagnjaa
open Go.RowKit Go.Maps Go.WideMaps
set_option linter.unusedVariables false
set_option maxRecDepth 100000

section
variable {w w' : World} {b m base : Nat} {fs fs' : List (Int × Int)} {st st' : Int} {n i i' : Nat} {D : DataW Unit} {X : Nat → Fm} {B : Nat → List UInt8} {T T' : Nat → Prop} {L : List Rf}

/-- A call changes one file. -/
theorem Pn.filed (h : Pv w T b L fs st i) (hM : ∀ s, Mt D X B s (lk L s)) (tm : T m) (tg : ∀ s g, at? D s (some g) → T g ∧ ∀ q, blk (X g).bo = some q → T q) (hinj : ∀ s s' g, at? D s (some g) → at? D s' (some g) → s = s')
    {s : ByteArray} {j g : Nat} {f f' : Rf} (hh : Hit L s j f) (hg : at? D s (some g)) {x' : Fm} {l' : List UInt8} (hI2 : @Iv ⟨T⟩ w' b m 0 fs' st' n D (fun k => if k = g then x' else X k) (fun k => if k = g then l' else B k) i')
    (hx : x'.bn = f'.bs.length ∧ x'.la = (f'.la : Int) ∧ x'.th = f'.th ∧ x'.nl = f'.nl ∧ l' = f'.bs) (hfs : f'.s = f.s) (hl : Lies w (X g).bo x'.bo) (hC : Chg w w' (fun k => k = b ∨ k = g ∨ blk (X g).bo = some k)) : Pn w w' T b (L.set j f') fs' st' i' := by
  have hn : f.s = s := by obtain ⟨f2, h1, h2⟩ := atN_some hh.at'; rw [hh.get] at h1; cases h1; exact h2
  refine Pn.mk (Iv.owner (T := T) hI2 (fun k hk _ => .inl hk)) (fun t => ?_) (h.so.set hh.get hfs) (.inl tm) (fun t g2 h2 => ?_) (hC.mono (fun q _ e => ?_)) h.lt h.tb
  · rw [lk_set h.so hh.get hfs]
    by_cases et : t = f.s
    · rw [if_pos et]
      refine ⟨g, by rw [et, hn]; exact hg, ?_⟩
      simpa using hx
    · rw [if_neg et]
      cases hk : lk L t with
      | none => exact (hM t).at_none hk
      | some f2 =>
        obtain ⟨g2, h2, r⟩ := (hM t).at_some hk
        have hne : g2 ≠ g := fun e => et (by rw [hn]; exact hinj t s g (e ▸ h2) hg)
        exact ⟨g2, h2, by simpa [hne] using r⟩
  · by_cases e : g2 = g
    · subst e
      refine ⟨.inl (tg t g2 h2).1, fun q hq => ?_⟩
      simp at hq
      rcases hl q hq with h3 | h3
      · exact .inl ((tg t g2 h2).2 q h3)
      · exact .inr h3
    · exact ⟨.inl (tg t g2 h2).1, fun q hq => .inl ((tg t g2 h2).2 q (by simpa [e] using hq))⟩
  · rcases e with e | e | e
    · rw [e]; exact h.tb
    · rw [e]; exact (tg s g hg).1
    · exact (tg s g hg).2 q e
/-- A file that is there, as the program has it. -/
theorem Iv.hit (hI : @Iv ⟨T⟩ w b m 0 fs st n D X B i) (hM : ∀ s, Mt D X B s (lk L s)) {s : ByteArray} {j : Nat} {f : Rf} (hh : Hit L s j f) : ∃ g bo bc, at? D s (some g) ∧ X g = ⟨bo, f.bs.length, bc, (f.la : Int), true, f.nl⟩ ∧ B g = f.bs ∧ Fl w g bo f.bs.length bc (f.la : Int) true f.nl ∧ f.la ≤ f.bs.length ∧ f.bs.length ≤ 3000 * i ∧ Ow w 0 5 bo f.bs.length bc f.bs ∧ blk bo ≠ some b ∧ blk bo ≠ some g ∧ g ≠ b := by
  letI FO : Inhabited (Nat → Prop) := ⟨T⟩
  obtain ⟨g, hg, r1, r2, r3, r4, r5⟩ := (hM s).at_some (by rw [lk_atN hh.at']; exact hh.get)
  have hfl := hI.fl s g hg
  have how := hI.ow s g hg
  obtain ⟨a, q1, q2, q3⟩ := hI.la s g hg
  have hnb := hI.nb s g hg
  have hne := hI.ne s g hg
  obtain ⟨x, hx⟩ : ∃ x, X g = x := ⟨_, rfl⟩
  rw [hx] at r1 r2 r3 r4 hfl how q1 q2 q3 hnb
  rw [r5] at how
  obtain ⟨bo, bn, bc, la, th, nl⟩ := x
  dsimp only at r1 r2 r3 r4 hfl how q1 q2 q3 hnb
  rw [hh.th] at r3
  subst r1 r2 r3 r4
  have hbg : blk bo ≠ some g := fun e => (how.ty g e).ne hfl.ty (by decide) rfl
  exact ⟨g, bo, bc, hg, hx, r5, hfl, by omega, by omega, how, hnb, hbg, hne⟩
end
end Go.Proofs.Ytgkeflgfnagnjaa
