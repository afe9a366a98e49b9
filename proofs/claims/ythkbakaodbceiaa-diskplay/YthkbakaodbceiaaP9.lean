/-
  The document's SyncDir and Remove.
-/
import Derived.Test.YthkbakaodbceiaaP8
import Derived.Test.YthkbakaodbceiaaF3
namespace Go.Proofs.Ythkbakaodbceiaa
open Go.RowKit
set_option linter.unusedVariables false

/-- Behind a SyncDir. -/
def sdL (L : List Rf) : List Rf := (L.filter (·.th)).map (fun f => { f with nl := true })
theorem sdL_snoc (L : List Rf) (f : Rf) : sdL (L ++ [f]) = if f.th = true then sdL L ++ [{ f with nl := true }] else sdL L := by
  unfold sdL
  rw [List.filter_append, List.map_append]
  cases h : f.th <;> simp [List.filter, h]
theorem sdL_len (L : List Rf) : (sdL L).length ≤ L.length := by unfold sdL; rw [List.length_map]; exact List.length_filter_le _ _

section
variable {w w' : World} {T : Nat → Prop} {rb : Nat} {L : List Rf} {fs : List (Int × Int)} {st : Int}

set_option maxRecDepth 100000 in
set_option maxHeartbeats 4000000 in
theorem syncdir_r (h : Rv w T rb L fs st) (hl : L.length ≤ 4000) (h0 : 0 ≤ st) (h1 : st < 4611686018427387904) :
    Calls Try.prog 22 #[.pointer (some ⟨rb, 0, none⟩)] w fun e w' => e = .returned (.int .i64 (stepC fs).1) ∧ Rn w w' T rb (if (stepC fs).1 = 0 then sdL L else L) fs.tail (st + 1) := by
  have hst := step_r h h0 h1
  by_cases hc : (stepC fs).1 = 0
  · rw [hc] at hst ⊢
    rw [if_pos rfl]
    generalize (stepC fs).2 = kp at *
    clear h hc
    go_enter Try.func22, Try.ntmps22
    go_wp2_with fail
    refine hst.mono ?_
    clear hst
    rintro e w2 ⟨rfl, hR2, hC2⟩
    obtain ⟨ao, ac, fo, fn, fc, c0, _, _, fz, hr, _⟩ := hR2.cells
    have hrm := hr.room
    unfold maxLen at hrm
    obtain ⟨hrm1, hrm2⟩ := hrm
    have HR : Hid _ := hr
    have hrbl := hR2.lt rb hR2.tb
    clear hr
    go_wp2_with fail
    go_loopw [5, 6] (fun v i' wr => ∃ i : Nat, i' = .int .i64 i ∧ i ≤ L.length ∧ w2.grownBy wr none ∧ ∃ ro rc, v = .slice ro (sdL (L.take i)).length rc ∧ Rr wr w2.heap.size ro (sdL (L.take i)).length rc (sdL (L.take i))) (fun _ i' _ => L.length - (intOf i').toNat)
    case atStart => exact ⟨0, rfl, Nat.zero_le _, grown_refl _ _, none, 0, rfl, Rr.nil _ _⟩
    case round =>
      obtain ⟨i, rfl, hi, hgw, ro, rc, rfl, hro⟩ := hrel
      have c0r := hgw.cell c0 (by simp)
      have hrr := HR.out.own hgw (fun r e => by cases e)
      have hlM : (sdL (L.take i)).length ≤ i := Nat.le_trans (sdL_len _) (by simp; omega)
      have hws := hgw.size
      by_cases hlt : i < L.length
      · have dl : decide ((i : Int) < (L.length : Int)) = true := by simp; omega
        have dl2 : decide (i < L.length) = true := by simpa using hlt
        obtain ⟨f, hf⟩ : ∃ f, L[i]? = some f := ⟨_, List.getElem?_eq_getElem hlt⟩
        obtain ⟨g, rfl, _, _⟩ := hrr.addr (by omega)
        have q0 := hrr.at hf 0 (by decide)
        have q1 := hrr.at hf 1 (by decide)
        have q2 := hrr.at hf 2 (by decide)
        have q3 := hrr.at hf 3 (by decide)
        have q4 := hrr.at hf 4 (by decide)
        simp only [Rf.cells, List.getElem?_cons_zero, List.getElem?_cons_succ, Nat.add_zero] at q0 q1 q2 q3 q4
        have i1 : (0 : Int) ≤ (i : Int) := by omega
        have i2 : (i : Int) < (L.length : Int) := by omega
        have wz : IntKind.i64.wrap ((i : Int) + 1) = ((i + 1 : Nat) : Int) := by rw [IntWalk.i64_in _ (by omega)]; push_cast; rfl
        have htk : L.take (i + 1) = L.take i ++ [f] := by rw [List.take_add_one, hf]; rfl
        have hsn := sdL_snoc (L.take i) f
        rw [← htk] at hsn
        have HSN : Hid _ := hsn
        have ga := alloc_grown wr (.cells #[.string f.s, .string ⟨f.bs.toArray⟩, .int .i64 (f.la : Int), .bool f.th, .bool f.nl] 101)
        have ka := World.alloc_heap_new wr (.cells #[.string f.s, .string ⟨f.bs.toArray⟩, .int .i64 (f.la : Int), .bool f.th, .bool f.nl] 101)
        have hga := grown_trans hgw ga (by simp)
        clear hf htk hsn hrr
        cases hth : f.th with
        | false =>
          rw [hth] at q3 ga ka hga
          have hrel2 : Hid (∃ ro' rc', (.slice ro (sdL (L.take i)).length rc : Value) = .slice ro' (sdL (L.take (i + 1))).length rc' ∧ Rr (wr.alloc (.cells #[.string f.s, .string ⟨f.bs.toArray⟩, .int .i64 (f.la : Int), .bool false, .bool f.nl] 101)) w2.heap.size ro' (sdL (L.take (i + 1))).length rc' (sdL (L.take (i + 1)))) := (by
            have := HSN.out
            rw [hth] at this
            simp at this
            show ∃ ro' rc', _
            rw [this]
            exact ⟨ro, rc, rfl, hro.own ga (fun r e => by cases e)⟩)
          clear hro HSN ka ga
          go_wp2
          go_roundw
          case rel => exact ⟨i + 1, by first | rfl | simp, by omega, hga, hrel2.out⟩
          case measure => simp [intOf]; omega
        | true =>
          rw [hth] at q3
          clear ga ka hga
          have ga := alloc_grown wr (.cells #[.string f.s, .string ⟨f.bs.toArray⟩, .int .i64 (f.la : Int), .bool true, .bool true] 101)
          have hga := grown_trans hgw ga (by simp)
          have gc := alloc_grown (wr.alloc (.cells #[.string f.s, .string ⟨f.bs.toArray⟩, .int .i64 (f.la : Int), .bool true, .bool true] 101)) (.cells #[.string f.s, .string ⟨f.bs.toArray⟩, .int .i64 (f.la : Int), .bool true, .bool true] 101)
          have kc := World.alloc_heap_new (wr.alloc (.cells #[.string f.s, .string ⟨f.bs.toArray⟩, .int .i64 (f.la : Int), .bool true, .bool true] 101)) (.cells #[.string f.s, .string ⟨f.bs.toArray⟩, .int .i64 (f.la : Int), .bool true, .bool true] 101)
          rw [World.size_alloc] at kc
          have hX2 : Rs ((wr.alloc (.cells #[.string f.s, .string ⟨f.bs.toArray⟩, .int .i64 (f.la : Int), .bool true, .bool true] 101)).alloc (.cells #[.string f.s, .string ⟨f.bs.toArray⟩, .int .i64 (f.la : Int), .bool true, .bool true] 101)) (some ⟨wr.heap.size + 1, 0, none⟩) 1 1 [{ f with nl := true }] := ⟨rfl, Nat.le_refl _, by unfold maxLen; omega, (fun e => by cases e), fun a e j u hu => by
            cases e
            rw [Addr.add_lit, Nat.zero_add, cell_at kc]
            simpa [rcells, Rf.cells, hth] using hu⟩
          have hroc := (hro.own ga (fun r e => by cases e)).own gc (fun r e => by cases e)
          have hgc := grown_trans hga gc (by simp)
          have hsn2 : Hid (sdL (L.take (i + 1)) = sdL (L.take i) ++ [{ f with nl := true }]) := (by have := HSN.out; rw [if_pos hth] at this; exact this)
          clear kc HSN hro ga
          go_wp2_with (at_builtin; (refine wpList_append_rf rfl _ _ rfl rfl hroc rfl hX2 (by omega) (by simp; omega) ?_))
          intro ro2 rc2 w5 hr5 hg5
          have hg25 : w2.grownBy w5 none := grown_trans hgc hg5 (fun k e => Or.inr (hroc.from_base k e).1)
          have hrel2 : Hid (∃ ro' rc', (.slice ro2 ((sdL (L.take i)).length + 1) rc2 : Value) = .slice ro' (sdL (L.take (i + 1))).length rc' ∧ Rr w5 w2.heap.size ro' (sdL (L.take (i + 1))).length rc' (sdL (L.take (i + 1)))) := (by
            show ∃ ro' rc', _
            rw [hsn2.out, List.length_append, hth]
            exact ⟨ro2, rc2, rfl, hr5⟩)
          clear hr5 hg5 hroc hX2 hgc gc
          go_wp2
          go_roundw
          case rel => exact ⟨i + 1, by first | rfl | simp, by omega, hg25, hrel2.out⟩
          case measure => simp [intOf]; omega
      · obtain rfl : i = L.length := by omega
        have dl : decide ((L.length : Int) < (L.length : Int)) = false := by simp
        rw [List.take_of_length_le (Nat.le_refl _)] at hro ⊢
        have f0r : wr.frozen? ⟨rb, 0, none⟩ = false := (World.frozen?_of_block (w := w2) (a := ⟨rb, 0, none⟩) (hgw.block rb hrbl (by simp))).trans (fz 0)
        have hfin : Hid (Rn w (wr.setCell ⟨rb, 0, none⟩ (.slice ro (sdL L).length rc)) T rb (sdL L) fs.tail (st + 1)) := Rn.after hC2 (Rv.rerow hR2 hgw (Nat.le_refl _) hro)
        clear hro hrr hR2 hC2
        go_wp2
        go_ret
        exact ⟨rfl, hfin.out⟩
  · rw [if_neg hc]
    have d2 : ((stepC fs).1 != 0) = true := by simpa using hc
    generalize (stepC fs).2 = kp at *
    generalize (stepC fs).1 = cd at *
    clear h hc
    go_enter Try.func22, Try.ntmps22
    go_wp2_with fail
    refine hst.mono ?_
    clear hst
    rintro e w2 ⟨rfl, hR2, hC2⟩
    go_wp2
    go_ret
    exact ⟨rfl, Rn.of hR2 hC2⟩

/-- The record of a file, put anew in its place. -/
theorem Rv.file5 (h : Rv w T rb L fs st) {i : Nat} {f : Rf} (hf : L[i]? = some f) : ∃ g ac, w.cell? ⟨rb, 0, none⟩ = some (.slice (some ⟨g, 0, none⟩) L.length ac) ∧ rb ≠ g ∧ (∀ k, k < 5 → w.cell? ⟨g, i * 5 + k, none⟩ = f.cells[k]?) ∧ (∀ k, w.frozen? ⟨g, k, none⟩ = false) ∧ T g ∧
    ∀ f' : Rf, Rv (((((w.setCell ⟨g, i * 5, none⟩ (.string f'.s)).setCell ⟨g, i * 5 + 1, none⟩ (.string ⟨f'.bs.toArray⟩)).setCell ⟨g, i * 5 + 2, none⟩ (.int .i64 (f'.la : Int))).setCell ⟨g, i * 5 + 3, none⟩ (.bool f'.th)).setCell ⟨g, i * 5 + 4, none⟩ (.bool f'.nl)) T rb (L.set i f') fs st ∧ Chg w (((((w.setCell ⟨g, i * 5, none⟩ (.string f'.s)).setCell ⟨g, i * 5 + 1, none⟩ (.string ⟨f'.bs.toArray⟩)).setCell ⟨g, i * 5 + 2, none⟩ (.int .i64 (f'.la : Int))).setCell ⟨g, i * 5 + 3, none⟩ (.bool f'.th)).setCell ⟨g, i * 5 + 4, none⟩ (.bool f'.nl)) T := by
  obtain ⟨g, ac, h1, h2, h3, h4, h5, _⟩ := h.file hf
  refine ⟨g, ac, h1, h2, h3, h4, h5, fun f' => ?_⟩
  obtain ⟨ao, ac', fo, fn, fc, k1, k2, k3, k4, k5⟩ := h.ex
  have e1 : ao = some ⟨g, 0, none⟩ ∧ ac' = ac := by
    have : w.cell? ⟨rb, 0, none⟩ = some (.slice ao L.length ac') := by rw [cell_at k1]; rfl
    rw [h1] at this
    simp at this
    exact ⟨this.1.symm, this.2.symm⟩
  obtain ⟨rfl, rfl⟩ := e1
  have hlt : i < L.length := (List.getElem?_eq_some_iff.1 hf).1
  have tg := k2.ty g rfl
  have s0 := k2.set (k := 0) (v := .string f'.s) (f' := { f with s := f'.s }) hf (by decide) rfl
  have s1 := s0.set (i := i) (f := { f with s := f'.s }) (k := 1) (v := .string ⟨f'.bs.toArray⟩) (f' := { f with s := f'.s, bs := f'.bs }) (by simp [hlt]) (by decide) rfl
  have s2 := s1.set (i := i) (f := { f with s := f'.s, bs := f'.bs }) (k := 2) (v := .int .i64 (f'.la : Int)) (f' := { f with s := f'.s, bs := f'.bs, la := f'.la }) (by simp [hlt]) (by decide) rfl
  have s3 := s2.set (i := i) (f := { f with s := f'.s, bs := f'.bs, la := f'.la }) (k := 3) (v := .bool f'.th) (f' := { f with s := f'.s, bs := f'.bs, la := f'.la, th := f'.th }) (by simp [hlt]) (by decide) rfl
  have s4 := s3.set (i := i) (f := { f with s := f'.s, bs := f'.bs, la := f'.la, th := f'.th }) (k := 4) (v := .bool f'.nl) (f' := f') (by simp [hlt]) (by decide) rfl
  simp only [List.set_set, Nat.add_zero] at s4
  have hC : Chg w _ (fun q => q = g) := ((((setCell_chg w g (i * 5) (.string f'.s)).trans (setCell_chg _ g (i * 5 + 1) (.string ⟨f'.bs.toArray⟩))).trans (setCell_chg _ g (i * 5 + 2) (.int .i64 (f'.la : Int)))).trans (setCell_chg _ g (i * 5 + 3) (.bool f'.th))).trans (setCell_chg _ g (i * 5 + 4) (.bool f'.nl))
  have hl : (L.set i f').length = L.length := by simp
  refine ⟨⟨⟨some ⟨g, 0, none⟩, ac', fo, fn, fc, ?_, ?_, k3.chg hC (fun a e k => (k4 a e).2.ne tg (by decide) k), fun a e => ⟨(k4 a e).1, (k4 a e).2.chg hC (fun k => (k4 a e).2.ne tg (by decide) k)⟩, k5⟩, h.tb, fun k hk => by simpa using h.lt k hk⟩, hC.mono (fun q _ e => e ▸ h5)⟩
  · rw [hl]; exact (hC.block rb (lt_of_heap k1) h2).trans k1
  · rw [hl]; exact s4

/-- Behind a Remove. -/
def rmL (L : List Rf) (i : Nat) (f : Rf) : List Rf := if f.nl = true then L.set i ⟨f.s, f.bs.take f.la, f.la, false, true⟩ else L.take i ++ L.drop (i + 1)

set_option maxRecDepth 100000 in
set_option maxHeartbeats 2000000 in
theorem remove_r_lost (h : Rv w T rb L fs st) (hl : L.length ≤ 100000) (s : ByteArray) (hc : (findR L s).2 ≠ 0) : Calls Try.prog 26 #[.pointer (some ⟨rb, 0, none⟩), .string s] w fun e w' => e = .returned (.int .i64 (findR L s).2) ∧ w' = w := by
  have hf := find_r h hl s
  have d : ((findR L s).2 != 0) = true := by simpa using hc
  generalize (findR L s).1 = q at *
  generalize (findR L s).2 = q2 at *
  clear h hc
  go_enter Try.func26, Try.ntmps26
  go_wp2_with fail
  refine hf.mono ?_
  rintro e w1 ⟨rfl, rfl⟩
  go_wp2
  go_ret
  exact ⟨rfl, rfl⟩

set_option maxRecDepth 100000 in
set_option maxHeartbeats 4000000 in
theorem remove_r (h : Rv w T rb L fs st) (hl : L.length ≤ 4000) (h0 : 0 ≤ st) (h1 : st < 4611686018427387904) {s : ByteArray} {i : Nat} {f : Rf} (hh : Hit L s i f) (hla : f.la ≤ f.bs.length) :
    Calls Try.prog 26 #[.pointer (some ⟨rb, 0, none⟩), .string s] w fun e w' => e = .returned (.int .i64 (stepC fs).1) ∧ Rn w w' T rb (if (stepC fs).1 = 0 then rmL L i f else L) fs.tail (st + 1) := by
  have hfd := find_r h (by omega) s
  rw [hh.find] at hfd
  have hst := step_r h h0 h1
  have hlt : i < L.length := (List.getElem?_eq_some_iff.1 hh.get).1
  have i1 : (0 : Int) ≤ (i : Int) := by omega
  have i2 : (i : Int) < (L.length : Int) := by omega
  have hget := hh.get
  by_cases hc : (stepC fs).1 = 0
  · rw [hc] at hst ⊢
    rw [if_pos rfl]
    generalize (stepC fs).2 = kp at *
    have HG : Hid _ := hget
    clear h hc hh hget
    cases hnl : f.nl with
    | true =>
      go_enter Try.func26, Try.ntmps26
      go_wp2_with fail
      refine hfd.mono ?_
      rintro e w1 ⟨rfl, rfl⟩
      go_wp2_with fail
      refine hst.mono ?_
      clear hst hfd
      rintro e w2 ⟨rfl, hR2, hC2⟩
      have ga := alloc_grown w2 (.cells #[.string f.s, .string ⟨f.bs.toArray⟩, .int .i64 (f.la : Int), .bool f.th, .bool f.nl] 101)
      have ka := World.alloc_heap_new w2 (.cells #[.string f.s, .string ⟨f.bs.toArray⟩, .int .i64 (f.la : Int), .bool f.th, .bool f.nl] 101)
      obtain ⟨g, ac, c0, hrg, hcl, fz, hTg, _⟩ := hR2.file5 HG.out
      obtain ⟨g', ac', c0', hrg', hcl', fz', hTg', hput⟩ := ((hR2.grown ga).grown (grown_drew _ none)).file5 HG.out
      have eg : g' = g ∧ ac' = ac := by
        have := (grown_trans ga (grown_drew _ none) (by simp)).cell c0 (by simp)
        rw [c0'] at this
        simp at this
        exact this
      obtain ⟨rfl, rfl⟩ := eg
      have q0 := hcl 0 (by decide)
      have q1 := hcl 1 (by decide)
      have q2 := hcl 2 (by decide)
      have q3 := hcl 3 (by decide)
      have q4 := hcl 4 (by decide)
      simp only [Rf.cells, List.getElem?_cons_zero, List.getElem?_cons_succ, Nat.add_zero] at q0 q1 q2 q3 q4
      have hgl := hR2.lt _ hTg
      have hput2 := hput ⟨f.s, f.bs.take f.la, f.la, false, true⟩
      have x0 := cell_of (i := 0) (v := .string f.s) ka rfl
      have x1 := cell_of (i := 1) (v := .string ⟨f.bs.toArray⟩) ka rfl
      have x2 := cell_of (i := 2) (v := .int .i64 (f.la : Int)) ka rfl
      have x4 := cell_of (i := 4) (v := .bool f.nl) ka rfl
      have hlb : f.la ≤ (⟨f.bs.toArray⟩ : ByteArray).size := by simpa [ByteArray.size] using hla
      have hca := ga.cell c0 (by simp)
      have p0 := ga.cell q0 (by simp)
      have p1 := ga.cell q1 (by simp)
      have p2 := ga.cell q2 (by simp)
      have p3 := ga.cell q3 (by simp)
      have p4 := ga.cell q4 (by simp)
      have fza : ∀ k, (w2.alloc (.cells #[.string f.s, .string ⟨f.bs.toArray⟩, .int .i64 (f.la : Int), .bool f.th, .bool f.nl] 101)).frozen? ⟨g', k, none⟩ = false := fun k => (World.frozen?_of_block (w := w2) (a := ⟨g', k, none⟩) (ga.block g' hgl (by simp))).trans (fz k)
      have hne : w2.heap.size ≠ g' := by omega
      have hfin : Hid (Rn w1 _ T rb (L.set i ⟨f.s, f.bs.take f.la, f.la, false, true⟩) fs.tail (st + 1)) := Rn.of hput2.1 (hC2.trans ((Chg.of_grown (grown_trans ga (grown_drew _ none) (by simp)) _).trans hput2.2))
      clear hput hput2 hcl hcl' hR2 hC2 c0' fz' ka ga
      simp only [hnl] at x0 x1 x2 x4 hca p0 p1 p2 p3 p4 q4 fza hfin
      have HLB : Hid _ := hlb
      have HLT : Hid _ := hlt
      clear hlb
      go_wp2_with fail
      generalize w2.alloc (.cells #[.string f.s, .string ⟨f.bs.toArray⟩, .int .i64 (f.la : Int), .bool f.th, .bool true] 101) = w3 at *
      refine wp_mono (reg26 w3 rb g' i L.length ac' w2.heap.size f.la _ _ HLB.out hca hrg hne HLT.out x0 x1 x2 _ _ _ _ _ p0 p1 p2 p3 p4 fza _ _ _ _ _ _ _ _ _ _ _ _ _ _ _ _ _ _ _ _ _ _ _ _ _ _ _ _ _ _ _ _ _ _ _ _ _ _ _ _ _ _ _ _ _ _ _ _ _ _ _ _ _ _ _ _ _ _ _ _ _ _ _ _ _ _ _ _ _ _ _) ?_
      rintro e a' w4 ⟨rfl, u37, u38, u39, u40, u41, u42, u43, u44, u45, u46, u47, u48, u49, u50, u51, u52, rfl, rfl⟩
      rw [ba_take0 _ _ hla]
      go_wp2
      go_ret
      exact ⟨rfl, by unfold rmL; rw [if_pos hnl]; exact hfin.out⟩
    | false =>
      go_enter Try.func26, Try.ntmps26
      go_wp2_with fail
      refine hfd.mono ?_
      rintro e w1 ⟨rfl, rfl⟩
      go_wp2_with fail
      refine hst.mono ?_
      clear hst hfd
      rintro e w2 ⟨rfl, hR2, hC2⟩
      have ga := alloc_grown w2 (.cells #[.string f.s, .string ⟨f.bs.toArray⟩, .int .i64 (f.la : Int), .bool f.th, .bool f.nl] 101)
      have ka := World.alloc_heap_new w2 (.cells #[.string f.s, .string ⟨f.bs.toArray⟩, .int .i64 (f.la : Int), .bool f.th, .bool f.nl] 101)
      have hR3 := hR2.grown ga
      obtain ⟨g, ac, c0, hrg, hcl, fz, hTg, _⟩ := hR2.file5 HG.out
      obtain ⟨ao, ac', fo, fn, fc, k0, _, _, fza, hrr, _⟩ := hR3.cells
      have hca := ga.cell c0 (by simp)
      have eg : ao = some ⟨g, 0, none⟩ ∧ ac' = ac := by
        rw [hca] at k0
        simp at k0
        exact ⟨k0.1.symm, k0.2.symm⟩
      obtain ⟨rfl, rfl⟩ := eg
      have hRs := hrr.shows
      have q0 := hcl 0 (by decide)
      have q1 := hcl 1 (by decide)
      have q2 := hcl 2 (by decide)
      have q3 := hcl 3 (by decide)
      have q4 := hcl 4 (by decide)
      simp only [Rf.cells, List.getElem?_cons_zero, List.getElem?_cons_succ, Nat.add_zero] at q0 q1 q2 q3 q4
      have x4 := cell_of (i := 4) (v := .bool f.nl) ka rfl
      have hrm := hrr.room
      unfold maxLen at hrm
      obtain ⟨hrm1, hrm2⟩ := hrm
      have hX1 := hRs.take i (by omega)
      have hrbl := hR3.lt rb hR3.tb
      have s1 : (0 : Int) ≤ (i : Int) := by omega
      have s2 : (i : Int) ≤ (ac' : Int) := by omega
      have t1 : (0 : Int) ≤ (i : Int) + 1 := by omega
      have t2 : (i : Int) + 1 ≤ (L.length : Int) := by omega
      have t3 : (i : Int) + 1 ≤ (ac' : Int) := by omega
      have wz : IntKind.i64.wrap ((i : Int) + 1) = ((i + 1 : Nat) : Int) := by rw [IntWalk.i64_in _ (by omega)]; push_cast; rfl
      have u1 : (0 : Int) ≤ ((i + 1 : Nat) : Int) := by omega
      have u2 : ((i + 1 : Nat) : Int) ≤ (L.length : Int) := by omega
      simp only [hnl] at x4 hca hRs hX1 hR3 hrr q4 ga fza k0 hrbl ka
      clear hcl ka k0 hrr
      go_wp2_with (at_builtin; (refine wpList_append_rf rfl _ _ rfl rfl (Rr.nil (w2.alloc (.cells #[.string f.s, .string ⟨f.bs.toArray⟩, .int .i64 (f.la : Int), .bool f.th, .bool false] 101)) (w2.alloc (.cells #[.string f.s, .string ⟨f.bs.toArray⟩, .int .i64 (f.la : Int), .bool f.th, .bool false] 101)).heap.size) rfl hX1 (by omega) (Nat.le_refl _) ?_))
      intro ro1 rc1 w4 hr1 hg4
      have hg4 : (w2.alloc (.cells #[.string f.s, .string ⟨f.bs.toArray⟩, .int .i64 (f.la : Int), .bool f.th, .bool false] 101)).grownBy w4 none := hg4
      have c04 := hg4.cell hca (by simp)
      have hs4 := hg4.size
      have hX3 : Rs w4 (if ac' = i + 1 then some ⟨g, 0, none⟩ else some ⟨g, (i + 1) * 5, none⟩) (L.length - (i + 1)) (ac' - (i + 1)) (L.drop (i + 1)) := by
        by_cases hia : ac' = i + 1
        · rw [if_pos hia]; exact Rs.drop (i := 0) (hRs.grown hg4) (i + 1) (by omega) 0 (.inl (by omega))
        · rw [if_neg hia]; exact Rs.drop (i := 0) (hRs.grown hg4) (i + 1) (by omega) ((i + 1) * 5) (.inr (by omega))
      go_wp2_with (at_builtin; (refine wpList_append_rf rfl _ _ rfl rfl hr1 rfl hX3 (by omega) (by have := hg4.size; simp at this; omega) ?_))
      all_goals
        intro ro3 rc3 w6 hr3 hg6
        have hb1 : ∀ q, blk ro1 = some q → (w2.alloc (.cells #[.string f.s, .string ⟨f.bs.toArray⟩, .int .i64 (f.la : Int), .bool f.th, .bool false] 101)).heap.size ≤ q := fun q hq => by have := (hr1.from_base q hq).1; simp; omega
        have hg36 : (w2.alloc (.cells #[.string f.s, .string ⟨f.bs.toArray⟩, .int .i64 (f.la : Int), .bool f.th, .bool false] 101)).grownBy w6 none := grown_trans hg4 hg6 (fun k e => Or.inr (hb1 k e))
        have c06 := hg36.cell hca (by simp)
        have f06 : w6.frozen? ⟨rb, 0, none⟩ = false := (World.frozen?_of_block (w := (w2.alloc (.cells #[.string f.s, .string ⟨f.bs.toArray⟩, .int .i64 (f.la : Int), .bool f.th, .bool false] 101))) (a := ⟨rb, 0, none⟩) (hg36.block rb hrbl (by simp))).trans (fza 0)
        have hfin : Hid (Rn w1 (w6.setCell ⟨rb, 0, none⟩ (.slice ro3 (i + (L.length - (i + 1))) rc3)) T rb (L.take i ++ L.drop (i + 1)) fs.tail (st + 1)) := Rn.after (hC2.trans (Chg.of_grown ga _)) (Rv.rerow hR3 hg36 (by simp) hr3)
        clear hr1 hr3 hX1 hX3 hg4 hg6 hR2 hC2 ga hR3 hRs
        go_wp2
        go_ret
        exact ⟨rfl, by unfold rmL; rw [if_neg (by simp [hnl])]; exact hfin.out⟩
  · rw [if_neg hc]
    have d2 : ((stepC fs).1 != 0) = true := by simpa using hc
    generalize (stepC fs).2 = kp at *
    generalize (stepC fs).1 = cd at *
    clear h hc hget
    go_enter Try.func26, Try.ntmps26
    go_wp2_with fail
    refine hfd.mono ?_
    rintro e w1 ⟨rfl, rfl⟩
    go_wp2_with fail
    refine hst.mono ?_
    clear hst hfd
    rintro e w2 ⟨rfl, hR2, hC2⟩
    go_wp2
    go_ret
    exact ⟨rfl, Rn.of hR2 hC2⟩
end
end Go.Proofs.Ythkbakaodbceiaa
