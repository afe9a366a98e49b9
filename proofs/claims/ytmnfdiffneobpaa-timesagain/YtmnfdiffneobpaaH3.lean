/-
  TimesHold: the walk of no records (a nil slice), and the whole.
-/
import Derived.Test.YtmnfdiffneobpaaH2
namespace Go.Proofs.Ytmnfdiffneobpaa
open Go.RowKit Go.Shelf
set_option linter.unusedVariables false

/-- An index without records. -/
theorem put_none {w : World} {b : Nat} {bs : Int} (h : Xd w b none 0 bs bs []) (hb0 : 0 ≤ bs) (hb1 : bs ≤ 9007199254740993) :
    Calls Try.prog 21 #[.pointer (some ⟨b, 0, none⟩), .slice none 0 0] w fun e w' => ∃ ro' rc', e = .returned (.int .i64 0) ∧ Xd w' b ro' rc' bs bs [] ∧ Fresh w ro' ∧ Chg w w' (fun k => k = b) := by
  have h9 := put_fresh h hb0 (n := 0) (by omega) none 0 0 [] ⟨rfl, fun h => by omega⟩ ⟨rfl, by omega⟩ (fun r hr => by cases hr) [] rfl
  rw [show bs + ((0 : Nat) : Int) = bs by omega] at h9
  exact h9
theorem srt_nil : Srt [] := fun a b ha => by simp at ha
theorem bytes_none {w : World} {b : Nat} {ro : Option Addr} {rc : Nat} {bs : Int} (hb0 : 0 ≤ bs) (hb1 : bs ≤ 1000000) (h : Xd w b ro rc bs bs []) :
    ∃ bl m, Hid (bl.length = m) ∧ 20 ≤ m ∧ m ≤ 10000 ∧ openOk bl ∧ (∀ j, j < bl.length → openMore (bl.take j)) ∧ (∀ b (V : World) (ro : Option Addr) (rc : Nat), Xd V b ro rc (n8 bl 0) (n8 bl 8) (scanL bl (cntB bl)) → Xd V b ro rc bs bs []) ∧
      Calls Try.prog 12 #[.pointer (some ⟨b, 0, none⟩)] w fun e w' => ∃ bo bc, e = .returned (.slice bo m bc) ∧ Ow w' w.heap.size 5 bo m bc bl ∧ w.grownBy w' none := by
  have e1 : bs + ((0 : Nat) : Int) = bs := by omega
  have h9 := bytes_rise (w := w) (b := b) (ro := ro) (rc := rc) (n := 0) (bs := bs) (ts := []) hb0 hb1 (by omega) rfl (fun t ht => by cases ht) (by rw [e1]; exact h)
  rw [e1] at h9
  exact h9

set_option maxRecDepth 100000 in
set_option maxHeartbeats 8000000 in
theorem timesHold_nil (w : World) (bs at' tm : Int) (hb0 : 0 ≤ bs) (hb1 : bs ≤ 1000000) :
    Calls Try.prog 5 #[.agg #[.int .i64 bs, .slice none 0 0, .int .i64 at', .int .i64 tm]] w fun e w' => e = .returned (.bool true) ∧ w.grownBy w' none := by
  have ga := alloc_grown w (.cells #[.int .i64 bs, .slice none 0 0, .int .i64 at', .int .i64 tm] 51)
  have k9 := World.alloc_heap_new w (.cells #[.int .i64 bs, .slice none 0 0, .int .i64 at', .int .i64 tm] 51)
  have gd := grown_trans ga (grown_drew (w.alloc (.cells #[.int .i64 bs, .slice none 0 0, .int .i64 at', .int .i64 tm] 51)) none) (by simp)
  have c0 := (grown_drew (w.alloc (.cells #[.int .i64 bs, .slice none 0 0, .int .i64 at', .int .i64 tm] 51)) none).cell (cell_of (i := 0) (v := .int .i64 bs) k9 rfl) (by simp)
  have c1 := (grown_drew (w.alloc (.cells #[.int .i64 bs, .slice none 0 0, .int .i64 at', .int .i64 tm] 51)) none).cell (cell_of (i := 1) (v := .slice none 0 0) k9 rfl) (by simp)
  have c2 := (grown_drew (w.alloc (.cells #[.int .i64 bs, .slice none 0 0, .int .i64 at', .int .i64 tm] 51)) none).cell (cell_of (i := 2) (v := .int .i64 at') k9 rfl) (by simp)
  have c3 := (grown_drew (w.alloc (.cells #[.int .i64 bs, .slice none 0 0, .int .i64 at', .int .i64 tm] 51)) none).cell (cell_of (i := 3) (v := .int .i64 tm) k9 rfl) (by simp)
  have ht : at'.tmod 1 = 0 := Int.tmod_one at'
  have d2 : decide (bs < 0) = false := by simp; omega
  have d3 : decide (1000000 < bs) = false := by simp; omega
  go_enter Try.func5, Try.ntmps5
  go_wp2_with fail
  go_region_held3 (fun w' => w'.cell? ⟨w.heap.size, 0, none⟩ = some (.int .i64 bs) ∧ w'.cell? ⟨w.heap.size, 1, none⟩ = some (.slice none 0 0) ∧ w'.cell? ⟨w.heap.size, 2, none⟩ = some (.int .i64 at') ∧ w'.cell? ⟨w.heap.size, 3, none⟩ = some (.int .i64 tm)) (first | exact ⟨c0, c1, c2, c3⟩ | go_keep) (fail)
  clear ga k9 c0 c1 c2 c3
  generalize (w.alloc (.cells #[.int .i64 bs, .slice none 0 0, .int .i64 at', .int .i64 tm] 51)).drew = wd at *
  have hma := mayAll_any (w := wd) none 0 0 [] ⟨rfl, fun h => by omega⟩ (by omega)
  rw [show ([] : List Rc).all Rc.may = true from rfl] at hma
  go_wp2_with fail
  refine hma.mono ?_
  rintro e w1 ⟨rfl, hg1⟩
  clear hma
  have hG1 := grown_trans gd hg1 (by simp)
  have hnx := new_ok w1 bs hb0 (by omega)
  go_wp2_with fail
  refine hnx.mono ?_
  rintro e w2 ⟨rfl, hX2, hg2⟩
  clear hnx
  have hG2 := grown_trans hG1 hg2 (by simp)
  have hpx : w1.heap.size < w2.heap.size := hX2.lt
  have hwpx : w.heap.size ≤ w1.heap.size := hG1.size
  generalize w1.heap.size = px at *
  have hna := new_ok w2 bs hb0 (by omega)
  go_wp2_with fail
  refine hna.mono ?_
  rintro e w3 ⟨rfl, hA3, hg3⟩
  clear hna
  have hX3 := hX2.grown hg3
  have hG3 := grown_trans hG2 hg3 (by simp)
  have hpa : w2.heap.size < w3.heap.size := hA3.lt
  generalize w2.heap.size = pa at *
  have hnb := new_ok w3 bs (by omega) (by omega)
  go_wp2_with fail
  refine hnb.mono ?_
  rintro e w4 ⟨rfl, hB4, hg4⟩
  clear hnb
  have hX4 := hX3.grown hg4
  have hA4 := hA3.grown hg4
  have hG4 := grown_trans hG3 hg4 (by simp)
  have hpb : w3.heap.size < w4.heap.size := hB4.lt
  generalize w3.heap.size = pb at *
  have hn4 := num_any w4 0
  go_wp2_with fail
  refine hn4.mono ?_
  rintro e w4' ⟨rfl, rfl⟩
  go_wp2_with fail
  refine hn4.mono ?_
  rintro e w4' ⟨rfl, rfl⟩
  go_wp2_with fail
  refine hn4.mono ?_
  rintro e w4' ⟨rfl, rfl⟩
  clear hn4
  have hpu := put_none hX4 hb0 (by omega)
  go_wp2_with fail
  refine hpu.mono ?_
  rintro e w5 ⟨rx, cx, rfl, hX5, hF5, hC5⟩
  clear hpu
  have hA5 := hA4.chg hC5 (show ¬ pa = px by omega) (fun q e2 => by cases e2)
  have hB5 := hB4.chg hC5 (show ¬ pb = px by omega) (fun q e2 => by cases e2)
  have hG5 : w.grownBy w5 none := ((Chg.of_grown hG4 _).trans hC5).grown (fun q hq e2 => by show False; change q = px at e2; omega)
  have hn5 := num_any w5 0
  go_wp2_with fail
  refine hn5.mono ?_
  rintro e w5' ⟨rfl, rfl⟩
  clear hn5
  have hpu := put_none hA5 hb0 (by omega)
  go_wp2_with fail
  refine hpu.mono ?_
  rintro e w6 ⟨ra, ca, rfl, hA6, hF6, hC6⟩
  clear hpu
  have hB6 := hB5.chg hC6 (show ¬ pb = pa by omega) (fun q e2 => by cases e2)
  have hxa : blk rx ≠ some pa := hX5.sw.not64 hA5.ix (by decide)
  have hX6 := hX5.chg hC6 (show ¬ px = pa by omega) (fun q e2 => by show ¬ q = pa; intro e3; exact hxa (e3 ▸ e2))
  have hG6 : w.grownBy w6 none := ((Chg.of_grown hG5 _).trans hC6).grown (fun q hq e2 => by show False; change q = pa at e2; omega)
  have hn6 := num_any w6 0
  go_wp2_with fail
  refine hn6.mono ?_
  rintro e w6' ⟨rfl, rfl⟩
  clear hn6
  have hpu := put_none hB6 (by omega) (by omega)
  go_wp2_with fail
  refine hpu.mono ?_
  rintro e w7 ⟨rb, cb, rfl, hB7, hF7, hC7⟩
  clear hpu
  have hxb : blk rx ≠ some pb := hX6.sw.not64 hB6.ix (by decide)
  have hX7 := hX6.chg hC7 (show ¬ px = pb by omega) (fun q e2 => by show ¬ q = pb; intro e3; exact hxb (e3 ▸ e2))
  have hab : blk ra ≠ some pb := hA6.sw.not64 hB6.ix (by decide)
  have hA7 := hA6.chg hC7 (show ¬ pa = pb by omega) (fun q e2 => by show ¬ q = pb; intro e3; exact hab (e3 ▸ e2))
  have hG7 : w.grownBy w7 none := ((Chg.of_grown hG6 _).trans hC7).grown (fun q hq e2 => by show False; change q = pb at e2; omega)
  have hfar : ∀ q, blk ra = some q → blk rb ≠ some q := fun q e1 e2 => by
    have h8 := hA6.rlt q e1
    have h9 := hF7 q e2
    omega
  have hfar2 : ∀ q, blk ra = some q → blk rx ≠ some q := fun q e1 e2 => by
    have h8 := hX5.rlt q e2
    have h9 := hF6 q e1
    omega
  have hra : ∀ q, blk ra = some q → w.heap.size ≤ q := fun q e1 => by
    have h8 := hG5.size
    have h9 := hF6 q e1
    omega
  have hn7 := num_any w7 0
  go_wp2_with fail
  refine hn7.mono ?_
  rintro e w7' ⟨rfl, rfl⟩
  clear hn7
  have hfi := find_any hX7 srt_nil tm
  rw [show findR [] tm = (0, false) from rfl] at hfi
  go_wp2_with fail
  refine hfi.mono ?_
  rintro e w8 ⟨rfl, hg8⟩
  clear hfi
  have hX9 := hX7.grown hg8
  have hA9 := hA7.grown hg8
  have hB9 := hB7.grown hg8
  have hG9 := grown_trans hG7 hg8 (by simp)
  clear hX2 hX3 hX4 hX5 hX6 hX7 hA3 hA4 hA5 hA6 hA7 hB4 hB5 hB6 hB7 hG1 hG2 hG3 hG4 hG5 hG6 hG7 hg1 hg2 hg3 hg4 hF5 hF6 hF7 hC5 hC6 hC7 hg8
  go_wp2_with fail
  go_loopw [16, 17] (fun v16 v17 wr => wr = w8 ∧ v16 = .int .i64 (-1) ∧ v17 = .int .i64 (-1)) (fun _ v17 _ => (intOf v17 + 1).toNat)
  case atStart => exact ⟨rfl, rfl, rfl⟩
  case round =>
    obtain ⟨rfl, rfl, rfl⟩ := hrel
    have hco := copy_any hX9
    go_wp2_with fail
    refine hco.mono ?_
    rintro e w10 ⟨pc, rc, cc, rfl, hP10, hpc, hFc, hg10⟩
    clear hco
    have hX10 := hX9.grown hg10
    have hA10 := hA9.grown hg10
    have hB10 := hB9.grown hg10
    have hG10 := grown_trans hG9 hg10 (by simp)
    have hxl := hX9.lt
    have hal := hA9.lt
    have hbl := hB9.lt
    have hcu := cut_ok hP10 srt_nil bs (by omega) (by omega)
    rw [List.filter_nil] at hcu
    go_wp2_with fail
    refine hcu.mono ?_
    rintro e w11 ⟨rfl, ⟨cc2, hP11⟩, hC11⟩
    clear hcu
    have hX11 := hX10.chg hC11 (show ¬ px = pc by omega) (fun q e2 => by show ¬ q = pc; have := hX9.rlt q e2; omega)
    have hA11 := hA10.chg hC11 (show ¬ pa = pc by omega) (fun q e2 => by show ¬ q = pc; have := hA9.rlt q e2; omega)
    have hB11 := hB10.chg hC11 (show ¬ pb = pc by omega) (fun q e2 => by show ¬ q = pc; have := hB9.rlt q e2; omega)
    have hG11 : w.grownBy w11 none := ((Chg.of_grown hG10 _).trans hC11).grown (fun q hq e2 => by show False; change q = pc at e2; have := hG9.size; omega)
    have hn11 := num_any w11 0
    go_wp2_with fail
    refine hn11.mono ?_
    rintro e w11' ⟨rfl, rfl⟩
    clear hn11
    have hsa := same_yes hP11 hA11
    go_wp2_with fail
    refine hsa.mono ?_
    rintro e w12 ⟨rfl, hg12⟩
    clear hsa
    have hX12 := hX11.grown hg12
    have hA12 := hA11.grown hg12
    have hB12 := hB11.grown hg12
    have hG12 := grown_trans hG11 hg12 (by simp)
    have hjo := join_ok hA12 hB12 (show pa ≠ pb by omega) hfar srt_nil (by omega) (by simp)
    rw [List.filter_nil, List.append_nil] at hjo
    clear hX9 hX10 hX11 hA9 hA10 hA11 hB9 hB10 hB11 hg10 hC11 hG10 hG9 hG11 hg12 hP10 hP11

    go_wp2_with fail
    refine hjo.mono ?_
    rintro e w13 ⟨rfl, ra2, ca2, hA13, hN13, hC13⟩
    clear hjo
    have hxar : blk ra ≠ some px := hA12.sw.not64 hX12.ix (by decide)
    have hxa2 : blk rx ≠ some pa := hX12.sw.not64 hA12.ix (by decide)
    have hX13 := hX12.chg hC13 (fun e2 => by rcases e2 with e2 | e2; omega; exact hxar e2) (fun q e1 e2 => by
      rcases e2 with e2 | e2
      · exact hxa2 (e2 ▸ e1)
      · exact hfar2 q e2 e1)
    have hG13 : w.grownBy w13 none := ((Chg.of_grown hG12 _).trans hC13).grown (fun q hq e2 => by
      rcases e2 with e2 | e2
      · omega
      · have := hra q e2; omega)
    have hn13 := num_any w13 0
    go_wp2_with fail
    refine hn13.mono ?_
    rintro e w13' ⟨rfl, rfl⟩
    clear hn13
    have hsa := same_yes hA13 hX13
    go_wp2_with fail
    refine hsa.mono ?_
    rintro e w14 ⟨rfl, hg14⟩
    clear hsa
    have hX14 := hX13.grown hg14
    have hG14 := grown_trans hG13 hg14 (by simp)
    obtain ⟨bl, m, hm, hm1, hm2, hiok, himo, hopen', hby⟩ := bytes_none hb0 hb1 hX14
    clear hA13 hA12 hX12 hX13 hC13 hN13 hB12
    go_wp2_with fail
    refine hby.mono ?_
    rintro e w15 ⟨bo, bc, rfl, hO15, hg15⟩
    clear hby
    have hX15 := hX14.grown hg15
    have hG15 := grown_trans hG14 hg15 (by simp)
    obtain ⟨gb, rfl, _, _⟩ := hO15.addr (by omega)
    have hS15 := hO15.shows
    have hroom := hS15.room
    obtain ⟨t', ht', ht1', ht2'⟩ := into at' m (by omega)
    obtain ⟨v', hv'⟩ : ∃ v : Nat, t' + (m : Int) = (v : Int) := ⟨(t' + (m : Int)).toNat, by omega⟩
    obtain ⟨y, hy, hyn⟩ := into2 v' m (by omega)
    have d10 : ((m : Int) == 0) = false := by simp; omega
    have d11 : ¬ (m : Int) = 0 := by omega
    have i5 : (0 : Int) ≤ (y : Int) := by omega
    have i6 : (y : Int) ≤ (bc : Int) := by omega
    have hop := open_any w15 (some ⟨gb, 0, none⟩) y bc (bl.take y) (hS15.take y (by omega)) (by omega)
    have hmo := himo y (by have := hm.out; omega)
    go_wp2_with fail
    refine hop.mono ?_
    rintro e w16 ⟨hg16, hor⟩
    clear hop
    have he : e = .returned (.tuple #[.pointer none, .int .i64 111]) := by
      rcases hor with ⟨_, h9⟩ | ⟨h9, _⟩ | ⟨h9, _⟩
      · exact h9
      · exact absurd hmo h9
      · exact absurd hmo (open_not_more h9)
    subst he
    clear hor hmo himo
    have hX16 := hX15.grown hg16
    have hG16 := grown_trans hG15 hg16 (by simp)
    have hop := open_any w16 (some ⟨gb, 0, none⟩) m bc bl (hS15.grown hg16) (by omega)
    go_wp2_with fail
    refine hop.mono ?_
    rintro e w17 ⟨hg17, hor⟩
    clear hop
    have he : ∃ b ro rc, e = .returned (.tuple #[.pointer (some ⟨b, 0, none⟩), .int .i64 0]) ∧ Xd w17 b ro rc bs bs [] := by
      rcases hor with ⟨h9, _⟩ | ⟨_, h9, _⟩ | ⟨_, b, ro, rc, h9, h10, _⟩
      · exact absurd h9 (open_not_more hiok)
      · exact absurd hiok h9
      · exact ⟨b, ro, rc, h9, hopen' _ _ _ _ h10⟩
    obtain ⟨pz, rz, cz, rfl, hZ17⟩ := he
    clear hor hiok hopen'
    have hX17 := hX16.grown hg17
    have hG17 := grown_trans hG16 hg17 (by simp)
    have hn17 := num_any w17 111
    go_wp2_with fail
    refine hn17.mono ?_
    rintro e w17' ⟨rfl, rfl⟩
    clear hn17
    have hn17 := num_any w17' 0
    go_wp2_with fail
    refine hn17.mono ?_
    rintro e w17'' ⟨rfl, rfl⟩
    clear hn17
    have hsa := same_yes hZ17 hX17
    go_wp2_with fail
    refine hsa.mono ?_
    rintro e w18 ⟨rfl, hg18⟩
    clear hsa
    have hwk := works_any w18
    have hG18 := grown_trans hG17 hg18 (by simp)
    go_wp2_with fail
    refine hwk.mono ?_
    rintro e w19 ⟨rfl, hg19⟩
    clear hwk
    have hG19 := grown_trans hG18 hg19 (by simp)
    go_wp2
    go_ret
    exact ⟨rfl, hG19⟩


theorem timesHold_any (w : World) (bs at' tm : Int) (so : Option Addr) (n sc : Nat) (rl : List Rc) (hR : Rs w so n rl) (hsc : n ≤ sc) (hst : sc ≤ maxLen) (hnil : so = none → sc = 0) (hat : ∀ a, so = some a → ∃ g o, a = ⟨g, o, none⟩ ∧ g < w.heap.size) :
    Calls Try.prog 5 #[.agg #[.int .i64 bs, .slice so n sc, .int .i64 at', .int .i64 tm]] w fun e w' => e = .returned (.bool true) ∧ w.grownBy w' none := by
  by_cases h : 300 < n ∨ rl.all Rc.may = false ∨ bs < 0 ∨ 1000000 < bs
  · exact timesHold_not w bs at' tm so n sc rl hR h
  · have h2 : rl.all Rc.may = true := by
      cases h9 : rl.all Rc.may with
      | true => rfl
      | false => exact absurd (.inr (.inl h9)) h
    have h3 : ¬ (300 < n) := fun h9 => h (.inl h9)
    have h4 : ¬ (bs < 0) := fun h9 => h (.inr (.inr (.inl h9)))
    have h5 : ¬ (1000000 < bs) := fun h9 => h (.inr (.inr (.inr h9)))
    cases so with
    | none =>
      obtain rfl := hnil rfl
      obtain rfl : n = 0 := by omega
      exact timesHold_nil w bs at' tm (by omega) (by omega)
    | some a =>
      obtain ⟨g, o, rfl, hg⟩ := hat a rfl
      obtain ⟨t, ht, ht1, ht2⟩ := into at' (n + 1) (by omega)
      obtain ⟨v, hv⟩ : ∃ v : Nat, t + (n : Int) + 1 = (v : Int) := ⟨(t + (n : Int) + 1).toNat, by omega⟩
      obtain ⟨k, hk, hkn⟩ := into2 v (n + 1) (by omega)
      by_cases hck : sc = k
      · subst hck
        exact timesHold_eq _ _ v t w bs at' tm g o n rl hR hg hsc hst (by omega) h2 (by omega) (by omega) rfl ht ht1 ht2 hv hk hkn
      · exact timesHold_ne k _ v t w bs at' tm g o n sc rl hR hg hsc hst (by omega) h2 (by omega) (by omega) rfl ht ht1 ht2 hv hk hkn hck
end Go.Proofs.Ytmnfdiffneobpaa
