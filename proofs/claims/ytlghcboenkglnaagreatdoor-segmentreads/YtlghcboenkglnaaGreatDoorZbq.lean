import Derived.Test.YtlghcboenkglnaaGreatDoorZbp
import Derived.Deep.RegionHeld3
import Derived.Test.YtlghcboenkglnaaGreatDoorZav
import Derived.BigQuiet
import Derived.Deep.QuietTactic
/-
  Create, of what may be.
-/
namespace Go.Proofs.YtlghcboenkglnaaGreatDoor
open Go.RowKit
set_option linter.unusedVariables false

theorem segN_named {s : ByteArray} {x : Nat} (h : logB s = true) : Dsk.nameB (segN s x) = true := by
  unfold Dsk.nameB
  have hs := segN_size s x
  have hl := segN_list s x
  unfold logB at h
  simp only [Bool.and_eq_true, decide_eq_true_eq, List.all_eq_true] at h
  simp only [Bool.and_eq_true, decide_eq_true_eq, List.all_eq_true]
  refine ⟨⟨by omega, by omega⟩, fun c hc => ?_⟩
  rw [hl, List.mem_append, List.mem_cons] at hc
  unfold Dsk.okc
  rcases hc with hc | hc | hc
  · have := h.2 c hc
    unfold okl at this
    simp at this ⊢
    omega
  · subst hc; rfl
  · unfold digs at hc
    obtain ⟨i, _, rfl⟩ := List.mem_map.1 hc
    have := hexd_ok (dig_lt x i)
    simp
    omega
section
variable {w w' : World} {d i : Nat} {fs : List (Int × Int)} {st : Int} {T U : Nat → Prop} {L : List Dsk.Rf}
/-- The file of a segment that is new. -/
def fi0 (s : ByteArray) (x d b : Nat) : Fi := ⟨0, x, 0, 150, d, segN s x, x, b⟩
set_option maxRecDepth 100000 in
set_option maxHeartbeats 2000000 in
theorem create_yes (h : Dsk.Pv w T d L fs st i) (hi : i < 4000) (s : ByteArray) (x : Nat) (step : Int) (hl : logB s = true) (hx : x ≤ 9007199254740992) (h1 : 1 ≤ step) (h2 : step ≤ 16777216) :
    Calls Tryz.prog 12 #[.pointer (some ⟨d, 0, none⟩), .string s, .int .i64 x, .int .i64 step] w fun e w' =>
      ((Dsk.creA L fs st (segN s x)).c ≠ 0 ∧ e = .returned (.tuple #[.pointer none, .int .i64 (Dsk.creA L fs st (segN s x)).c]) ∧ Dsk.Pn w w' T d (Dsk.creA L fs st (segN s x)).L (Dsk.creA L fs st (segN s x)).fs (Dsk.creA L fs st (segN s x)).st (i + 1)) ∨
      ((Dsk.creA L fs st (segN s x)).c = 0 ∧ ∃ sb b T' U', e = .returned (.tuple #[.pointer (some ⟨sb, 0, none⟩), .int .i64 0]) ∧ Sg w' T' U' sb (fi0 s x d b) step [] (Dsk.creA L fs st (segN s x)).L (Dsk.creA L fs st (segN s x)).fs (Dsk.creA L fs st (segN s x)).st (i + 1) ∧ (∀ k, T' k → T k ∨ w.heap.size ≤ k) ∧ (∀ k, U' k → w.heap.size ≤ k) ∧ w.heap.size ≤ sb ∧ Chg w w' T) := by
  have hz : s.size ≤ 8 := by unfold logB at hl; simp at hl; omega
  have hf := fun W (hW : w.grownBy W none) => fileOf_ok (h.grown hW) (segN s x) s x step (parseV_name hl hx) (by rw [segN_size]; unfold maxLen; omega) h1 h2
  unfold Fi.val Fi.cells at hf
  dsimp only at hf
  have hn := name_ok w s x hl hx
  have hseg : (⟨(nameL s x).toArray⟩ : ByteArray) = segN s x := rfl
  rw [hseg] at hn
  clear hseg
  generalize hA : Dsk.creA L fs st (segN s x) = A at *
  go_enter Tryz.func12, Tryz.ntmps12
  go_wp2_with fail
  refine hn.mono ?_
  rintro e w1 ⟨rfl, hg1⟩
  go_wp2_with fail
  refine (hf _ hg1).mono ?_
  rintro e w2 ⟨b, rfl, hX, hg2⟩
  go_wp2_with fail
  have hlt := h.lt
  have htb := h.tb
  obtain ⟨W, hW⟩ : ∃ W, w2.alloc (.cells #[.int .i64 0, .int .i64 x, .int .i64 0, .int .i64 150, .pointer (some ⟨d, 0, none⟩), .string (segN s x), .int .i64 x, .pointer (some ⟨b, 0, none⟩)] 102) = W := ⟨_, rfl⟩
  have hWn : W.heap[w2.heap.size]? = some (.cells #[.int .i64 0, .int .i64 x, .int .i64 0, .int .i64 150, .pointer (some ⟨d, 0, none⟩), .string (segN s x), .int .i64 x, .pointer (some ⟨b, 0, none⟩)] 102) := by rw [← hW]; exact World.alloc_heap_new _ _
  have hgW : w2.grownBy W none := by rw [← hW]; exact alloc_grown _ _
  rw [hW]
  clear hW
  have hg := grown_trans (grown_trans hg1 hg2 (by simp)) hgW (by simp)
  have hcr := Dsk.cre_P (h.grown hg) hi (segN s x)
  rw [hA] at hcr
  refine hcr.mono ?_
  rintro e w3 ⟨rfl, ⟨T', hP, hT⟩, hC⟩
  have hX3 := (hX.grown hgW).chg hC (fun k hk e => by have := hlt k e; have := hg1.size; have := hk.1; omega)
  have hk3 : w3.heap[w2.heap.size]? = _ := (hC.block w2.heap.size (lt_of_heap hWn) (fun e => by have := hlt _ e; have := (grown_trans hg1 hg2 (by simp)).size; omega)).trans hWn
  have hCw : Chg w w3 T := (Chg.of_grown hg T).trans hC
  have hs2 := (grown_trans hg1 hg2 (by simp)).size
  have hs3 := hgW.size
  have hs4 := hC.size
  by_cases hc : A.c = 0
  · have hd : (A.c != 0) = false := by simpa using hc
    have c0 := cell_at hk3 (i := 0)
    have c1 := cell_at hk3 (i := 1)
    have c2 := cell_at hk3 (i := 2)
    have c3 := cell_at hk3 (i := 3)
    have c4 := cell_at hk3 (i := 4)
    have c5 := cell_at hk3 (i := 5)
    have c6 := cell_at hk3 (i := 6)
    have c7 := cell_at hk3 (i := 7)
    simp only [List.getElem?_toArray, List.getElem?_cons_zero, List.getElem?_cons_succ] at c0 c1 c2 c3 c4 c5 c6 c7
    go_wp2
    go_ret2
    have hbx := World.alloc_heap_new w3 (.cells #[.int .i64 0, .int .i64 x, .int .i64 0, .int .i64 150, .pointer (some ⟨d, 0, none⟩), .string (segN s x), .int .i64 x, .pointer (some ⟨b, 0, none⟩)] 104)
    have hbg := alloc_grown w3 (.cells #[.int .i64 0, .int .i64 x, .int .i64 0, .int .i64 150, .pointer (some ⟨d, 0, none⟩), .string (segN s x), .int .i64 x, .pointer (some ⟨b, 0, none⟩)] 104)
    refine .inr ⟨hc, w3.heap.size, b, T', Dsk.Nw w1 w2, rfl, ⟨hbx, hP.grown hbg, hX3.grown hbg, fun k h3 h4 => ?_, fun e => Nat.lt_irrefl _ (hP.lt _ e), fun e => by have := e.2; omega⟩, fun k hk => ?_, fun k hk => Nat.le_trans hg1.size hk.1, Nat.le_trans (Nat.le_trans hs2 hs3) hs4, hCw.trans (Chg.of_grown hbg T)⟩
    · rcases hT k h3 with h5 | h5
      · have := hlt k h5
        have := hg1.size
        have := h4.1
        omega
      · have := h4.2
        omega
    · rcases hT k hk with h5 | h5
      · exact .inl h5
      · exact .inr (by omega)
  · have hd : (A.c != 0) = true := by simpa using hc
    go_wp2
    go_ret2
    refine .inl ⟨hc, rfl, ⟨T', hP, fun k hk => ?_⟩, hCw⟩
    rcases hT k hk with h5 | h5
    · exact .inl h5
    · exact .inr (by omega)
end
end Go.Proofs.YtlghcboenkglnaaGreatDoor

/-
  A batch more behind those that are found.
-/
namespace Go.Proofs.YtlghcboenkglnaaGreatDoor
open Go.RowKit
set_option linter.unusedVariables false

section
variable {w w' : World} {U : Nat → Prop} {t : TypeId} {s : Nat} {f : Fi} {step : Int} {l : List Idx.Sd}
def Fi.grow (f : Fi) (r z : Int) : Fi := ⟨f.k + 1, f.e + r, f.z + z, f.y, f.d, f.nm, f.ba, f.x⟩
set_option maxRecDepth 100000 in
set_option maxHeartbeats 2000000 in
theorem grow_yes (hs : Lf w s t f) (hX : Xu w U f.x step l) (us : ¬ U s) (hD : Idx.Dt w) (hgood : Idx.Good l) (h1 : 1 ≤ step) (hlen : l.length < 100000) (r z : Int)
    (hk : 0 ≤ f.k ∧ f.k < 1000000000) (he : 0 ≤ f.e ∧ f.e < 100000000000000000) (hz : 0 ≤ f.z ∧ f.z < 1000000000) (hr : 0 ≤ r ∧ r < 1000000000) (hzz : 0 ≤ z ∧ z < 1000000000) :
    Calls Tryz.prog 61 #[.pointer (some ⟨s, 0, none⟩), .int .i64 r, .int .i64 z] w fun e w' => (∃ v, e = .returned v) ∧ Lf w' s t (f.grow r z) ∧ (∃ U', Xu w' U' f.x step (Idx.addR step l ⟨f.e, f.z⟩).2.2 ∧ ∀ k, U' k → U k ∨ w.heap.size ≤ k) ∧ Chg w w' (fun k => U k ∨ k = s) := by
  have hgd : w.grownBy w.drew none := grown_drewN w 1 none
  have hadd := (hX.grown hgd).add (hD.grown hgd) hgood h1 hlen ⟨f.e, f.z⟩
  have hsd := hs.grown hgd
  generalize hl2 : (Idx.addR step l ⟨f.e, f.z⟩).2.2 = l2 at *
  unfold Lf at hs hsd
  obtain ⟨k, e, zz, y, d, nm, ba, x⟩ := f
  unfold Fi.grow
  unfold Fi.cells at hs hsd
  unfold Idx.Sd.val at hadd
  dsimp only at hs hsd hk he hz hX hadd ⊢
  have k1 := cell_at hs (i := 1)
  have k2 := cell_at hs (i := 2)
  have k4 := cell_at hs (i := 4)
  have k7 := cell_at hs (i := 7)
  have d1 := cell_at hsd (i := 1)
  have d2 := cell_at hsd (i := 2)
  have d4 := cell_at hsd (i := 4)
  have d7 := cell_at hsd (i := 7)
  simp only [List.getElem?_toArray, List.getElem?_cons_zero, List.getElem?_cons_succ] at k1 k2 k4 k7 d1 d2 d4 d7
  go_enter Tryz.func61, Tryz.ntmps61
  go_wp2_with fail
  go_region_held3 (fun w' => w'.cell? ⟨s, 1, none⟩ = some (.int .i64 e) ∧ w'.cell? ⟨s, 2, none⟩ = some (.int .i64 zz) ∧ w'.cell? ⟨s, 7, none⟩ = some (.pointer (some ⟨x, 0, none⟩))) (first | exact ⟨k1, k2, k7⟩ | exact ⟨d1, d2, d7⟩ | exact ⟨x1, x2, x7⟩)
    ((go_at_call 105; refine hadd.mono ?_; rintro e9 w2 ⟨⟨v, rfl⟩, hU, hC⟩; have h2 := (hC.block s (lt_of_heap hsd) us).trans hsd; have x1 := cell_at h2 (i := 1); have x2 := cell_at h2 (i := 2); have x7 := cell_at h2 (i := 7); simp only [List.getElem?_toArray, List.getElem?_cons_zero, List.getElem?_cons_succ] at x1 x2 x7))
  have x0 := cell_at h2 (i := 0)
  simp only [List.getElem?_toArray, List.getElem?_cons_zero] at x0
  have f0 := fz_at h2 0
  have f1 := fz_at h2 1
  have f2 := fz_at h2 2
  clear hadd k1 k2 k4 k7 d1 d2 d4 d7
  go_wp2
  obtain ⟨W, hW, hWk, hWc⟩ := put8a (.int .i64 (k + 1)) (.int .i64 (e + r)) (.int .i64 (zz + z)) h2
  rw [← hW]
  refine bodyPost_end (v := .tuple #[]) (by simp [results, Tryz.results61]) rfl ?_
  obtain ⟨U', hU1, hU2⟩ := hU
  have hns : ¬ U' s := fun e9 => by
    rcases hU2 s e9 with h9 | h9
    · exact us h9
    · have := lt_of_heap hs
      have := hgd.size
      omega
  refine ⟨⟨_, rfl⟩, hWk, ⟨U', hU1.chg hWc (fun q hq e9 => hns (e9 ▸ hq)), fun q hq => (hU2 q hq).imp id (fun h9 => Nat.le_trans hgd.size h9)⟩, ?_⟩
  exact ((Chg.of_grown hgd _).trans (hC.mono (fun q _ e9 => .inl e9))).trans (hWc.mono (fun q _ e9 => .inr e9))
end
end Go.Proofs.YtlghcboenkglnaaGreatDoor

/-
  The disk's Append of many bytes.
-/
namespace Go.Proofs.YtlghcboenkglnaaGreatDoor.Dsk
open Go.Proofs.YtlghcboenkglnaaGreatDoor
open Go.RowKit Go.Maps Go.WideMaps
set_option linter.unusedVariables false

section
variable {w w' : World} {b m base : Nat} {fs fs' : List (Int × Int)} {st st' : Int} {n i i' : Nat} {D : DataW Unit} {X : Nat → Fm} {B : Nat → List UInt8} {T T' : Nat → Prop} {L : List Rf} {s : ByteArray}
theorem Iv.monos [FO : Inhabited (Nat → Prop)] (h : Iv w b m base fs st n D X B i) : ∀ c, Iv w b m base fs st n D X B (i + c)
  | 0 => h
  | c + 1 => (Iv.monos h c).mono
theorem Pv.monos (h : Pv w T b L fs st i) : ∀ c, Pv w T b L fs st (i + c)
  | 0 => h
  | c + 1 => (Pv.monos h c).mono
theorem append_q (h : Pv w T b L fs st i) (c : Nat) (hi : i + c < 4000) {s : ByteArray} {j : Nat} {f : Rf} (hh : Hit L s j f) {xo : Option Addr} {k xc : Nat} {x : List UInt8} (hx : Bs w xo k xc x) (hk : k ≤ 3000 * (c + 1)) (hxT : ∀ a, xo = some a → k = 0 ∨ ¬ T a.block) (y : Nat) (hy : (stepR fs k).1 = (y : Int)) :
    Calls Tryz.prog 24 #[.pointer (some ⟨b, 0, none⟩), .string s, .slice xo k xc] w fun e w' => e = .returned (.int .i64 (stepR fs k).2) ∧ Pn w w' T b (L.set j { f with bs := f.bs ++ x.take y }) fs.tail (st + 1) (i + c + 1) := by
  letI FO : Inhabited (Nat → Prop) := ⟨T⟩
  obtain ⟨m, n, D, X, B, hI, hM, tm, tg⟩ := h.ex
  have h0 := hI.st0
  have h1 : st < 4611686018427387904 := by have := hI.st1; omega
  obtain ⟨g, bo, bc, hg, hX, hB, hf, hla, hbn, ho, hbb, hbg, hne⟩ := Iv.hit hI hM hh
  obtain ⟨j2, hj2, hjk⟩ := stepR_le fs k
  rw [hy] at hj2
  obtain rfl : y = j2 := by omega
  have hlen : (x.take y).length = y := by rw [List.length_take, hx.len]; omega
  refine (append_gen s g 0 (Nat.zero_le _) hI.ds h0 h1 hh.nm hg hf hne f.bs ho xo k xc x hx (fun a e => (hxT a e).imp id (fun h9 e2 => h9 (e2 ▸ h.tb))) hbb hbg (by omega) y hy hjk).mono ?_
  rintro e w2 ⟨rfl, bo', bc', hf', ho', hL, hd, hC⟩
  have hC' : Chg w w2 (fun q => q = b ∨ q = g ∨ blk (X g).bo = some q) := by rw [hX]; exact hC
  have hLi : Lies w (X g).bo (⟨bo', f.bs.length + y, bc', (f.la : Int), true, f.nl⟩ : Fm).bo := by rw [hX]; exact hL
  have hI2 := (hI.monos c).file hg hd ⟨bo', f.bs.length + y, bc', (f.la : Int), true, f.nl⟩ (f.bs ++ x.take y) hf' ho' ⟨f.la, rfl, by simp only; omega, by simp only; omega⟩ hLi hC'
  exact ⟨rfl, Pn.filed h hM tm tg hI.inj hh hg hI2 ⟨by simp [hlen], rfl, hh.th.symm, rfl, rfl⟩ rfl hLi hC'⟩
theorem app_Q (h : Pv w T b L fs st i) (c : Nat) (hi : i + c < 4000) (s : ByteArray) {xo : Option Addr} {k xc : Nat} {x : List UInt8} (hx : Bs w xo k xc x) (hk : k ≤ 3000 * (c + 1)) (hxT : ∀ a, xo = some a → k = 0 ∨ ¬ T a.block) : Calls Tryz.prog 24 #[.pointer (some ⟨b, 0, none⟩), .string s, .slice xo k xc] w (PA w T b (i + c) (appA L fs st s x)) := by
  rcases find_or L s with hc | ⟨j, f, hh, hlk, hc⟩
  · unfold appA
    rw [hitA_lost _ hc]
    refine (append_lost (h.lost s hc) _).mono ?_
    rintro e w2 ⟨rfl, rfl⟩
    exact ⟨rfl, Pn.refl (h.monos c)⟩
  · unfold appA
    rw [hitA_hit _ hh, hx.len]
    exact append_q h c hi hh hx hk hxT _ (step_nat fs k).1
end
end Go.Proofs.YtlghcboenkglnaaGreatDoor.Dsk

/-
  Append.
-/
namespace Go.Proofs.YtlghcboenkglnaaGreatDoor
open Go.RowKit
set_option linter.unusedVariables false

section
variable {w w' : World} {i : Nat} {fs : List (Int × Int)} {st : Int} {T U : Nat → Prop} {L : List Dsk.Rf} {s : Nat} {f : Fi} {step : Int} {l : List Idx.Sd}
set_option maxRecDepth 100000 in
set_option maxHeartbeats 2000000 in
/-- Append: what record.Put refuses, or what is not the end. -/
theorem append_no1 (h : Sg w T U s f step l L fs st i) (base : Int) (ao : Option Addr) (n cap : Nat) (rs : List Rec.Rc) (ha : Rec.Rs w ao n cap rs) (hs : Rec.Small rs) (hm : (Rec.measR base rs).2 ≠ 0) :
    Calls Tryz.prog 15 #[.pointer (some ⟨s, 0, none⟩), .agg #[.int .i64 base, .slice ao n cap]] w fun e w' => e = .returned (.int .i64 (Rec.measR base rs).2) ∧ w.grownBy w' none := by
  have hg0 := alloc_grown w (.cells #[.int .i64 base, .slice ao n cap] 54)
  have ht := told_yes _ s f (h.seg.grown hg0)
  unfold Fi.val Fi.cells at ht
  have hd : ((Rec.measR base rs).2 != 0) = true := by simpa using hm
  have hpt := fun W (hW : w.grownBy W none) => Rec.put_not W base ao n cap rs (ha.grown hW) hs hm
  generalize (Rec.measR base rs).2 = C at *
  have hb := World.alloc_heap_new w (.cells #[.int .i64 base, .slice ao n cap] 54)
  go_enter Tryz.func15, Tryz.ntmps15
  go_wp2_with fail
  refine ht.mono ?_
  rintro e w1 ⟨rfl, hg1⟩
  have q0 := fa1
  have hb1 := heap_kept hg1 hb (by simp)
  have c0 := cell_at hb1 (i := 0)
  have c1 := cell_at hb1 (i := 1)
  simp only [List.getElem?_toArray, List.getElem?_cons_zero, List.getElem?_cons_succ] at c0 c1
  go_wp2_with fail
  refine (hpt _ (grown_trans hg0 hg1 (by simp))).mono ?_
  rintro e w2 ⟨rfl, hg2⟩
  go_wp2
  go_ret
  exact ⟨rfl, grown_trans (grown_trans hg0 hg1 (by simp)) hg2 (by simp)⟩
end
end Go.Proofs.YtlghcboenkglnaaGreatDoor

/-
  Append: a batch at the end.
-/
namespace Go.Proofs.YtlghcboenkglnaaGreatDoor
open Go.RowKit
set_option linter.unusedVariables false

/-- What an Append leaves that the disk takes. -/
def Ap (w w' : World) (T U : Nat → Prop) (s : Nat) (f : Fi) (step : Int) (l : List Idx.Sd) (A : Dsk.An) (i : Nat) (r z : Int) : Prop :=
  ∃ T' U', Sg w' T' U' s (f.grow r z) step (Idx.addR step l ⟨f.e, f.z⟩).2.2 A.L A.fs A.st i ∧ (∀ k, T' k → T k ∨ w.heap.size ≤ k) ∧ (∀ k, U' k → U k ∨ w.heap.size ≤ k) ∧ Chg w w' (fun k => T k ∨ U k ∨ k = s)
section
variable {w w' : World} {i : Nat} {fs : List (Int × Int)} {st : Int} {T U : Nat → Prop} {L : List Dsk.Rf} {s : Nat} {f : Fi} {step : Int} {l : List Idx.Sd}
set_option maxRecDepth 100000 in
set_option maxHeartbeats 4000000 in
theorem append_yes (h : Sg w T U s f step l L fs st i) (hi : i + 21 < 4000) (hD : Idx.Dt w) (hT0 : ¬ T 0) (hgood : Idx.Good l) (h1 : 1 ≤ step) (hlen : l.length < 100000) (ao : Option Addr) (n cap : Nat) (rs : List Rec.Rc) (ha : Rec.Rs w ao n cap rs) (hs : Rec.Small rs) (hm : (Rec.measR f.e rs).2 = 0)
    (hk : 0 ≤ f.k ∧ f.k < 1000000000) (he : 0 ≤ f.e ∧ f.e < 100000000000000000) (hz : 0 ≤ f.z ∧ f.z < 1000000000) (A : Dsk.An) (hA : Dsk.appA L fs st f.nm (Rec.batB f.e rs) = A) :
    Calls Tryz.prog 15 #[.pointer (some ⟨s, 0, none⟩), .agg #[.int .i64 f.e, .slice ao n cap]] w fun e w' => e = .returned (.int .i64 A.c) ∧
      ((A.c ≠ 0 ∧ (∃ T', Sg w' T' U s f step l A.L A.fs A.st (i + 22) ∧ ∀ k, T' k → T k ∨ w.heap.size ≤ k) ∧ Chg w w' T) ∨ (A.c = 0 ∧ Ap w w' T U s f step l A (i + 22) n (20 + Rec.szs rs : Nat))) := by
  have hg0 := alloc_grown w (.cells #[.int .i64 f.e, .slice ao n cap] 54)
  have ht := told_yes _ s f (h.seg.grown hg0)
  have hseg := fun W (hW : w.grownBy W none) => h.seg.grown hW
  have hz20 : 20 + Rec.szs rs ≤ 65536 := (Rec.fits_ok (Rec.meas_ok hm).1).2.2.2.1
  have hrl : rs.length ≤ 256 := (Rec.fits_ok (Rec.meas_ok hm).1).2.2.1
  have hnl := ha.len
  have hpt := fun W (hW : w.grownBy W none) => Rec.put_ok W f.e ao n cap rs (ha.grown hW) hs hm
  have hTl := h.dk.lt
  have hts := h.ts
  have hap : ∀ W, w.grownBy W none → ∀ g, w.heap.size ≤ g → Bs W (some ⟨g, 0, none⟩) (20 + Rec.szs rs) (20 + Rec.szs rs) (Rec.batB f.e rs) → Calls Tryz.prog 24 #[.pointer (some ⟨f.d, 0, none⟩), .string f.nm, .slice (some ⟨g, 0, none⟩) (20 + Rec.szs rs : Nat) (20 + Rec.szs rs : Nat)] W (Dsk.PA W T f.d (i + 21) A) := fun W hW g hg hB => by
    have := Dsk.app_Q (h.dk.grown hW) 21 hi f.nm hB (by omega) (fun a e9 => .inr (by cases e9; intro e8; have : g < w.heap.size := hTl _ e8; omega))
    rw [hA] at this
    exact this
  have hgr : ∀ W T', Dsk.Pv W T' f.d A.L A.fs A.st (i + 22) → (∀ k, T' k → T k ∨ w.heap.size ≤ k) → Chg w W T → Calls Tryz.prog 61 #[.pointer (some ⟨s, 0, none⟩), .int .i64 n, .int .i64 (20 + Rec.szs rs : Nat)] W fun e w' => (∃ v, e = .returned v) ∧ Ap w w' T U s f step l A (i + 22) n (20 + Rec.szs rs : Nat) ∧ Chg W w' (fun k => U k ∨ k = s) := fun W T' hP hT hC => by
    have hS1 : Lf W s 104 f := h.seg.chg hC hts
    have hX1 : Xu W U f.x step l := h.ix.chg hC (fun k hk e9 => h.tu k e9 hk)
    refine (grow_yes hS1 hX1 h.us (hD.chg hC hT0) hgood h1 hlen n (20 + Rec.szs rs : Nat) hk he hz (by omega) (by omega)).mono ?_
    rintro e9 w5 ⟨hv, hL, ⟨U', hU, hU2⟩, hC5⟩
    have hsz := hC.size
    refine ⟨hv, ⟨T', U', ⟨hL, hP.chg hC5 (fun k hk e9 => ?_), hU, fun k hk e9 => ?_, fun e9 => ?_, fun e9 => ?_⟩, hT, fun k hk => (hU2 k hk).imp id (fun h9 => by omega), (hC.mono (fun q _ e9 => .inl e9)).trans (hC5.mono (fun q _ e9 => .inr e9))⟩, hC5⟩
    · rcases e9 with e9 | e9
      · rcases hT k hk with h9 | h9
        · exact h.tu k h9 e9
        · have := h.ix.lt k e9
          omega
      · rcases hT k hk with h9 | h9
        · exact hts (e9 ▸ h9)
        · have := h.seg.lt
          omega
    · rcases hU2 k e9 with h8 | h8
      · rcases hT k hk with h9 | h9
        · exact h.tu k h9 h8
        · have := h.ix.lt k h8
          omega
      · have := hP.lt k hk
        omega
    · rcases hT s e9 with h9 | h9
      · exact hts h9
      · have := h.seg.lt
        omega
    · rcases hU2 s e9 with h9 | h9
      · exact h.us h9
      · have := h.seg.lt
        omega
  have hno : ∀ W, (∃ T', Dsk.Pv W T' f.d A.L A.fs A.st (i + 22) ∧ ∀ k, T' k → T k ∨ w.heap.size ≤ k) → Chg w W T → (∃ T', Sg W T' U s f step l A.L A.fs A.st (i + 22) ∧ ∀ k, T' k → T k ∨ w.heap.size ≤ k) ∧ Chg w W T := fun W hP hC => by
    obtain ⟨T', hP, hT⟩ := hP
    refine ⟨⟨T', ⟨h.seg.chg hC hts, hP, h.ix.chg hC (fun k hk e9 => h.tu k e9 hk), fun k hk e9 => ?_, fun e9 => ?_, h.us⟩, hT⟩, hC⟩
    · rcases hT k hk with h9 | h9
      · exact h.tu k h9 e9
      · have := h.ix.lt k e9
        omega
    · rcases hT s e9 with h9 | h9
      · exact hts h9
      · have := h.seg.lt
        omega
  have hsl := h.seg.lt
  obtain ⟨F, hF⟩ : ∃ F, Hid (f = F) := ⟨f, rfl⟩
  obtain ⟨k, e, z, y, d, nm, ba, x⟩ := f
  unfold Fi.val Fi.cells at ht
  unfold Lf Fi.cells at hseg
  dsimp only at ht hseg hpt hap hgr hno hA ⊢
  have hd : (e != e) = false := by simp
  generalize Rec.batB e rs = BB at *
  generalize 20 + Rec.szs rs = NN at *
  have hb := World.alloc_heap_new w (.cells #[.int .i64 e, .slice ao n cap] 54)
  go_enter Tryz.func15, Tryz.ntmps15
  go_wp2_with fail
  refine ht.mono ?_
  rintro e9 w1 ⟨rfl, hg1⟩
  have q0 := fa1
  have hb1 := heap_kept hg1 hb (by simp)
  have c0 := cell_at hb1 (i := 0)
  have c1 := cell_at hb1 (i := 1)
  simp only [List.getElem?_toArray, List.getElem?_cons_zero, List.getElem?_cons_succ] at c0 c1
  go_wp2_with fail
  refine (hpt _ (grown_trans hg0 hg1 (by simp))).mono ?_
  rintro e9 w2 ⟨g, rfl, hO, hg2⟩
  have hb2 := heap_kept hg2 hb1 (by simp)
  have d0 := cell_at hb2 (i := 0)
  have hG := grown_trans (grown_trans hg0 hg1 (by simp)) hg2 (by simp)
  have hs2 := hseg _ hG
  have s1 := cell_at hs2 (i := 1)
  simp only [List.getElem?_toArray, List.getElem?_cons_zero, List.getElem?_cons_succ] at d0 s1
  clear hs2 hpt ht c0 c1 hb1 hb
  go_wp2_with fail
  go_quiet (fail)
  have hgq := grown_drewN w2 nq none
  generalize w2.drewN nq = W3 at *
  have hG3 := grown_trans hG hgq (by simp)
  have hgd : W3.grownBy W3.drew none := grown_drewN W3 1 none
  have hG4 := grown_trans hG3 hgd (by simp)
  have hs3 := hseg _ hG3
  have hs4 := hseg _ hG4
  have k4 := cell_at hs3 (i := 4)
  have k5 := cell_at hs3 (i := 5)
  have j4 := cell_at hs4 (i := 4)
  have j5 := cell_at hs4 (i := 5)
  simp only [List.getElem?_toArray, List.getElem?_cons_zero, List.getElem?_cons_succ] at k4 k5 j4 j5
  have hgl : w.heap.size ≤ g := by
    have h8 := (hO.row.lt g (by rw [blk_own]; rfl)).1
    have h9 := (grown_trans hg0 hg1 (by simp)).size
    omega
  have hB4 := ((hO.shows).grown hgq).grown hgd
  have hcall := hap _ hG4 g hgl hB4
  have hb4 := heap_kept hgd (heap_kept hgq hb2 (by simp)) (by simp)
  clear d0 s1 hO hap
  go_wp2_with fail
  go_region_held3 (fun w' => w'.cell? ⟨s, 4, none⟩ = some (.pointer (some ⟨d, 0, none⟩)) ∧ w'.cell? ⟨s, 5, none⟩ = some (.string nm)) (first | exact ⟨k4, k5⟩ | exact ⟨j4, j5⟩ | exact ⟨x4, x5⟩)
    ((go_at_call 24; refine hcall.mono ?_; rintro e9 w4 ⟨rfl, hP, hC⟩; have hs5 := (hC.block s (lt_of_heap hs4) hts).trans hs4; have x4 := cell_at hs5 (i := 4); have x5 := cell_at hs5 (i := 5); simp only [List.getElem?_toArray, List.getElem?_cons_zero, List.getElem?_cons_succ] at x4 x5))
  have hb5 := (hC.block w.heap.size (lt_of_heap hb4) (fun e9 => Nat.lt_irrefl _ (hTl _ e9))).trans hb4
  have hC4 : Chg w w4 T := (Chg.of_grown hG4 T).trans hC
  obtain ⟨T', hP, hT⟩ := hP
  have hT2 : ∀ k, T' k → T k ∨ w.heap.size ≤ k := fun k hk => (hT k hk).imp id (fun h9 => Nat.le_trans hG4.size h9)
  clear hcall k4 k5 j4 j5 hb2
  by_cases hc : A.c = 0
  · have hd2 : (A.c != 0) = false := by simpa using hc
    have hgd4 : w4.grownBy w4.drew none := grown_drewN w4 1 none
    have hcall2 := hgr w4.drew T' (hP.grown hgd4) hT2 (hC4.trans (Chg.of_grown hgd4 T))
    have hzU : ¬ (U w.heap.size ∨ w.heap.size = s) := fun e9 => by
      rcases e9 with e9 | e9
      · exact Nat.lt_irrefl _ (h.ix.lt _ e9)
      · omega
    have hb6 := heap_kept hgd4 hb5 (by simp)
    have m1 := cell_at hb5 (i := 1)
    have n1 := cell_at hb6 (i := 1)
    simp only [List.getElem?_toArray, List.getElem?_cons_zero, List.getElem?_cons_succ] at m1 n1
    go_wp2_with fail
    go_region_held3 (fun w' => w'.cell? ⟨w.heap.size, 1, none⟩ = some (.slice ao n cap)) (first | exact m1 | exact n1 | exact y1)
      ((go_at_call 61; refine hcall2.mono ?_; rintro e9 w5 ⟨⟨v, rfl⟩, hAp, hC5⟩; have y1 := hC5.cell n1 hzU))
    clear hcall2 hgr hno m1 n1 y1
    go_wp2
    go_ret
    exact ⟨by rw [hc]; rfl, .inr ⟨hc, hAp⟩⟩
  · have hd2 : (A.c != 0) = true := by simpa using hc
    go_wp2
    go_ret
    exact ⟨rfl, .inl ⟨hc, hno w4 ⟨T', hP, hT2⟩ hC4⟩⟩
end
end Go.Proofs.YtlghcboenkglnaaGreatDoor
