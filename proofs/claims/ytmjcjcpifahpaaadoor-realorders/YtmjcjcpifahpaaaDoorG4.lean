/-
  Sort, Nth: the walks, over the library's own sort.
-/
import Derived.Test.YtmjcjcpifahpaaaDoorG1
import Derived.Test.YtmjcjcpifahpaaaDoorMemF
import Derived.Test.YtmjcjcpifahpaaaDoorShelf
import Derived.Sort.OwnSorted
namespace Go.Proofs.YtmjcjcpifahpaaaDoor
open Go.RowKit Go.Shelf Go.Sort Go.Lib
set_option linter.unusedVariables false

/-- A float's place. -/
def pl (x : Fl) : Nat := plc x.b
def ordL (x y : Fl) : Int := ordF x.b y.b
/-- In order. -/
def Srt (l : List Fl) : Prop := l.Pairwise fun x y => pl x ≤ pl y

theorem fv_cell : OneCell fv := fun x => rfl
theorem ordL_lt (x y : Fl) : ltOf ordL x y = decide (pl x < pl y) := by
  unfold ltOf ordL ordF cmpN pl
  by_cases h : plc x.b < plc y.b
  · simp [h]
  · by_cases h2 : plc y.b < plc x.b <;> simp [h, h2]
theorem ordL_swo : SWO (ltOf ordL) where
  irrefl x := by rw [ordL_lt]; simp
  trans x y z h1 h2 := by rw [ordL_lt] at *; simp at *; omega
  ntrans x y z h1 h2 := by rw [ordL_lt] at *; simp at *; omega

theorem eg12 : ∀ args w, (callFunc 12 args).run Tryd.prog w = .ok (.enter 12 args) w := enters_of Tryd.func12 (by kernel_rfl) rfl

theorem cmpLays (blk off size : Nat) (w : World) : CmpLays1 Tryd.prog 12 #[] fv ordL blk off size w :=
  fun m os dk _ x y => (order_any _ x.b y.b x.lt y.lt).mono fun e w' ⟨he, hw⟩ => ⟨he, 0, #[], by rw [hw, World.drewN_zero, grow_empty]⟩

theorem take_putCellsF (cur : Array Value) (ts : List Fl) (h : ts.length ≤ cur.size) : (putCells fv 0 ts.toArray cur).toList.take ts.length = ts.map fv := by
  apply List.ext_getElem?
  intro j
  by_cases hj : j < ts.length
  · rw [List.getElem?_take_of_lt hj, Array.getElem?_toList]
    simp [putCells, hj, show j < cur.size by omega]
  · rw [List.getElem?_take_eq_none (by omega), List.getElem?_eq_none (by simp; omega)]

theorem Fo.holds {w : World} {base : Nat} {e : TypeId} {g n cap : Nat} {l : List Fl} (h : Fo w base e (some ⟨g, 0, none⟩) n cap l) : Holds fv w g 0 l.toArray ∧ g < w.heap.size := by
  have hs := h.shows
  rcases h.row.2 with ⟨hv, _⟩ | ⟨g', c, cur, hv, hb, hg, hn, hm, hsz, ht⟩
  · cases hv
  · simp only [Value.slice.injEq, Option.some.injEq, Addr.mk.injEq] at hv
    obtain ⟨⟨rfl, _, _⟩, _, rfl⟩ := hv
    refine ⟨fun j hj => ?_, (Array.getElem?_eq_some_iff.1 hg).1⟩
    have hj' : j < l.length := by simpa using hj
    refine ⟨?_, h.there _⟩
    have := hs.at hj'
    simp only [Nat.zero_add] at this ⊢
    rw [this]
    simp [hj', fv]

theorem Fo.sorted {w : World} {base : Nat} {e : TypeId} {g n cap : Nat} {l ts : List Fl} (h : Fo w base e (some ⟨g, 0, none⟩) n cap l) (hl : ts.length = l.length) (k : Nat) (os : Array Obj) :
    Fo (sortWorld fv w g 0 k ts.toArray os) base e (some ⟨g, 0, none⟩) n cap ts ∧ w.grownBy (sortWorld fv w g 0 k ts.toArray os) (some g) := by
  have hlen := h.len
  rcases h.row.2 with ⟨hv, _⟩ | ⟨g', c, cur, hv, hb, hg, hn, hm, hsz, ht⟩
  · cases hv
  · simp only [Value.slice.injEq, Option.some.injEq, Addr.mk.injEq] at hv
    obtain ⟨⟨rfl, _, _⟩, _, rfl⟩ := hv
    have hgl : g < w.heap.size := (Array.getElem?_eq_some_iff.1 hg).1
    refine ⟨⟨by omega, by simp [hl, hlen], Or.inr ⟨g, cap, putCells fv 0 ts.toArray cur, rfl, hb, ?_, hn, hm, by simp [putCells, hsz], ?_⟩⟩, rfl, rfl, rfl, ?_, fun j hj hne => ?_⟩
    · unfold sortWorld
      rw [heap_grow_old _ _ (by simpa using hgl)]
      simp [putRow, mapBlock, Sort.ahead, Array.getElem?_modify, hg, onCells]
    · rw [Nat.mul_one, show n = ts.length by omega]
      exact take_putCellsF cur ts (by omega)
    · unfold sortWorld; simp
    · unfold sortWorld
      rw [heap_grow_old _ _ (by simpa using hj)]
      have : g ≠ j := fun e => hne (by rw [e])
      simp [putRow, mapBlock, Sort.ahead, Array.getElem?_modify, this]

/-- The library's sort, of a row of the call's own. -/
theorem sortFunc_any (w : World) (base g n cap : Nat) (l : List Fl) (h : Fo w base 22 (some ⟨g, 0, none⟩) n cap l) (hn : n ≤ 65536) :
    Calls Tryd.prog 50 #[.slice (some ⟨g, 0, none⟩) n cap, .func (.func 12) #[] #[]] w fun e w' => e = .returned (.tuple #[]) ∧ ∃ l', Fo w' base 22 (some ⟨g, 0, none⟩) n cap l' ∧ l'.Perm l ∧ Srt l' ∧ w.grownBy w' (some g) := by
  obtain ⟨hH, hg⟩ := h.holds
  have hlen := h.len
  have hsz : l.toArray.size = n := by simpa using hlen
  have hcon := Any.slices_SortFunc Tryd.sortF fv fv_cell ordL ordL_swo 12 #[] g 0 cap l.toArray w eg12 (cmpLays g 0 _ w) hH hg (by omega)
  rw [hsz] at hcon
  refine Calls.mono hcon ?_
  rintro e w' ⟨he, d', k, os, hp, hs, rfl⟩
  refine ⟨he, d'.toList, ?_⟩
  have hds : d'.size = n := by rw [hp.1, hsz]
  have hperm : d'.toList.Perm l := by
    have := hp.2.2
    rw [← hds] at this
    simp only [Array.extract_size] at this
    rw [hds, ← hsz] at this
    simpa using this
  have hll := hperm.length_eq
  obtain ⟨k1, k2⟩ := h.sorted (ts := d'.toList) hll k os
  simp only [Array.toArray_toList] at k1 k2
  refine ⟨k1, hperm, ?_, k2⟩
  unfold Srt
  rw [List.pairwise_iff_getElem]
  intro i j hi hj hij
  have := hs i j (Nat.zero_le _) hij (by simpa [hds] using hj)
  rw [ordL_lt] at this
  have hi' : i < d'.size := by simpa using hi
  have hj' : j < d'.size := by simpa using hj
  simp [hi', hj'] at this
  simpa using this

theorem Tryd.info22 : (Tryd.prog.info? 22).map (fun i => (i.zero, i.size, i.bytes)) = some (some (.float .f64 0), 1, 8) := by kernel_rfl

set_option maxRecDepth 100000 in
set_option maxHeartbeats 400000 in
theorem sort_any (w : World) (ao : Option Addr) (n cap : Nat) (l : List Fl) (hb : Fs w ao n cap l) (hn : n ≤ 65536) :
    Calls Tryd.prog 23 #[.slice ao n cap] w fun e w' => ∃ g l', e = .returned (.tuple #[.slice (some ⟨g, 0, none⟩) n n, .int .i64 0]) ∧ Fo w' w.heap.size 22 (some ⟨g, 0, none⟩) n n l' ∧ l'.Perm l ∧ Srt l' ∧ w.grownBy w' none := by
  go_enter Tryd.func23, Tryd.ntmps23
  go_wp2_with (at_make; refine wpList_make_fs _ rfl _ _ 42 rfl w.heap.size 22 Tryd.underlying42 Tryd.info22 n n rfl rfl (by omega) (by omega) (by omega) (by omega) (Nat.le_refl _) ?_)
  intro g w1 ho1 hg1
  have hb1 := hb.grown hg1
  go_wp2_with (refine wpList_copy_fs _ rfl (.tmp 11) (.tmp 12) 42 rfl w.heap.size 22 Tryd.underlying42 Tryd.info22 rfl ho1 rfl hb1 ?_)
  intro w2 ho2 hg2
  have hG2 := grown_trans hg1 hg2 (fun k hk => Or.inr (ho1.from_base k hk).1)
  have hgb := (ho1.from_base g rfl).1
  clear hg1 hg2 ho1 hb1 hb
  go_wp2_with (go_at_call 50; refine (sortFunc_any _ w.heap.size g n n l ho2 hn).mono ?_; rintro e w3 ⟨rfl, l', ho3, hp, hs, hg3⟩)
  go_ret2
  exact ⟨g, l', rfl, ho3, hp, hs, grown_trans hG2 hg3 (fun k hk => Or.inr (by cases hk; exact hgb))⟩

set_option maxHeartbeats 400000 in
theorem sort_long (w : World) (ao : Option Addr) (n cap : Nat) (hn : 65536 < n) :
    Calls Tryd.prog 23 #[.slice ao n cap] w fun e w' => e = .returned (.tuple #[.slice none 0 0, .int .i64 3]) ∧ w' = w := by
  go_enter Tryd.func23, Tryd.ntmps23
  go_wp2
  go_ret2
  exact ⟨rfl, rfl⟩

end Go.Proofs.YtmjcjcpifahpaaaDoor
