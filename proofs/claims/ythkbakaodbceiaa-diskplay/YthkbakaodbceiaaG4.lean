/-
  Crash of any disk that is there.
-/
import Derived.Test.YthkbakaodbceiaaG3
import Derived.Test.YthkbakaodbceiaaF6
namespace Go.Proofs.Ythkbakaodbceiaa
open Go.RowKit Go.Maps Go.Shelf
set_option linter.unusedVariables false
set_option linter.unusedSectionVars false
variable [FO : Inhabited (Nat → Prop)]
attribute [local go_sem] Oper.semAt_some

/-- The files of a disk, by name, with their bytes. -/
def FilesB (w : World) (D : DataW Unit) (T : List UInt8 → Td) (B : ByteArray → List UInt8) : Prop :=
  ∀ s ∈ strKeys D, (T s).s = ⟨s.toArray⟩ ∧ s.length ≤ 32 ∧ (∃ la : Nat, (T s).la = (la : Int) ∧ la ≤ (T s).sz) ∧ (T s).sz ≤ 16777216 ∧ ∃ g bo bc, at? D ⟨s.toArray⟩ (some g) ∧ Fl w g bo (T s).sz bc (T s).la (T s).th (T s).nl ∧ Bs w bo (T s).sz bc (B ⟨s.toArray⟩) ∧ (∀ a, bo = some a → ∃ q i, a = ⟨q, i, none⟩) ∧ ∀ q, blk bo = some q → Ty w q 5
theorem FilesB.files {w : World} {D : DataW Unit} {T : List UInt8 → Td} {B : ByteArray → List UInt8} (h : FilesB w D T B) : Files w D T := fun s hs => by
  obtain ⟨h1, h2, _, _, g, bo, bc, h3, h4, _⟩ := h s hs
  exact ⟨h1, h2, g, bo, bc, h3, h4⟩
theorem FilesB.chg {w w' : World} {D : DataW Unit} {T : List UInt8 → Td} {B : ByteArray → List UInt8} {S : Nat → Prop} (h : FilesB w D T B) (hc : Chg w w' S) (hS : ∀ k, k < w.heap.size → S k → ¬ Ty w k 93 ∧ ¬ Ty w k 5) : FilesB w' D T B := fun s hs => by
  obtain ⟨h1, h2, h3, h4, g, bo, bc, h5, h6, h7, h8, h9⟩ := h s hs
  have hn : ∀ q, blk bo = some q → ¬ S q := fun q e k => (hS q (h9 q e).lt k).2 (h9 q e)
  refine ⟨h1, h2, h3, h4, g, bo, bc, h5, h6.chg hc (fun k => (hS g h6.lt k).1 h6.ty), ⟨h7.len, h7.room, h7.top, h7.nil, fun a ha j u hu => hc.cell (h7.cells a ha j u hu) ?_⟩, h8, fun q e => (h9 q e).chg hc (hn q e)⟩
  rw [add_block]
  obtain ⟨q, i, rfl⟩ := h8 a ha
  exact hn q (by rw [ha]; rfl)
theorem Ds.grown {w w' : World} {b m : Nat} {fs : List (Int × Int)} {st : Int} {n : Nat} {D : DataW Unit} (h : Ds w b m fs st n D) (hg : w.grownBy w' none) : Ds w' b m fs st n D := h.chg (Chg.of_grown hg (fun _ => False)) (fun e => e) (fun e => e) (fun k e => e.elim)
theorem FilesB.grown {w w' : World} {D : DataW Unit} {T : List UInt8 → Td} {B : ByteArray → List UInt8} (h : FilesB w D T B) (hg : w.grownBy w' none) : FilesB w' D T B := h.chg (Chg.of_grown hg (fun _ => False)) (fun k _ e => e.elim)
theorem KeepsFrom.of_chg {B : Nat} {W V : World} {S : Nat → Prop} (hc : Chg W V S) (hS : ∀ k, S k → k < B) : KeepsFrom B W V :=
  ⟨hc.size, fun k o hB hk ho => (hc.block k (lt_of_heap hk) (fun e => by have := hS k e; omega)).trans hk⟩
theorem Chg.ext {w A B : World} {S : Nat → Prop} {row : Option Nat} (h : Chg w A S) (hg : A.grownBy B row) (hr : ∀ q, row = some q → w.heap.size ≤ q) : Chg w B S :=
  ⟨hg.os.trans h.os, hg.tape.trans h.tape, hg.output.trans h.output, Nat.le_trans h.size hg.size, fun k hk hn => (hg.block k (Nat.lt_of_lt_of_le hk h.size) (fun e => by have := hr k e.symm; omega)).trans (h.block k hk hn)⟩
theorem not_cells_ty {w : World} {k : Nat} {t : TypeId} (h : ∃ o : Obj, w.heap[k]? = some o ∧ o.isCells = false) (ht : Ty w k t) : False := by
  obtain ⟨o, h1, h2⟩ := h
  obtain ⟨cs, fr, h3⟩ := ht
  rw [h1] at h3
  cases h3
  cases h2

/-- Between two rounds. -/
def Btw (w6 : World) (za zp : Nat) (o : Option Addr) (pn pc : Nat) (l : List Int) (nm base : Nat) (B : ByteArray → List UInt8) (pre : List Td) (W : World) : Prop :=
  ∃ n' D', Pk W za zp (crashF l pn pre).2 o pn pc l ∧ Mp W nm n' D' ∧ n' ≤ pre.length ∧ Kept W base D' (crashF l pn pre).1 B ∧ Chg w6 W (fun q => q = za ∨ q = nm)
theorem Btw.own {w6 : World} {za zp : Nat} {o : Option Addr} {pn pc : Nat} {l : List Int} {nm : Nat} {B : ByteArray → List UInt8} (ho : ∀ a, o = some a → a.block < w6.heap.size) (hn : nm < w6.heap.size) : OwnFrom w6.heap.size (Btw w6 za zp o pn pc l nm w6.heap.size B) := by
  rintro s A V row ⟨n', D', h1, h2, h3, h4, h5⟩ hg hr
  refine ⟨n', D', ⟨box_own h1.b0 hg (fun r e => (hr r e).2), box_own h1.b1 hg (fun r e => (hr r e).2), ⟨h1.sl.len, h1.sl.room, h1.sl.top, h1.sl.pl, h1.sl.nil, fun b i e j x hx => hg.cell (h1.sl.k b i e j x hx) (fun e9 => by have := (hr _ e9.symm).1; have := ho _ e; simp only at *; omega)⟩, h1.le, h1.ne, h1.na⟩, h2.chg (chg_grown hg) (fun e => by have := (hr _ e).1; omega), h3, h4.chg (chg_grown hg) (fun k t e _ ht => not_cells_ty (hr k e).2 ht), h5.ext hg (fun q e => (hr q e).1)⟩

section
variable {w w' : World} {b m : Nat} {fs : List (Int × Int)} {st : Int} {n : Nat} {D : DataW Unit}

set_option maxRecDepth 100000 in
set_option maxHeartbeats 4000000 in
theorem crash_any (h : Ds w b m fs st n D) (T : List UInt8 → Td) (B : ByteArray → List UInt8) (hF : FilesB w D T B) (hD : Maps.size D ≤ 4096) (o : Option Addr) (pn pc : Nat) (l : List Int) (hl : Is' w o pn pc l) (hb : ∀ a, o = some a → a.block < w.heap.size) (hpos : ∀ x ∈ l, 0 ≤ x ∧ x < 9223372036854775808) (hpn : pn ≤ 4611686018427387904) :
    Calls Try.prog 33 #[.pointer (some ⟨b, 0, none⟩), .agg #[.slice o pn pc]] w fun e w' => ∃ (ss : List (List UInt8)) (nb nm n' base : Nat) (D' : DataW Unit), ss.Perm (strKeys D) ∧ e = .returned (.tuple #[.pointer (some ⟨nb, 0, none⟩), .int .i64 0]) ∧ Ds w' nb nm [] 0 n' D' ∧ n' ≤ ss.length ∧ Kept w' base D' (crashF l pn ((ss.mergeSort (fun x y => decide (x ≤ y))).map T)).1 B ∧ w.heap.size ≤ nb ∧ w.heap.size ≤ base ∧ nb < base ∧ (nm < base ∧ w.heap.size ≤ nm) ∧ w.grownBy w' none := by
  obtain ⟨fo, fn, fc, hd⟩ := h.dk
  have h0 := hd.hd.c0
  have hg1 := alloc_grown w (.cells #[.pointer (some ⟨b, 0, none⟩)] 29)
  have hg2 := alloc_grown (w.alloc (.cells #[.pointer (some ⟨b, 0, none⟩)] 29)) (.cells #[.slice o pn pc] 64)
  have hG2 := grown_trans hg1 hg2 (by simp)
  have b2 := box_own (Boxed.new w 29 (.pointer (some ⟨b, 0, none⟩))) hg2 (fun r e => by cases e)
  have b3 := Boxed.new (w.alloc (.cells #[.pointer (some ⟨b, 0, none⟩)] 29)) 64 (.slice o pn pc)
  rw [World.size_alloc] at b3
  have k2 := b2.cell
  have k3 := b3.cell
  have h02 := hG2.cell h0 (by simp)
  refine (callsIn_wide (n := 5)).1 ?_
  refine callsIn_of_wp_marks Try.func33 rfl trivial ?_
  simp only [Try.ntmps33, List.size_toArray, List.length_cons, List.length_nil, Nat.reduceAdd, Nat.reduceSub, Array.replicate_succ, Array.replicate_zero, List.push_toArray, List.append_toArray, List.nil_append, List.cons_append]
  gi_wp2_with fail
  generalize (w.alloc (.cells #[.pointer (some ⟨b, 0, none⟩)] 29)).alloc (.cells #[.slice o pn pc] 64) = w2 at *
  clear hg1 hg2
  refine ⟨trivial, callsIn_wide.2 ((made_yes _ _ _ h02).mono ?_)⟩
  rintro e w2 ⟨rfl, rfl⟩
  have hl2 := hl.grown hG2
  have hcell : ∀ i x, l[i]? = some x → ∃ q f, o = some ⟨q, f, none⟩ ∧ w2.cell? ⟨q, f + i, none⟩ = some (.int .i64 x) := fun i x hx => by
    have hi := (List.getElem?_eq_some_iff.1 hx).1
    cases o with
    | none => have := hl2.nil rfl; have := hl2.len; omega
    | some a => obtain ⟨q, f, rfl⟩ := hl2.pl a rfl; exact ⟨q, f, rfl, hl2.k q f rfl i x hx⟩
  have hlen := hl2.len
  gi_wp2_with fail
  gi_loopw [7, 20] (fun _ i wr => ∃ k : Nat, i = .int .i64 k ∧ k ≤ pn ∧ wr = w2) (fun _ i _ => pn - (intOf i).toNat)
  case atStart => exact ⟨0, rfl, Nat.zero_le _, rfl⟩
  case round =>
    obtain ⟨k, rfl, hk, rfl⟩ := hrel
    by_cases hlt : k < pn
    · have hdd : decide ((k : Int) < (pn : Int)) = true := by simp; omega
      obtain ⟨x, hx⟩ : ∃ x, l[k]? = some x := ⟨_, List.getElem?_eq_getElem (by omega)⟩
      obtain ⟨q, f, rfl, hq⟩ := hcell k x hx
      have hx0 := (hpos x (List.mem_of_getElem? hx)).1
      have i1 : (0 : Int) ≤ (k : Int) := by omega
      have i2 : (k : Int) < (pn : Int) := by omega
      have hdx : decide (x < 0) = false := by simp; omega
      gi_wp2
      go_roundw
      case rel => exact ⟨k + 1, by go_num, by omega, trivial⟩
      case measure => simp [intOf]; omega
    · obtain rfl : k = pn := by omega
      have hdd : decide ((k : Int) < (k : Int)) = false := by simp
      clear hcell
      have hb2 : ∀ a, o = some a → a.block < wr.heap.size := fun a e => Nat.lt_of_lt_of_le (hb a e) hG2.size
      gi_wp2_with fail
      refine wpIn_mono (wpIn_wide.2 (reg9 _ o k pc l hl2 hb2 k3 _ _ _ _ _ _ _ _ _ _ _ _ _ _ _ _ _ _ _ _ _ _ _ _ _ _ _ _ _ _ _ _ _ _ _ _ _ _ _ _ _ _ _ _ _ _ _ _ _ _ _ _ _ _ _ _ _ _ _ _ _ _ _ _ _)) ?_
      rintro e a' w5 ⟨rfl, z8, z9, nb, nm, za, zp, u28, u29, rfl, hE, hP, h8, h9, hg5, lb, lm, lza, lzp⟩
      have hG5 : w.grownBy w5 none := grown_trans hG2 hg5 (by simp)
      have b25 := box_own b2 hg5 (fun r e => by cases e)
      have k25 := b25.cell
      have hal := all_any (h.grown hG5) T (hF.grown hG5).files hD
      have y2l := b2.lt
      have hs5 := hg5.size
      have hml : m < w.heap.size := hd.mp.lt
      have hbl : b < w.heap.size := hd.hd.lt
      clear k2 k3 h02 b3
      gi_wp2_with fail
      refine ⟨trivial, callsIn_wide.2 (hal.mono ?_)⟩
      clear hal
      rintro e w6 ⟨ss, ao, cap, hperm, rfl, hbz, hTw, hg6⟩
      obtain ⟨z, hz⟩ : ∃ z, w5.heap.size = z := ⟨_, rfl⟩
      rw [hz] at hbz hTw ⊢
      have hs6 := hg6.size
      have hG6 : w.grownBy w6 none := grown_trans hG5 hg6 (by simp)
      have hE6 := hE.grown hg6
      have hP6 := hP.grown hg6
      have h86 := box_own h8 hg6 (fun r e => by cases e)
      have h96 := box_own h9 hg6 (fun r e => by cases e)
      have b26 := box_own b25 hg6 (fun r e => by cases e)
      have hDs6 := h.grown hG6
      have hF6 := hF.grown hG6
      have hN : ss.length ≤ 4096 := by rw [hperm.length_eq]; exact Nat.le_trans (strKeys_len D) hD
      have hmem : ∀ (i : Nat) (t : Td), ((ss.mergeSort (fun x y => decide (x ≤ y))).map T)[i]? = some t → ∃ s ∈ strKeys D, T s = t := fun i t ht => by
        have h1 := List.mem_of_getElem? ht
        obtain ⟨s, h2, h3⟩ := List.mem_map.1 h1
        exact ⟨s, hperm.mem_iff.1 (by simpa using h2), h3⟩
      have hfl : ((ss.mergeSort (fun x y => decide (x ≤ y))).map T).length = ss.length := by simp
      have hfe0 : ∃ files, Hid ((ss.mergeSort (fun x y => decide (x ≤ y))).map T = files) := ⟨_, rfl⟩
      obtain ⟨files, hfe⟩ := hfe0
      rw [hfe.out] at hTw hmem hfl
      have hel := hE6.hd.lt
      have hnl := hE6.mp.lt
      have hzal := hP6.b0.lt
      have lz5 : za < w5.heap.size := hP.b0.lt
      have ln5 : nm < w5.heap.size := hE.mp.lt
      have hzl : z < w6.heap.size := hbz.lt
      have tza := boxed_ty hP6.b0
      have ho6 : ∀ a, o = some a → a.block < w6.heap.size := fun a e => Nat.lt_of_lt_of_le (hb2 a e) (by omega)
      have hKl : ∀ q, (q = z ∨ blk ao = some q) → q < w6.heap.size := fun q e => by
        rcases e with rfl | e
        · exact hzl
        · exact (hTw.from_base q e).2
      have hKn : ∀ q, (q = z ∨ blk ao = some q) → ¬ (q = za ∨ q = nm) := fun q e => by
        have : z ≤ q := by
          rcases e with rfl | e
          · exact Nat.le_refl _
          · exact (hTw.from_base q e).1
        omega
      clear b2 b25 k25 hE hP h8 h9 hdd hl2 hlen
      gi_wp2_with fail
      apply wpIn_rangeFunc_told (α := Td) (encs := fun t => #[t.val]) (Kp := Stay (fun q => q = z ∨ blk ao = some q)) (w0 := w6) rfl (by decide) (gf := 63) (lb := #[.pointer (some ⟨z, 0, none⟩)]) rfl trivial (enters_of Try.func63 (by kernel_rfl) rfl)
        (all1_stay 4 (by decide) w6 z z _ ao ss.length cap files hbz hTw (Or.inl rfl) (fun q e => Or.inr e) hKl (by omega)) (fun h1 h2 => h1.trans h2)
        (fun W q o1 o2 hq h1 h2 h3 => ⟨by simp, fun i hi => World.putObj_heap_other (by have := hKl i hi; omega)⟩) (Below.refl _ _) (fun t => rfl)
        (Btw w6 za zp o k pc l nm w6.heap.size B)
        (fun _ _ _ => False)
        (Btw.own ho6 hnl)
        (fun cd s A V row hs hg hr => hs.elim)
        ⟨0, .map [], hP6, hE6.mp, Nat.le_refl _, Kept.no _ _ _, Chg.refl _ _⟩
        (fun pre t a' W => files[pre.length]? = some t ∧ ∃ zf, W.heap[zf]? = some (.cells #[.string t.s, .int .i64 t.sz, .int .i64 t.la, .bool t.th, .bool t.nl] 55) ∧ ∃ v0 v1 v3 v4 v5 v6 v7 v11 v12 v13 v14 v15 v16 v17 v18 v19 v20 v21 v22 v23 v24 v25 v26 v27 v28 v29 v30 v31 v32 v33 v34 v35 v36 v37 v38 v39 v40 v41 v42 v43 v44 v45 v46 v47 v48 v49 v50 v51 v52 v53 v54 v55 v56 v57 v58 v59 v60 v61 v62 v63 v64 : Value, a' = { tmps := #[v0, v1, .pointer (some ⟨w.heap.size, 0, none⟩), v3, v4, v5, v6, v7, .pointer (some ⟨z8, 0, none⟩), .pointer (some ⟨z9, 0, none⟩), .pointer (some ⟨zf, 0, none⟩), v11, v12, v13, v14, v15, v16, v17, v18, v19, v20, v21, v22, v23, v24, v25, v26, v27, v28, v29, v30, v31, v32, v33, v34, v35, v36, v37, v38, v39, v40, v41, v42, v43, v44, v45, v46, v47, v48, v49, v50, v51, v52, v53, v54, v55, v56, v57, v58, v59, v60, v61, v62, v63, v64], defers := [] })
      case hAx =>
        rintro pre t a' _ A V row ⟨t1, zf, t2, t3⟩ hg hr
        exact ⟨t1, zf, heap_kept hg t2 (fun e => not_cells_ty (hr zf e.symm).2 ⟨_, _, t2⟩), t3⟩
      case hassign =>
        intro pre t W K hI hT hK
        simp only [Td.val, toldV]
        have ga := alloc_grown W (.cells #[.string t.s, .int .i64 t.sz, .int .i64 t.la, .bool t.th, .bool t.nl] 55)
        have kf := World.alloc_heap_new W (.cells #[.string t.s, .int .i64 t.sz, .int .i64 t.la, .bool t.th, .bool t.nl] 55)
        have hI2 := Btw.own ho6 hnl pre _ _ none hI ga (fun q e => by cases e)
        have hst : Stay (fun q => q = z ∨ blk ao = some q) W (W.alloc (.cells #[.string t.s, .int .i64 t.sz, .int .i64 t.la, .bool t.th, .bool t.nl] 55)) := Stay.grown ga (fun q hq => by obtain ⟨_, _, _, _, _, _, hc⟩ := hI; exact Nat.lt_of_lt_of_le (hKl q hq) hc.size)
        clear hI
        gi_wp2
        exact hK _ _ ((KeepsOthers.alloc W _).from _) hst hI2 ⟨hT, _, kf, _, _, _, _, _, _, _, _, _, _, _, _, _, _, _, _, _, _, _, _, _, _, _, _, _, _, _, _, _, _, _, _, _, _, _, _, _, _, _, _, _, _, _, _, _, _, _, _, _, _, _, _, _, _, _, _, _, _, _, _, _, rfl⟩
      case hbody =>
        rintro pre t a' W hq ⟨n', D', j1, j2, j3, j4, j5⟩ ⟨t1, zf, t2, v0, v1, v3, v4, v5, v6, v7, v11, v12, v13, v14, v15, v16, v17, v18, v19, v20, v21, v22, v23, v24, v25, v26, v27, v28, v29, v30, v31, v32, v33, v34, v35, v36, v37, v38, v39, v40, v41, v42, v43, v44, v45, v46, v47, v48, v49, v50, v51, v52, v53, v54, v55, v56, v57, v58, v59, v60, v61, v62, v63, v64, rfl⟩
        obtain ⟨s, s1, rfl⟩ := hmem _ _ t1
        have hpl : pre.length < files.length := (List.getElem?_eq_some_iff.1 t1).1
        have hFW := hF6.chg j5 (fun q _ e => by
          rcases e with rfl | rfl
          · exact ⟨fun h9 => h9.ne tza (by decide) rfl, fun h9 => h9.ne tza (by decide) rfl⟩
          · exact ⟨fun h9 => hE6.mp.row h9 rfl, fun h9 => hE6.mp.row h9 rfl⟩)
        obtain ⟨f1, f2, ⟨la, f3, f4⟩, f5, g, bo, bc, f6, f7, f8, f9, f10⟩ := hFW s s1
        rw [← f1] at f6 f8
        have hn8 : ¬ (z8 = za ∨ z8 = nm) := fun e => by
          rcases e with e | e
          · exact (boxed_ty h86).ne tza (by decide) e
          · exact hE6.mp.row (boxed_ty h86) e
        have hn9 : ¬ (z9 = za ∨ z9 = nm) := fun e => by
          rcases e with e | e
          · exact (boxed_ty h96).ne tza (by decide) e
          · exact hE6.mp.row (boxed_ty h96) e
        have hnn : ¬ (nb = za ∨ nb = nm) := fun e => by
          rcases e with e | e
          · exact hE6.ty.ne tza (by decide) e
          · exact hE6.mp.row hE6.ty e
        have hn2 : ¬ (w.heap.size = za ∨ w.heap.size = nm) := by omega
        have hnb : ¬ (b = za ∨ b = nm) := by omega
        have hnm : ¬ (m = za ∨ m = nm) := by omega
        obtain ⟨fo6, fn6, fc6, hd6⟩ := hDs6.dk
        have hne : za ≠ nm := fun e => hE6.mp.row tza e
        refine wpIn_mono (round33 (by kernel_rfl) _ W w.heap.size z8 z9 zf b m n nb nm n' za zp _ w6.heap.size g la D D' o k pc l (T s) _ B bo bc
          ((j5.block _ b26.lt hn2).trans b26) (hd6.hd.chg j5 hnb).c0 (fun e => hnb (Or.inl e)) (hd6.mp.chg j5 hnm)
          ((j5.block _ h86.lt hn8).trans h86) (hE6.hd.chg j5 hnn).c0 (hE6.ty.chg j5 hnn) j2 (by unfold maxLen; omega)
          ((j5.block _ h96.lt hn9).trans h96) j1 hpos hpn (fun a e => by have := hb2 a e; constructor <;> omega)
          t2 f3 f4 f5 (by rw [f1]; show s.toArray.size ≤ 32; simpa using f2) f6 f7 f8 f9 f10 j4 ⟨hzal, hnl⟩ hne j5.size _ _ _ _ _ _ _ _ _ _ _ _ _ _ _ _ _ _ _ _ _ _ _ _ _ _ _ _ _ _ _ _ _ _ _ _ _ _ _ _ _ _ _ _ _ _ _ _ _ _ _ _ _ _ _ _ _ _ _ _ _) ?_
        rintro e a'' V ⟨rfl, n'', D'', r1, r2, r3, r4, r5⟩
        refine ⟨KeepsFrom.of_chg r5 (fun q e => by omega), Stay.chg r5 (fun q e => Nat.lt_of_lt_of_le (hKl q e) j5.size) hKn, n'', D'', ?_, r2, by simp; omega, ?_, j5.trans r5⟩
        · rw [crashF_snoc]; exact r1
        · rw [crashF_snoc]; exact r4
      case hdone =>
        rintro Dd xs W hDd hxs ⟨n', D', j1, j2, j3, j4, j5⟩ hK
        have hn8 : ¬ (z8 = za ∨ z8 = nm) := fun e => by
          rcases e with e | e
          · exact (boxed_ty h86).ne tza (by decide) e
          · exact hE6.mp.row (boxed_ty h86) e
        have hnn : ¬ (nb = za ∨ nb = nm) := fun e => by
          rcases e with e | e
          · exact hE6.ty.ne tza (by decide) e
          · exact hE6.mp.row hE6.ty e
        have k8 := j5.cell h86.cell hn8
        have hpo := grownBy_putObj' W Dd (.deferred none)
        have hC := j5.ext hpo (fun q e => by cases e; omega)
        have hDn : ∀ t, ¬ Ty W Dd t := fun t ht => not_cells_ty ⟨_, hK, rfl⟩ ht
        have hM' := j2.chg (chg_grown hpo) (fun e => by cases e; omega)
        have hK' := j4.chg (chg_grown hpo) (fun q t e _ ht => by cases e; exact hDn t ht)
        have hE' := hE6.hd.chg hC hnn
        have hGf : w.grownBy _ none := ((Chg.of_grown hG6 _).trans hC).grown (fun q hq e => by omega)
        gi_wp2_with fail
        refine ⟨by simp, .inl ⟨_, _, rfl, run_takeDeferred hK, ?_⟩⟩
        exact ⟨_, results_tmp2 rfl _ _ _, ss, nb, nm, n', w6.heap.size, D', hperm, rfl, ⟨⟨none, 0, 0, hE', ⟨rfl, Nat.le_refl _, Nat.zero_le _, (fun a e => nomatch e), (fun _ => rfl), (fun b i e => nomatch e)⟩, fun a e => by cases e⟩, hM'⟩, by rw [hxs, hfl] at j3; exact j3, by rw [hfe.out, ← hxs]; exact hK', by omega, hG6.size, hel, ⟨hnl, by omega⟩, hGf⟩
      case hstop =>
        intro Dd c pre W _ _ hf
        exact hf.elim
end
end Go.Proofs.Ythkbakaodbceiaa
