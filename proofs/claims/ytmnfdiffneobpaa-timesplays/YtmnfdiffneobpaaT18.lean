/-
  The law's one call: Put. What it makes ahead of the call: a copy of the records, and one more behind it.
-/
import Derived.Test.YtmnfdiffneobpaaT12
import Derived.Test.YtmnfdiffneobpaaGx
import Derived.Test.YtmnfdiffneobpaaJ1
import Derived.Deep.DeepCutAuto
import Derived.Deep.CutRange
import Derived.Deep.CutBlock
namespace Go.Proofs.Ytmnfdiffneobpaa
open Go.RowKit Go.Shelf
set_option linter.unusedVariables false
theorem Bs.chg {w w' : World} {ao : Option Addr} {n cap : Nat} {l : List UInt8} {S : Nat → Prop} (h : Bs w ao n cap l) (hc : Chg w w' S) (hn : ∀ a, ao = some a → ¬ S a.block) : Bs w' ao n cap l :=
  ⟨h.len, h.room, h.top, h.nil, fun a ha j u hu => hc.cell (h.cells a ha j u hu) (by rw [add_block]; exact hn a ha)⟩
theorem grs_chg {w w' : World} {so : Option Addr} {n cap : Nat} {l : List Gr.Rc} {S : Nat → Prop} (h : Gr.Rs w so n cap l) (hc : Chg w w' S) (hs : ∀ a, so = some a → ¬ S a.block) (hk : ∀ r ∈ l, (∀ a, r.ko = some a → ¬ S a.block) ∧ (∀ a, r.vo = some a → ¬ S a.block)) : Gr.Rs w' so n cap l :=
  { len := h.len, room := h.room, top := h.top, nil := h.nil
    place := fun a ha hn => by obtain ⟨b, o, e, hl⟩ := h.place a ha hn; exact ⟨b, o, e, Nat.lt_of_lt_of_le hl hc.size⟩
    cells := fun b o e j r hr => by
      obtain ⟨h1, h2, h3⟩ := h.cells b o e j r hr
      have hn := hs _ e
      exact ⟨hc.cell h1 hn, hc.cell h2 hn, hc.cell h3 hn⟩
    shows := fun r hr => by
      have h1 := h.shows r hr
      exact ⟨h1.low, h1.high, h1.key.chg hc (hk r hr).1, h1.value.chg hc (hk r hr).2, h1.kb, h1.vb⟩ }
theorem grs_take {w : World} {so : Option Addr} {n cap : Nat} {l : List Gr.Rc} (h : Gr.Rs w so n cap l) (k : Nat) (hk : k ≤ n) : Gr.Rs w so k cap (l.take k) :=
  { len := by have := h.len; simp; omega
    room := by have := h.room; omega
    top := h.top, nil := h.nil
    place := fun a ha hn => h.place a ha (by omega)
    cells := fun b o e j r hr => h.cells b o e j r (by rw [List.getElem?_take] at hr; split at hr; exact hr; cases hr)
    shows := fun r hr => h.shows r (List.mem_of_mem_take hr) }
/-- The record of time 77. -/
def r77 : Gr.Rc := ⟨77, none, 0, 0, [], none, 0, 0, []⟩
theorem r77_rk (w : World) : Gr.Rk w r77 := ⟨by decide, by decide, Bs.empty w, Bs.empty w, by decide, by decide⟩
/-- What was made: the copy, with one record more behind what the slice shows; all of it new. -/
structure Md (w1 wx : World) (gm cap2 n : Nat) (rs gl : List Gr.Rc) : Prop where
  g : w1.grownBy wx none
  rs' : Gr.Rs wx (some ⟨gm, 0, none⟩) (n + 1) cap2 (rs ++ [r77])
  fr : w1.heap.size ≤ gm
  key : ∀ r ∈ rs ++ [r77], (∀ a, r.ko = some a → w1.heap.size ≤ a.block) ∧ (∀ a, r.vo = some a → w1.heap.size ≤ a.block)
  ds : Gr.ds rs = Gr.ds gl
theorem Md.mk' {w1 W w4 : World} {base : Nat} {so2 : Option Addr} {sc2 n g rc' : Nat} {rs gl : List Gr.Rc} (hg : w1.grownBy W none) (hb : w1.heap.size ≤ base) (hW : Gr.Rw W base so2 n sc2 rs) (hA : ∀ r ∈ rs, Gr.Aw W base (blk so2) r) (hds : Gr.ds rs = Gr.ds gl)
    (h4 : Gr.Rw w4 base (some ⟨g, 0, none⟩) (n + 1) rc' (rs ++ [r77])) (hg4 : W.grownBy w4 (blk so2)) (hlie : some g = blk so2 ∨ some g = some W.heap.size) : Md w1 w4 g rc' n rs gl := by
  have hA4 : ∀ r ∈ rs, Gr.Aw w4 base (some g) r := fun r hr => (hA r hr).append hg4 hlie
  have hgb := (h4.from_base g rfl).1
  refine ⟨grown_trans hg hg4 (fun q e => .inr (by have := (hW.from_base q e).1; omega)), h4.shows (fun r hr => ?_), by omega, fun r hr => ?_, hds⟩
  · rcases List.mem_append.1 hr with h9 | h9
    · exact (hA4 r h9).rk
    · obtain rfl : r = r77 := by simpa using h9
      exact r77_rk _
  · rcases List.mem_append.1 hr with h9 | h9
    · exact ⟨fun a e => by have := ((hA4 r h9).kin a e).1; omega, fun a e => by have := ((hA4 r h9).vin a e).1; omega⟩
    · obtain rfl : r = r77 := by simpa using h9
      exact ⟨fun a e => (by cases e), fun a e => (by cases e)⟩

theorem gall_eq {w w' : World} {l k : List Gr.Rc} (h : Gr.ds l = Gr.ds k) (hl : ∀ r ∈ l, Gr.Rk w r) (hk : ∀ r ∈ k, Gr.Rk w' r) (hm : (k.map grc).all Rc.may = false) : (l.map grc).all Rc.may = false := by
  cases h9 : (l.map grc).all Rc.may with
  | false => rfl
  | true =>
    have := gmay_eq h.symm hk hl (List.all_eq_true.1 h9)
    rw [List.all_eq_true.2 this] at hm
    cases hm

set_option maxRecDepth 100000 in
set_option maxHeartbeats 4000000 in
theorem ask_put {w : World} {b : Nat} {ro : Option Addr} {rc r : Nat} {rr : Option Addr} {rc2 : Nat} {bs en : Int} {l : List Sd} {m : Nat} (h : Bo w b ro rc r rr rc2 bs en l m) (hm : m ≤ 10000) (N lv : Int) (so : Option Addr) (n sc : Nat) (KK : Int) (hKK : KK = 0 ∨ KK = 1) (w0 : World) (hw0 : w0.grownBy w none) (gl : List Gr.Rc) (hR : Gr.Rs w0 so n sc gl) (hn : n ≤ 100) (hb0 : w0.heap.size ≤ b) (hr0 : w0.heap.size ≤ r) (hro0 : ∀ q, blk ro = some q → w0.heap.size ≤ q) :
    Calls Try.prog 14 #[.pointer (some ⟨b, 0, none⟩), .pointer (some ⟨r, 0, none⟩), .agg #[.int .i64 KK, .int .i64 N, .slice so n sc, .int .i64 lv]] w fun e w' => e = .returned (.bool true) ∧ Bl w w' b ro r rr bs (m + 100) := by
  have ga := alloc_grown w (.cells #[.int .i64 KK, .int .i64 N, .slice so n sc, .int .i64 lv] 26)
  have k9 := World.alloc_heap_new w (.cells #[.int .i64 KK, .int .i64 N, .slice so n sc, .int .i64 lv] 26)
  have e0 := cell_of (i := 0) (v := .int .i64 KK) k9 rfl
  have e1 := cell_of (i := 1) (v := .int .i64 N) k9 rfl
  have e2 := cell_of (i := 2) (v := .slice so n sc) k9 rfl
  have e3 := cell_of (i := 3) (v := .int .i64 lv) k9 rfl
  have hB := h.grown (m' := m) ga (Nat.le_refl _)
  have hll := h.iv.len
  have hw01 := grown_trans hw0 ga (by simp)
  have hnbr := h.ne
  have hzr : r < w.heap.size := h.y.lt
  have hgb : ∀ r ∈ gl, r.kn ≤ 140737488355328 ∧ r.vn ≤ 140737488355328 := fun r hr => ⟨(hR.shows r hr).kb, (hR.shows r hr).vb⟩
  have hD : ∃ d, (KK == 0) = d ∧ (d = false → (KK == 1) = true) := ⟨_, rfl, fun h9 => by
    have h8 : ¬ KK = 0 := by simpa using h9
    simp; omega⟩
  obtain ⟨d, hd, hd2⟩ := hD
  cases d
  · have hd3 := hd2 rfl
    clear hd2 hKK
    go_enter Try.func14, Try.ntmps14
    go_upto_region 4 with fail
    generalize w.alloc (.cells #[.int .i64 KK, .int .i64 N, .slice so n sc, .int .i64 lv] 26) = w1 at *
    go_cut [7] from 24 to 33 (fun v7 wx => ∃ gm cap2 rs, v7 = .slice (some ⟨gm, 0, none⟩) n cap2 ∧ Md w1 wx gm cap2 n rs gl)
    case first =>
      have hSS : ∀ V, w1.grownBy V none → (fun W : World => W.cell? ⟨w.heap.size, 2, none⟩ = some (.slice so n sc)) V := fun V hV => hV.cell e2 (by simp)
      refine wp_region_held_drew (S := fun W : World => W.cell? ⟨w.heap.size, 2, none⟩ = some (.slice so n sc)) (by kernel_rfl) (hSS _ (grown_drew w1 none)) (fun hHeld => ?_)
      have hgd := grown_drew w1 none
      generalize w1.drew = wd at *
      refine wpAnyH_take (i := 0) (oi := { dst := some 24, op := Op.fieldAddr 26 (Operand.tmp 5) 2, type := 0, pos := "law.go:104", after := #[], guard := none }) (v := ?_) rfl (by kernel_rfl) (by kernel_rfl) (by kernel_rfl) (fun _ _ _ h => h) (Or.inl ⟨by rfl, ?_⟩) (by assumption) ?_
      rotate_left
      · intro w hSw; (try dsimp only at hSw); go_simp
        try with_reducible rfl
      try simp only [Act.put, List.setIfInBounds_toArray, List.set_cons_zero, List.set_cons_succ]
      refine wpAnyH_take (i := 3) (oi := { dst := some 27, op := Op.build 57 #[(0, Operand.const (Value.int IntKind.i64 77))], type := 57, pos := "law.go:104", after := #[], guard := none }) (v := ?_) rfl (by kernel_rfl) (by kernel_rfl) (by kernel_rfl) (fun _ _ _ h => h) (Or.inl ⟨by rfl, ?_⟩) (by assumption) ?_
      rotate_left
      · intro w hSw; (try dsimp only at hSw); go_simp
        try with_reducible rfl
      try simp only [Act.put, List.setIfInBounds_toArray, List.set_cons_zero, List.set_cons_succ]
      refine wpAnyH_take (i := 6) (oi := { dst := some 30, op := Op.fieldAddr 26 (Operand.tmp 5) 2, type := 0, pos := "law.go:104", after := #[], guard := none }) (v := ?_) rfl (by kernel_rfl) (by kernel_rfl) (by kernel_rfl) (fun _ _ _ h => h) (Or.inl ⟨by rfl, ?_⟩) (by assumption) ?_
      rotate_left
      · intro w hSw; (try dsimp only at hSw); go_simp
        try with_reducible rfl
      try simp only [Act.put, List.setIfInBounds_toArray, List.set_cons_zero, List.set_cons_succ]
      refine wpAnyH_take (i := 1) (oi := { dst := some 25, op := Op.load 24 (Operand.tmp 24), type := 24, pos := "law.go:104", after := #[{ on := 0, ground := Ground.data }], guard := none }) (v := ?_) rfl (by kernel_rfl) (by kernel_rfl) (by kernel_rfl) (fun _ _ _ h => h) (Or.inl ⟨by rfl, ?_⟩) (by assumption) ?_
      rotate_left
      · intro w hSw; (try dsimp only at hSw); go_simp
        try with_reducible rfl
      try simp only [Act.put, List.setIfInBounds_toArray, List.set_cons_zero, List.set_cons_succ]
      refine wpAnyH_take (i := 7) (oi := { dst := some 31, op := Op.load 24 (Operand.tmp 30), type := 24, pos := "law.go:104", after := #[{ on := 6, ground := Ground.data }], guard := none }) (v := ?_) rfl (by kernel_rfl) (by kernel_rfl) (by kernel_rfl) (fun _ _ _ h => h) (Or.inl ⟨by rfl, ?_⟩) (by assumption) ?_
      rotate_left
      · intro w hSw; (try dsimp only at hSw); go_simp
        try with_reducible rfl
      try simp only [Act.put, List.setIfInBounds_toArray, List.set_cons_zero, List.set_cons_succ]
      refine wpAnyH_take (i := 8) (oi := { dst := some 32, op := Op.call { callee := Callee.builtin Builtin.len, args := #[Operand.tmp 31], argTypes := #[24] }, type := 3, pos := "law.go:104", after := #[{ on := 7, ground := Ground.data }], guard := none }) (v := ?_) rfl (by kernel_rfl) (by kernel_rfl) (by kernel_rfl) (fun _ _ _ h => h) (Or.inl ⟨by rfl, ?_⟩) (by assumption) ?_
      rotate_left
      · intro w hSw; (try dsimp only at hSw); go_simp
        try with_reducible rfl
      try simp only [Act.put, List.setIfInBounds_toArray, List.set_cons_zero, List.set_cons_succ]
      refine wpAnyH_ready (rs := [2, 4]) (by kernel_rfl) (by simp) ?_
      refine AllReadyH.cons (o := { dst := some 26, op := Op.call { callee := Callee.value (Operand.func 26), args := #[Operand.tmp 25], argTypes := #[24] }, type := 24, pos := "law.go:104", after := #[{ on := 1, ground := Ground.data }], guard := none }) rfl (fun K hK => ?_) (AllReadyH.cons (o := { dst := some 28, op := Op.buildSlice 24 1 #[(0, Operand.tmp 27)], type := 24, pos := "law.go:104", after := #[{ on := 3, ground := Ground.data }], guard := none }) rfl (fun K hK => ?_) (AllReadyH.nil))
      · go_simp
        have hrc := Gr.rcopy_any wd so n sc gl (hR.grown (grown_trans hw01 hgd (by simp))) (by omega) hgb
        go_at_call 26
        refine hrc.mono ?_
        rintro e w2 ⟨so2, sc2, rs2, rfl, hW2, hds2, hA2, hg2⟩
        have hG2 := grown_trans hgd hg2 (by simp)
        try go_simp
        refine hK.out _ _ (hSS _ hG2) (fun hHeld => ?_)
        clear hK K
        try simp only [Act.put, List.setIfInBounds_toArray, List.set_cons_zero, List.set_cons_succ]
        refine wpAnyH_ready (rs := [4]) (by kernel_rfl) (by simp) ?_
        refine AllReadyH.cons (o := { dst := some 28, op := Op.buildSlice 24 1 #[(0, Operand.tmp 27)], type := 24, pos := "law.go:104", after := #[{ on := 3, ground := Ground.data }], guard := none }) rfl (fun K hK => ?_) (AllReadyH.nil)
        go_simp
        have gA := alloc_grown w2 (.cells #[.int .i64 77, .slice none 0 0, .slice none 0 0] 57)
        have hgA := grown_trans hG2 gA (by simp)
        have kA := World.alloc_heap_new w2 (.cells #[.int .i64 77, .slice none 0 0, .slice none 0 0] 57)
        have hW3 := hW2.kept gA (by cases so2 <;> simp [blk])
        have hA3 := fun r hr => (hA2 r hr).grown gA
        refine hK.out _ _ (hSS _ hgA) (fun hHeld => ?_)
        clear hK K
        try simp only [Act.put, List.setIfInBounds_toArray, List.set_cons_zero, List.set_cons_succ]
        refine wpAnyH_ready (rs := [5]) (by kernel_rfl) (by simp) ?_
        refine AllReadyH.cons (o := { dst := some 29, op := Op.call { callee := Callee.builtin Builtin.append, args := #[Operand.tmp 26, Operand.tmp 28], argTypes := #[24, 24] }, type := 24, pos := "law.go:104", after := #[{ on := 2, ground := Ground.data }, { on := 4, ground := Ground.data }, { on := 2, ground := Ground.chain }], guard := none }) rfl (fun K hK => ?_) (AllReadyH.nil)
        refine Gr.step_append_lying (by rfl) (by rfl) (.tmp 26) (.tmp 28) (by rfl) wd.heap.size so2 n sc2 rs2 (by rfl) hW3 r77 w2.heap.size (by rfl) (cell_of (i := 0) kA rfl) (cell_of (i := 1) kA rfl) (cell_of (i := 2) kA rfl) (by omega) (by have := hg2.size; simp; omega) ?_
        intro g4 rc4 w4 hR4 hg4 hlie
        have hMd := Md.mk' hgA hgd.size hW3 hA3 hds2 hR4 hg4 hlie
        have hro4 := hMd.rs'.room
        have j1 : (0 : Int) ≤ (n : Int) := by omega
        have j2 : (n : Int) ≤ (rc4 : Int) := by omega
        refine hK.out _ _ (hSS _ hMd.g) (fun hHeld => ?_)
        clear hK K
        try simp only [Act.put, List.setIfInBounds_toArray, List.set_cons_zero, List.set_cons_succ]
        refine wpAnyH_take (i := 9) (oi := { dst := some 33, op := Op.slice 24 (Operand.tmp 29) none (some (Operand.tmp 32)) none, type := 24, pos := "law.go:104", after := #[{ on := 5, ground := Ground.data }, { on := 8, ground := Ground.data }], guard := none }) (v := ?_) rfl (by kernel_rfl) (by kernel_rfl) (by kernel_rfl) (fun _ _ _ h => h) (Or.inl ⟨by rfl, ?_⟩) (by assumption) ?_
        rotate_left
        · intro w hSw; (try dsimp only at hSw); go_simp
          try with_reducible rfl
        try simp only [Act.put, List.setIfInBounds_toArray, List.set_cons_zero, List.set_cons_succ]
        refine wpAnyH_take (i := 10) (oi := { dst := some 7, op := Op.assign (Operand.tmp 33), type := 24, pos := "law.go:104", after := #[{ on := 9, ground := Ground.data }, { on := 5, ground := Ground.chain }, { on := 0, ground := Ground.phase }, { on := 1, ground := Ground.phase }, { on := 2, ground := Ground.phase }, { on := 3, ground := Ground.phase }, { on := 4, ground := Ground.phase }, { on := 5, ground := Ground.phase }, { on := 6, ground := Ground.phase }, { on := 7, ground := Ground.phase }, { on := 8, ground := Ground.phase }, { on := 9, ground := Ground.phase }], guard := none }) (v := ?_) rfl (by kernel_rfl) (by kernel_rfl) (by kernel_rfl) (fun _ _ _ h => h) (Or.inl ⟨by rfl, ?_⟩) (by assumption) ?_
        rotate_left
        · intro w hSw; (try dsimp only at hSw); go_simp
          try with_reducible rfl
        try simp only [Act.put, List.setIfInBounds_toArray, List.set_cons_zero, List.set_cons_succ]
        refine wpAnyH_done (by kernel_rfl) ?_ _
        go_wp2
        go_meet
        case rel => exact ⟨g4, rc4, rs2, rfl, hMd⟩
      · go_simp
        have gA := alloc_grown wd (.cells #[.int .i64 77, .slice none 0 0, .slice none 0 0] 57)
        have hgA := grown_trans hgd gA (by simp)
        have kA := World.alloc_heap_new wd (.cells #[.int .i64 77, .slice none 0 0, .slice none 0 0] 57)
        refine hK.out _ _ (hSS _ hgA) (fun hHeld => ?_)
        clear hK K
        try simp only [Act.put, List.setIfInBounds_toArray, List.set_cons_zero, List.set_cons_succ]
        refine wpAnyH_ready (rs := [2]) (by kernel_rfl) (by simp) ?_
        refine AllReadyH.cons (o := { dst := some 26, op := Op.call { callee := Callee.value (Operand.func 26), args := #[Operand.tmp 25], argTypes := #[24] }, type := 24, pos := "law.go:104", after := #[{ on := 1, ground := Ground.data }], guard := none }) rfl (fun K hK => ?_) (AllReadyH.nil)
        go_simp
        have hrc := Gr.rcopy_any (wd.alloc (.cells #[.int .i64 77, .slice none 0 0, .slice none 0 0] 57)) so n sc gl (hR.grown (grown_trans hw01 hgA (by simp))) (by omega) hgb
        go_at_call 26
        refine hrc.mono ?_
        rintro e w2 ⟨so2, sc2, rs2, rfl, hW2, hds2, hA2, hg2⟩
        have hG2 := grown_trans hgA hg2 (by simp)
        try go_simp
        refine hK.out _ _ (hSS _ hG2) (fun hHeld => ?_)
        clear hK K
        try simp only [Act.put, List.setIfInBounds_toArray, List.set_cons_zero, List.set_cons_succ]
        refine wpAnyH_ready (rs := [5]) (by kernel_rfl) (by simp) ?_
        refine AllReadyH.cons (o := { dst := some 29, op := Op.call { callee := Callee.builtin Builtin.append, args := #[Operand.tmp 26, Operand.tmp 28], argTypes := #[24, 24] }, type := 24, pos := "law.go:104", after := #[{ on := 2, ground := Ground.data }, { on := 4, ground := Ground.data }, { on := 2, ground := Ground.chain }], guard := none }) rfl (fun K hK => ?_) (AllReadyH.nil)
        refine Gr.step_append_lying (by rfl) (by rfl) (.tmp 26) (.tmp 28) (by rfl) _ so2 n sc2 rs2 (by rfl) hW2 r77 wd.heap.size (by rfl) (hg2.cell (cell_of (i := 0) kA rfl) (by simp)) (hg2.cell (cell_of (i := 1) kA rfl) (by simp)) (hg2.cell (cell_of (i := 2) kA rfl) (by simp)) (by omega) hg2.size ?_
        intro g4 rc4 w4 hR4 hg4 hlie
        have hMd := Md.mk' hG2 hgA.size hW2 hA2 hds2 hR4 hg4 hlie
        have hro4 := hMd.rs'.room
        have j1 : (0 : Int) ≤ (n : Int) := by omega
        have j2 : (n : Int) ≤ (rc4 : Int) := by omega
        refine hK.out _ _ (hSS _ hMd.g) (fun hHeld => ?_)
        clear hK K
        try simp only [Act.put, List.setIfInBounds_toArray, List.set_cons_zero, List.set_cons_succ]
        refine wpAnyH_take (i := 9) (oi := { dst := some 33, op := Op.slice 24 (Operand.tmp 29) none (some (Operand.tmp 32)) none, type := 24, pos := "law.go:104", after := #[{ on := 5, ground := Ground.data }, { on := 8, ground := Ground.data }], guard := none }) (v := ?_) rfl (by kernel_rfl) (by kernel_rfl) (by kernel_rfl) (fun _ _ _ h => h) (Or.inl ⟨by rfl, ?_⟩) (by assumption) ?_
        rotate_left
        · intro w hSw; (try dsimp only at hSw); go_simp
          try with_reducible rfl
        try simp only [Act.put, List.setIfInBounds_toArray, List.set_cons_zero, List.set_cons_succ]
        refine wpAnyH_take (i := 10) (oi := { dst := some 7, op := Op.assign (Operand.tmp 33), type := 24, pos := "law.go:104", after := #[{ on := 9, ground := Ground.data }, { on := 5, ground := Ground.chain }, { on := 0, ground := Ground.phase }, { on := 1, ground := Ground.phase }, { on := 2, ground := Ground.phase }, { on := 3, ground := Ground.phase }, { on := 4, ground := Ground.phase }, { on := 5, ground := Ground.phase }, { on := 6, ground := Ground.phase }, { on := 7, ground := Ground.phase }, { on := 8, ground := Ground.phase }, { on := 9, ground := Ground.phase }], guard := none }) (v := ?_) rfl (by kernel_rfl) (by kernel_rfl) (by kernel_rfl) (fun _ _ _ h => h) (Or.inl ⟨by rfl, ?_⟩) (by assumption) ?_
        rotate_left
        · intro w hSw; (try dsimp only at hSw); go_simp
          try with_reducible rfl
        try simp only [Act.put, List.setIfInBounds_toArray, List.set_cons_zero, List.set_cons_succ]
        refine wpAnyH_done (by kernel_rfl) ?_ _
        go_wp2
        go_meet
        case rel => exact ⟨g4, rc4, rs2, rfl, hMd⟩
    case rest =>
      obtain ⟨gm, cap2, rs, rfl, hMd⟩ := hcut
      have hrl : rs.length = n := by have := hMd.rs'.len; simpa using this
      have htk : (rs ++ [r77]).take n = rs := by rw [List.take_append_of_le_length (by omega), List.take_of_length_le (by omega)]
      have hGx := grown_trans ga hMd.g (by simp)
      have hw0x := grown_trans hw01 hMd.g (by simp)
      have hBx := h.grown (m' := m) hGx (Nat.le_refl _)
      have hMx := grs_take hMd.rs' n (by omega)
      rw [htk] at hMx
      have hLx := hR.grown hw0x
      have hs1 := ga.size
      have hxl := h.x.lt
      have hdist : ∀ q, w1.heap.size ≤ q → ¬ (q = b ∨ blk ro = some q) := fun q hq e => by
        rcases e with e | e
        · omega
        · have := h.x.rlt q e; omega
      have q77x : wc.cell? ⟨gm, n * 3, none⟩ = some (.int .i64 77) := by
        have h9 := hMd.rs'.cells gm 0 rfl n r77 (by rw [List.getElem?_append_right (by omega), hrl, Nat.sub_self]; rfl)
        simpa [r77] using h9.1
      have e2x := hMd.g.cell e2 (by simp)
      have hsam : Gr.sameAllB rs gl = true := by unfold Gr.sameAllB; rw [hMd.ds]; simp
      have hroom := hMd.rs'.room
      obtain ⟨P1, hP1⟩ : ∃ P1, n + 1 = P1 := ⟨_, rfl⟩
      have eP1 : (n : Int) + 1 = (P1 : Int) := by omega
      have wP1 : IntKind.i64.wrap (P1 : Int) = (P1 : Int) := IntWalk.i64_in _ (by omega)
      have jP0 : (0 : Int) ≤ (P1 : Int) := by omega
      have jP1 : (P1 : Int) ≤ (cap2 : Int) := by omega
      replace hP1 : Hid _ := hP1
      have he0 : 0 ≤ en := by have := h.iv.b0; have := h.iv.be; omega
      have he1 := h.iv.e1
      have hapm : ∀ q, blk (some ⟨gm, 0, none⟩) = some q → blk ro ≠ some q := fun q e e2 => by cases e; exact hdist gm hMd.fr (.inr e2)
      have j3 : (0 : Int) ≤ (n : Int) := by omega
      have j4 : (n : Int) < (P1 : Int) := by omega
      cases hMay : (gl.map grc).all Rc.may
      · have hput := put_bad hBx.x (some ⟨gm, 0, none⟩) n cap2 (rs.map grc) (grs_plain hMx) (by omega) (gall_eq hMd.ds hMx.shows hLx.shows hMay)
        go_wp2_with fail
        refine hput.mono ?_
        rintro e w3 ⟨rfl, hg3⟩
        clear hput
        have hM3 := hMx.grown hg3
        have hL3 := hLx.grown hg3
        have e23 := hg3.cell e2x (by simp)
        have q77 := hg3.cell q77x (by simp)
        have hG3 := grown_trans hGx hg3 (by simp)
        go_wp2_with fail
        have hSS : ∀ V, w3.grownBy V none → (fun W : World => W.cell? ⟨w.heap.size, 2, none⟩ = some (.slice so n sc) ∧ W.cell? ⟨gm, n * 3, none⟩ = some (.int .i64 77)) V := fun V hV => ⟨hV.cell e23 (by simp), hV.cell q77 (by simp)⟩
        refine wp_region_held_drew (S := fun W : World => W.cell? ⟨w.heap.size, 2, none⟩ = some (.slice so n sc) ∧ W.cell? ⟨gm, n * 3, none⟩ = some (.int .i64 77)) (by kernel_rfl) (hSS _ (grown_drew w3 none)) (fun hHeld => ?_)
        have hgd3 := grown_drew w3 none
        have hsm := Gr.rsame_any w3.drew (some ⟨gm, 0, none⟩) so n n cap2 sc rs gl (hM3.grown hgd3) (hL3.grown hgd3)
        rw [hsam] at hsm
        generalize w3.drew = wd3 at *
        refine wpAnyH_take (i := 0) (oi := { dst := some 37, op := Op.move (Operand.tmp 7), type := 24, pos := "law.go:106", after := #[], guard := none }) (v := ?_) rfl (by kernel_rfl) (by kernel_rfl) (by kernel_rfl) (fun _ _ _ h => h) (Or.inl ⟨by rfl, ?_⟩) (by assumption) ?_
        rotate_left
        · intro w hSw; (try dsimp only at hSw); go_simp
          try with_reducible rfl
        try simp only [Act.put, List.setIfInBounds_toArray, List.set_cons_zero, List.set_cons_succ]
        refine wpAnyH_take (i := 1) (oi := { dst := some 38, op := Op.fieldAddr 26 (Operand.tmp 5) 2, type := 0, pos := "law.go:106", after := #[], guard := none }) (v := ?_) rfl (by kernel_rfl) (by kernel_rfl) (by kernel_rfl) (fun _ _ _ h => h) (Or.inl ⟨by rfl, ?_⟩) (by assumption) ?_
        rotate_left
        · intro w hSw; (try dsimp only at hSw); go_simp
          try with_reducible rfl
        try simp only [Act.put, List.setIfInBounds_toArray, List.set_cons_zero, List.set_cons_succ]
        refine wpAnyH_take (i := 2) (oi := { dst := some 39, op := Op.load 24 (Operand.tmp 38), type := 24, pos := "law.go:106", after := #[{ on := 1, ground := Ground.data }], guard := none }) (v := ?_) rfl (by kernel_rfl) (by kernel_rfl) (by kernel_rfl) (fun _ _ _ h => h) (Or.inl ⟨by rfl, ?_⟩) (by assumption) ?_
        rotate_left
        · intro w hSw; (try dsimp only at hSw); go_simp
          try with_reducible rfl
        try simp only [Act.put, List.setIfInBounds_toArray, List.set_cons_zero, List.set_cons_succ]
        refine wpAnyH_ready (rs := [3]) (by kernel_rfl) (by simp) ?_
        refine AllReadyH.cons (o := { dst := some 40, op := Op.call { callee := Callee.value (Operand.func 40), args := #[Operand.tmp 37, Operand.tmp 39], argTypes := #[24, 24] }, type := 4, pos := "law.go:106", after := #[{ on := 0, ground := Ground.data }, { on := 2, ground := Ground.data }], guard := none }) rfl (fun K hK => ?_) (AllReadyH.nil)
        go_simp
        go_at_call 40
        refine hsm.mono ?_
        rintro e w4 ⟨rfl, hg4⟩
        try go_simp
        refine hK.out _ _ (hSS _ (grown_trans hgd3 hg4 (by simp))) (fun hHeld => ?_)
        clear hK K
        try simp only [Act.put, List.setIfInBounds_toArray, List.set_cons_zero, List.set_cons_succ]
        have hG34 := grown_trans hgd3 hg4 (by simp)
        refine wpAnyH_take (i := 4) (oi := { dst := some 41, op := Op.unOp UnOp.not 4 (Operand.tmp 40), type := 4, pos := "law.go:106", after := #[{ on := 3, ground := Ground.data }], guard := none }) (v := ?_) rfl (by kernel_rfl) (by kernel_rfl) (by kernel_rfl) (fun _ _ _ h => h) (Or.inl ⟨by rfl, ?_⟩) (by assumption) ?_
        rotate_left
        · intro w hSw; (try dsimp only at hSw); go_simp
          try with_reducible rfl
        try simp only [Act.put, List.setIfInBounds_toArray, List.set_cons_zero, List.set_cons_succ]
        refine wpAnyH_take (i := 5) (oi := { dst := some 42, op := Op.move (Operand.tmp 41), type := 4, pos := "law.go:106", after := #[{ on := 4, ground := Ground.data }, { on := 3, ground := Ground.chain }], guard := none }) (v := ?_) rfl (by kernel_rfl) (by kernel_rfl) (by kernel_rfl) (fun _ _ _ h => h) (Or.inl ⟨by rfl, ?_⟩) (by assumption) ?_
        rotate_left
        · intro w hSw; (try dsimp only at hSw); go_simp
          try with_reducible rfl
        try simp only [Act.put, List.setIfInBounds_toArray, List.set_cons_zero, List.set_cons_succ]
        refine wpAnyH_take (i := 6) (oi := { dst := some 43, op := Op.move (Operand.tmp 7), type := 24, pos := "law.go:106", after := #[{ on := 5, ground := Ground.guard }], guard := some (5, false) }) (v := ?_) rfl (by kernel_rfl) (by kernel_rfl) (by kernel_rfl) (fun _ _ _ h => h) (Or.inl ⟨by simp [Region.wanted, yielded], ?_⟩) (by assumption) ?_
        rotate_left
        · intro w hSw; (try dsimp only at hSw); go_simp
          try with_reducible rfl
        try simp only [Act.put, List.setIfInBounds_toArray, List.set_cons_zero, List.set_cons_succ]
        refine wpAnyH_take (i := 7) (oi := { dst := some 44, op := Op.fieldAddr 26 (Operand.tmp 5) 2, type := 0, pos := "law.go:106", after := #[{ on := 5, ground := Ground.guard }], guard := some (5, false) }) (v := ?_) rfl (by kernel_rfl) (by kernel_rfl) (by kernel_rfl) (fun _ _ _ h => h) (Or.inl ⟨by simp [Region.wanted, yielded], ?_⟩) (by assumption) ?_
        rotate_left
        · intro w hSw; (try dsimp only at hSw); go_simp
          try with_reducible rfl
        try simp only [Act.put, List.setIfInBounds_toArray, List.set_cons_zero, List.set_cons_succ]
        refine wpAnyH_take (i := 12) (oi := { dst := some 49, op := Op.fieldAddr 26 (Operand.tmp 5) 2, type := 0, pos := "law.go:106", after := #[{ on := 5, ground := Ground.guard }], guard := some (5, false) }) (v := ?_) rfl (by kernel_rfl) (by kernel_rfl) (by kernel_rfl) (fun _ _ _ h => h) (Or.inl ⟨by simp [Region.wanted, yielded], ?_⟩) (by assumption) ?_
        rotate_left
        · intro w hSw; (try dsimp only at hSw); go_simp
          try with_reducible rfl
        try simp only [Act.put, List.setIfInBounds_toArray, List.set_cons_zero, List.set_cons_succ]
        refine wpAnyH_take (i := 8) (oi := { dst := some 45, op := Op.load 24 (Operand.tmp 44), type := 24, pos := "law.go:106", after := #[{ on := 7, ground := Ground.data }, { on := 5, ground := Ground.guard }], guard := some (5, false) }) (v := ?_) rfl (by kernel_rfl) (by kernel_rfl) (by kernel_rfl) (fun _ _ _ h => h) (Or.inl ⟨by simp [Region.wanted, yielded], ?_⟩) (by assumption) ?_
        rotate_left
        · intro w hSw; (try dsimp only at hSw); go_simp
          try with_reducible rfl
        try simp only [Act.put, List.setIfInBounds_toArray, List.set_cons_zero, List.set_cons_succ]
        refine wpAnyH_take (i := 13) (oi := { dst := some 50, op := Op.load 24 (Operand.tmp 49), type := 24, pos := "law.go:106", after := #[{ on := 12, ground := Ground.data }, { on := 5, ground := Ground.guard }], guard := some (5, false) }) (v := ?_) rfl (by kernel_rfl) (by kernel_rfl) (by kernel_rfl) (fun _ _ _ h => h) (Or.inl ⟨by simp [Region.wanted, yielded], ?_⟩) (by assumption) ?_
        rotate_left
        · intro w hSw; (try dsimp only at hSw); go_simp
          try with_reducible rfl
        try simp only [Act.put, List.setIfInBounds_toArray, List.set_cons_zero, List.set_cons_succ]
        refine wpAnyH_take (i := 9) (oi := { dst := some 46, op := Op.call { callee := Callee.builtin Builtin.len, args := #[Operand.tmp 45], argTypes := #[24] }, type := 3, pos := "law.go:106", after := #[{ on := 8, ground := Ground.data }, { on := 5, ground := Ground.guard }], guard := some (5, false) }) (v := ?_) rfl (by kernel_rfl) (by kernel_rfl) (by kernel_rfl) (fun _ _ _ h => h) (Or.inl ⟨by simp [Region.wanted, yielded], ?_⟩) (by assumption) ?_
        rotate_left
        · intro w hSw; (try dsimp only at hSw); go_simp
          try with_reducible rfl
        try simp only [Act.put, List.setIfInBounds_toArray, List.set_cons_zero, List.set_cons_succ]
        refine wpAnyH_take (i := 14) (oi := { dst := some 51, op := Op.call { callee := Callee.builtin Builtin.len, args := #[Operand.tmp 50], argTypes := #[24] }, type := 3, pos := "law.go:106", after := #[{ on := 13, ground := Ground.data }, { on := 5, ground := Ground.guard }], guard := some (5, false) }) (v := ?_) rfl (by kernel_rfl) (by kernel_rfl) (by kernel_rfl) (fun _ _ _ h => h) (Or.inl ⟨by simp [Region.wanted, yielded], ?_⟩) (by assumption) ?_
        rotate_left
        · intro w hSw; (try dsimp only at hSw); go_simp
          try with_reducible rfl
        try simp only [Act.put, List.setIfInBounds_toArray, List.set_cons_zero, List.set_cons_succ]
        refine wpAnyH_take (i := 10) (oi := { dst := some 47, op := Op.binOp BinOp.add 3 (Operand.tmp 46) (Operand.const (Value.int IntKind.i64 1)) 3, type := 3, pos := "law.go:106", after := #[{ on := 9, ground := Ground.data }, { on := 5, ground := Ground.guard }], guard := some (5, false) }) (v := ?_) rfl (by kernel_rfl) (by kernel_rfl) (by kernel_rfl) (fun _ _ _ h => h) (Or.inl ⟨by simp [Region.wanted, yielded], ?_⟩) (by assumption) ?_
        rotate_left
        · intro w hSw; (try dsimp only at hSw); go_simp
          try with_reducible rfl
        try simp only [Act.put, List.setIfInBounds_toArray, List.set_cons_zero, List.set_cons_succ]
        refine wpAnyH_take (i := 11) (oi := { dst := some 48, op := Op.slice 24 (Operand.tmp 43) none (some (Operand.tmp 47)) none, type := 24, pos := "law.go:106", after := #[{ on := 6, ground := Ground.data }, { on := 10, ground := Ground.data }, { on := 5, ground := Ground.guard }], guard := some (5, false) }) (v := ?_) rfl (by kernel_rfl) (by kernel_rfl) (by kernel_rfl) (fun _ _ _ h => h) (Or.inl ⟨by simp [Region.wanted, yielded], ?_⟩) (by assumption) ?_
        rotate_left
        · intro w hSw; (try dsimp only at hSw); go_simp
          try with_reducible rfl
        try simp only [Act.put, List.setIfInBounds_toArray, List.set_cons_zero, List.set_cons_succ]
        refine wpAnyH_take (i := 15) (oi := { dst := some 52, op := Op.indexAddr 24 (Operand.tmp 48) (Operand.tmp 51), type := 0, pos := "law.go:106", after := #[{ on := 11, ground := Ground.data }, { on := 14, ground := Ground.data }, { on := 5, ground := Ground.guard }], guard := some (5, false) }) (v := ?_) rfl (by kernel_rfl) (by kernel_rfl) (by kernel_rfl) (fun _ _ _ h => h) (Or.inl ⟨by simp [Region.wanted, yielded], ?_⟩) (by assumption) ?_
        rotate_left
        · intro w hSw; (try dsimp only at hSw); go_simp
          try with_reducible rfl
        try simp only [Act.put, List.setIfInBounds_toArray, List.set_cons_zero, List.set_cons_succ]
        refine wpAnyH_take (i := 16) (oi := { dst := some 53, op := Op.fieldAddr 57 (Operand.tmp 52) 0, type := 0, pos := "law.go:106", after := #[{ on := 15, ground := Ground.data }, { on := 5, ground := Ground.guard }], guard := some (5, false) }) (v := ?_) rfl (by kernel_rfl) (by kernel_rfl) (by kernel_rfl) (fun _ _ _ h => h) (Or.inl ⟨by simp [Region.wanted, yielded], ?_⟩) (by assumption) ?_
        rotate_left
        · intro w hSw; (try dsimp only at hSw); go_simp
          try with_reducible rfl
        try simp only [Act.put, List.setIfInBounds_toArray, List.set_cons_zero, List.set_cons_succ]
        refine wpAnyH_take (i := 17) (oi := { dst := some 54, op := Op.load 2 (Operand.tmp 53), type := 2, pos := "law.go:106", after := #[{ on := 16, ground := Ground.data }, { on := 5, ground := Ground.guard }], guard := some (5, false) }) (v := ?_) rfl (by kernel_rfl) (by kernel_rfl) (by kernel_rfl) (fun _ _ _ h => h) (Or.inl ⟨by simp [Region.wanted, yielded], ?_⟩) (by assumption) ?_
        rotate_left
        · intro w hSw; (try dsimp only at hSw); go_simp
          try with_reducible rfl
        try simp only [Act.put, List.setIfInBounds_toArray, List.set_cons_zero, List.set_cons_succ]
        refine wpAnyH_take (i := 18) (oi := { dst := some 55, op := Op.binOp BinOp.neq 2 (Operand.tmp 54) (Operand.const (Value.int IntKind.i64 77)) 2, type := 4, pos := "law.go:106", after := #[{ on := 17, ground := Ground.data }, { on := 5, ground := Ground.guard }], guard := some (5, false) }) (v := ?_) rfl (by kernel_rfl) (by kernel_rfl) (by kernel_rfl) (fun _ _ _ h => h) (Or.inl ⟨by simp [Region.wanted, yielded], ?_⟩) (by assumption) ?_
        rotate_left
        · intro w hSw; (try dsimp only at hSw); go_simp
          try with_reducible rfl
        try simp only [Act.put, List.setIfInBounds_toArray, List.set_cons_zero, List.set_cons_succ]
        refine wpAnyH_take (i := 19) (oi := { dst := some 56, op := Op.pick (Operand.tmp 42) (Operand.const (Value.bool true)) (Operand.tmp 55), type := 4, pos := "law.go:106", after := #[{ on := 5, ground := Ground.data }, { on := 18, ground := Ground.data }], guard := none }) (v := ?_) rfl (by kernel_rfl) (by kernel_rfl) (by kernel_rfl) (fun _ _ _ h => h) (Or.inl ⟨by rfl, ?_⟩) (by assumption) ?_
        rotate_left
        · intro w hSw; (try dsimp only at hSw); go_simp
          try with_reducible rfl
        try simp only [Act.put, List.setIfInBounds_toArray, List.set_cons_zero, List.set_cons_succ]
        refine wpAnyH_done (by kernel_rfl) ?_ _
        have e24 := hG34.cell e23 (by simp)
        have hma := mayAll_any so n sc (gl.map grc) (grs_plain (hL3.grown hG34)) (by omega)
        rw [hMay] at hma
        go_wp2_with fail
        refine hma.mono ?_
        rintro e w5 ⟨rfl, hg5⟩
        clear hma
        have hn5 := num_any w5 2
        have hG5 := grown_trans hG3 (grown_trans hG34 hg5 (by simp)) (by simp)
        go_wp2_with fail
        refine hn5.mono ?_
        rintro e w9 ⟨rfl, hw9⟩
        replace hw9 := hw9.symm
        subst hw9
        have hBl : Hid (Bl w w5 b ro r rr bs (m + 100)) := ⟨en, l, ro, rc, rr, rc2, h.grown hG5 (by omega), .inl rfl, .inl rfl, Chg.of_grown hG5 _⟩
        go_wp2
        go_ret
        exact ⟨rfl, hBl.out⟩
      · have hmayL : ∀ r ∈ gl.map grc, r.may = true := List.all_eq_true.1 hMay
        have hmayM := gmay_eq hMd.ds hMx.shows hLx.shows hmayL
        obtain ⟨ts, hts⟩ : ∃ ts, (gl.map grc).map Rc.t = ts := ⟨_, rfl⟩
        have htsM := (gtimes_eq hMd.ds).trans hts
        have htl : ts.length ≤ 100 := by rw [← hts, List.length_map, List.length_map, hR.len]; exact hn
        have htsb : ∀ t ∈ ts, 0 ≤ t ∧ t ≤ 9007199254740992 := fun t ht => by
          rw [← hts] at ht
          obtain ⟨r, hr, rfl⟩ := List.mem_map.1 ht
          have := hmayL r hr
          simp only [Rc.may, Bool.and_eq_true, decide_eq_true_eq] at this
          exact ⟨this.1, this.2.1⟩
        have hIv := h.iv.put ts htsb 100 htl
        have hput := put_any hBx.x he0 he1 (some ⟨gm, 0, none⟩) n cap2 (rs.map grc) (grs_plain hMx) hapm (by omega) hmayM
        rw [htsM] at hput
        obtain ⟨c0, E, K, hcEK⟩ : ∃ c0 E K, putR en l ts = (c0, E, K) := ⟨_, _, _, rfl⟩
        rw [hcEK] at hput hIv
        go_wp2_with fail
        refine hput.mono ?_
        rintro e w3 ⟨ro3, rc3, rfl, hX3, hN3, hC3⟩
        clear hput
        have hM3 := grs_chg hMx hC3 (fun a e => by cases e; exact hdist gm hMd.fr) (fun r hr => ⟨fun a e => hdist _ ((hMd.key r (List.mem_append_left _ hr)).1 a e), fun a e => hdist _ ((hMd.key r (List.mem_append_left _ hr)).2 a e)⟩)
        have hw03 : w0.grownBy w3 none := ((Chg.of_grown hw0x _).trans hC3).grown (fun q hq e => by rcases e with e | e; omega; have := hro0 q e; omega)
        have hL3 := hR.grown hw03
        have hzn : ¬ (w.heap.size = b ∨ blk ro = some w.heap.size) := fun e => by
          rcases e with e | e
          · have := h.x.lt; omega
          · have := h.x.rlt _ e; omega
        have e23 := hC3.cell e2x hzn
        have q77 := hC3.cell q77x (hdist gm hMd.fr)
        have a1 : blk ro ≠ some r := hBx.x.sw.not64 hBx.y.ix (by decide)
        have a2 : blk rr ≠ some b := hBx.y.sw.not64 hBx.x.ix (by decide)
        have hY3 := hBx.y.chg hC3 (fun e => by rcases e with e | e; exact hnbr e.symm; exact a1 e) (fun q e1 e2 => by rcases e2 with e2 | e2; exact a2 (e2 ▸ e1); exact h.ap q e2 e1)
        go_wp2_with fail
        have hSS : ∀ V, w3.grownBy V none → (fun W : World => W.cell? ⟨w.heap.size, 2, none⟩ = some (.slice so n sc) ∧ W.cell? ⟨gm, n * 3, none⟩ = some (.int .i64 77)) V := fun V hV => ⟨hV.cell e23 (by simp), hV.cell q77 (by simp)⟩
        refine wp_region_held_drew (S := fun W : World => W.cell? ⟨w.heap.size, 2, none⟩ = some (.slice so n sc) ∧ W.cell? ⟨gm, n * 3, none⟩ = some (.int .i64 77)) (by kernel_rfl) (hSS _ (grown_drew w3 none)) (fun hHeld => ?_)
        have hgd3 := grown_drew w3 none
        have hsm := Gr.rsame_any w3.drew (some ⟨gm, 0, none⟩) so n n cap2 sc rs gl (hM3.grown hgd3) (hL3.grown hgd3)
        rw [hsam] at hsm
        generalize w3.drew = wd3 at *
        refine wpAnyH_take (i := 0) (oi := { dst := some 37, op := Op.move (Operand.tmp 7), type := 24, pos := "law.go:106", after := #[], guard := none }) (v := ?_) rfl (by kernel_rfl) (by kernel_rfl) (by kernel_rfl) (fun _ _ _ h => h) (Or.inl ⟨by rfl, ?_⟩) (by assumption) ?_
        rotate_left
        · intro w hSw; (try dsimp only at hSw); go_simp
          try with_reducible rfl
        try simp only [Act.put, List.setIfInBounds_toArray, List.set_cons_zero, List.set_cons_succ]
        refine wpAnyH_take (i := 1) (oi := { dst := some 38, op := Op.fieldAddr 26 (Operand.tmp 5) 2, type := 0, pos := "law.go:106", after := #[], guard := none }) (v := ?_) rfl (by kernel_rfl) (by kernel_rfl) (by kernel_rfl) (fun _ _ _ h => h) (Or.inl ⟨by rfl, ?_⟩) (by assumption) ?_
        rotate_left
        · intro w hSw; (try dsimp only at hSw); go_simp
          try with_reducible rfl
        try simp only [Act.put, List.setIfInBounds_toArray, List.set_cons_zero, List.set_cons_succ]
        refine wpAnyH_take (i := 2) (oi := { dst := some 39, op := Op.load 24 (Operand.tmp 38), type := 24, pos := "law.go:106", after := #[{ on := 1, ground := Ground.data }], guard := none }) (v := ?_) rfl (by kernel_rfl) (by kernel_rfl) (by kernel_rfl) (fun _ _ _ h => h) (Or.inl ⟨by rfl, ?_⟩) (by assumption) ?_
        rotate_left
        · intro w hSw; (try dsimp only at hSw); go_simp
          try with_reducible rfl
        try simp only [Act.put, List.setIfInBounds_toArray, List.set_cons_zero, List.set_cons_succ]
        refine wpAnyH_ready (rs := [3]) (by kernel_rfl) (by simp) ?_
        refine AllReadyH.cons (o := { dst := some 40, op := Op.call { callee := Callee.value (Operand.func 40), args := #[Operand.tmp 37, Operand.tmp 39], argTypes := #[24, 24] }, type := 4, pos := "law.go:106", after := #[{ on := 0, ground := Ground.data }, { on := 2, ground := Ground.data }], guard := none }) rfl (fun K hK => ?_) (AllReadyH.nil)
        go_simp
        go_at_call 40
        refine hsm.mono ?_
        rintro e w4 ⟨rfl, hg4⟩
        try go_simp
        refine hK.out _ _ (hSS _ (grown_trans hgd3 hg4 (by simp))) (fun hHeld => ?_)
        clear hK K
        try simp only [Act.put, List.setIfInBounds_toArray, List.set_cons_zero, List.set_cons_succ]
        have hG34 := grown_trans hgd3 hg4 (by simp)
        refine wpAnyH_take (i := 4) (oi := { dst := some 41, op := Op.unOp UnOp.not 4 (Operand.tmp 40), type := 4, pos := "law.go:106", after := #[{ on := 3, ground := Ground.data }], guard := none }) (v := ?_) rfl (by kernel_rfl) (by kernel_rfl) (by kernel_rfl) (fun _ _ _ h => h) (Or.inl ⟨by rfl, ?_⟩) (by assumption) ?_
        rotate_left
        · intro w hSw; (try dsimp only at hSw); go_simp
          try with_reducible rfl
        try simp only [Act.put, List.setIfInBounds_toArray, List.set_cons_zero, List.set_cons_succ]
        refine wpAnyH_take (i := 5) (oi := { dst := some 42, op := Op.move (Operand.tmp 41), type := 4, pos := "law.go:106", after := #[{ on := 4, ground := Ground.data }, { on := 3, ground := Ground.chain }], guard := none }) (v := ?_) rfl (by kernel_rfl) (by kernel_rfl) (by kernel_rfl) (fun _ _ _ h => h) (Or.inl ⟨by rfl, ?_⟩) (by assumption) ?_
        rotate_left
        · intro w hSw; (try dsimp only at hSw); go_simp
          try with_reducible rfl
        try simp only [Act.put, List.setIfInBounds_toArray, List.set_cons_zero, List.set_cons_succ]
        refine wpAnyH_take (i := 6) (oi := { dst := some 43, op := Op.move (Operand.tmp 7), type := 24, pos := "law.go:106", after := #[{ on := 5, ground := Ground.guard }], guard := some (5, false) }) (v := ?_) rfl (by kernel_rfl) (by kernel_rfl) (by kernel_rfl) (fun _ _ _ h => h) (Or.inl ⟨by simp [Region.wanted, yielded], ?_⟩) (by assumption) ?_
        rotate_left
        · intro w hSw; (try dsimp only at hSw); go_simp
          try with_reducible rfl
        try simp only [Act.put, List.setIfInBounds_toArray, List.set_cons_zero, List.set_cons_succ]
        refine wpAnyH_take (i := 7) (oi := { dst := some 44, op := Op.fieldAddr 26 (Operand.tmp 5) 2, type := 0, pos := "law.go:106", after := #[{ on := 5, ground := Ground.guard }], guard := some (5, false) }) (v := ?_) rfl (by kernel_rfl) (by kernel_rfl) (by kernel_rfl) (fun _ _ _ h => h) (Or.inl ⟨by simp [Region.wanted, yielded], ?_⟩) (by assumption) ?_
        rotate_left
        · intro w hSw; (try dsimp only at hSw); go_simp
          try with_reducible rfl
        try simp only [Act.put, List.setIfInBounds_toArray, List.set_cons_zero, List.set_cons_succ]
        refine wpAnyH_take (i := 12) (oi := { dst := some 49, op := Op.fieldAddr 26 (Operand.tmp 5) 2, type := 0, pos := "law.go:106", after := #[{ on := 5, ground := Ground.guard }], guard := some (5, false) }) (v := ?_) rfl (by kernel_rfl) (by kernel_rfl) (by kernel_rfl) (fun _ _ _ h => h) (Or.inl ⟨by simp [Region.wanted, yielded], ?_⟩) (by assumption) ?_
        rotate_left
        · intro w hSw; (try dsimp only at hSw); go_simp
          try with_reducible rfl
        try simp only [Act.put, List.setIfInBounds_toArray, List.set_cons_zero, List.set_cons_succ]
        refine wpAnyH_take (i := 8) (oi := { dst := some 45, op := Op.load 24 (Operand.tmp 44), type := 24, pos := "law.go:106", after := #[{ on := 7, ground := Ground.data }, { on := 5, ground := Ground.guard }], guard := some (5, false) }) (v := ?_) rfl (by kernel_rfl) (by kernel_rfl) (by kernel_rfl) (fun _ _ _ h => h) (Or.inl ⟨by simp [Region.wanted, yielded], ?_⟩) (by assumption) ?_
        rotate_left
        · intro w hSw; (try dsimp only at hSw); go_simp
          try with_reducible rfl
        try simp only [Act.put, List.setIfInBounds_toArray, List.set_cons_zero, List.set_cons_succ]
        refine wpAnyH_take (i := 13) (oi := { dst := some 50, op := Op.load 24 (Operand.tmp 49), type := 24, pos := "law.go:106", after := #[{ on := 12, ground := Ground.data }, { on := 5, ground := Ground.guard }], guard := some (5, false) }) (v := ?_) rfl (by kernel_rfl) (by kernel_rfl) (by kernel_rfl) (fun _ _ _ h => h) (Or.inl ⟨by simp [Region.wanted, yielded], ?_⟩) (by assumption) ?_
        rotate_left
        · intro w hSw; (try dsimp only at hSw); go_simp
          try with_reducible rfl
        try simp only [Act.put, List.setIfInBounds_toArray, List.set_cons_zero, List.set_cons_succ]
        refine wpAnyH_take (i := 9) (oi := { dst := some 46, op := Op.call { callee := Callee.builtin Builtin.len, args := #[Operand.tmp 45], argTypes := #[24] }, type := 3, pos := "law.go:106", after := #[{ on := 8, ground := Ground.data }, { on := 5, ground := Ground.guard }], guard := some (5, false) }) (v := ?_) rfl (by kernel_rfl) (by kernel_rfl) (by kernel_rfl) (fun _ _ _ h => h) (Or.inl ⟨by simp [Region.wanted, yielded], ?_⟩) (by assumption) ?_
        rotate_left
        · intro w hSw; (try dsimp only at hSw); go_simp
          try with_reducible rfl
        try simp only [Act.put, List.setIfInBounds_toArray, List.set_cons_zero, List.set_cons_succ]
        refine wpAnyH_take (i := 14) (oi := { dst := some 51, op := Op.call { callee := Callee.builtin Builtin.len, args := #[Operand.tmp 50], argTypes := #[24] }, type := 3, pos := "law.go:106", after := #[{ on := 13, ground := Ground.data }, { on := 5, ground := Ground.guard }], guard := some (5, false) }) (v := ?_) rfl (by kernel_rfl) (by kernel_rfl) (by kernel_rfl) (fun _ _ _ h => h) (Or.inl ⟨by simp [Region.wanted, yielded], ?_⟩) (by assumption) ?_
        rotate_left
        · intro w hSw; (try dsimp only at hSw); go_simp
          try with_reducible rfl
        try simp only [Act.put, List.setIfInBounds_toArray, List.set_cons_zero, List.set_cons_succ]
        refine wpAnyH_take (i := 10) (oi := { dst := some 47, op := Op.binOp BinOp.add 3 (Operand.tmp 46) (Operand.const (Value.int IntKind.i64 1)) 3, type := 3, pos := "law.go:106", after := #[{ on := 9, ground := Ground.data }, { on := 5, ground := Ground.guard }], guard := some (5, false) }) (v := ?_) rfl (by kernel_rfl) (by kernel_rfl) (by kernel_rfl) (fun _ _ _ h => h) (Or.inl ⟨by simp [Region.wanted, yielded], ?_⟩) (by assumption) ?_
        rotate_left
        · intro w hSw; (try dsimp only at hSw); go_simp
          try with_reducible rfl
        try simp only [Act.put, List.setIfInBounds_toArray, List.set_cons_zero, List.set_cons_succ]
        refine wpAnyH_take (i := 11) (oi := { dst := some 48, op := Op.slice 24 (Operand.tmp 43) none (some (Operand.tmp 47)) none, type := 24, pos := "law.go:106", after := #[{ on := 6, ground := Ground.data }, { on := 10, ground := Ground.data }, { on := 5, ground := Ground.guard }], guard := some (5, false) }) (v := ?_) rfl (by kernel_rfl) (by kernel_rfl) (by kernel_rfl) (fun _ _ _ h => h) (Or.inl ⟨by simp [Region.wanted, yielded], ?_⟩) (by assumption) ?_
        rotate_left
        · intro w hSw; (try dsimp only at hSw); go_simp
          try with_reducible rfl
        try simp only [Act.put, List.setIfInBounds_toArray, List.set_cons_zero, List.set_cons_succ]
        refine wpAnyH_take (i := 15) (oi := { dst := some 52, op := Op.indexAddr 24 (Operand.tmp 48) (Operand.tmp 51), type := 0, pos := "law.go:106", after := #[{ on := 11, ground := Ground.data }, { on := 14, ground := Ground.data }, { on := 5, ground := Ground.guard }], guard := some (5, false) }) (v := ?_) rfl (by kernel_rfl) (by kernel_rfl) (by kernel_rfl) (fun _ _ _ h => h) (Or.inl ⟨by simp [Region.wanted, yielded], ?_⟩) (by assumption) ?_
        rotate_left
        · intro w hSw; (try dsimp only at hSw); go_simp
          try with_reducible rfl
        try simp only [Act.put, List.setIfInBounds_toArray, List.set_cons_zero, List.set_cons_succ]
        refine wpAnyH_take (i := 16) (oi := { dst := some 53, op := Op.fieldAddr 57 (Operand.tmp 52) 0, type := 0, pos := "law.go:106", after := #[{ on := 15, ground := Ground.data }, { on := 5, ground := Ground.guard }], guard := some (5, false) }) (v := ?_) rfl (by kernel_rfl) (by kernel_rfl) (by kernel_rfl) (fun _ _ _ h => h) (Or.inl ⟨by simp [Region.wanted, yielded], ?_⟩) (by assumption) ?_
        rotate_left
        · intro w hSw; (try dsimp only at hSw); go_simp
          try with_reducible rfl
        try simp only [Act.put, List.setIfInBounds_toArray, List.set_cons_zero, List.set_cons_succ]
        refine wpAnyH_take (i := 17) (oi := { dst := some 54, op := Op.load 2 (Operand.tmp 53), type := 2, pos := "law.go:106", after := #[{ on := 16, ground := Ground.data }, { on := 5, ground := Ground.guard }], guard := some (5, false) }) (v := ?_) rfl (by kernel_rfl) (by kernel_rfl) (by kernel_rfl) (fun _ _ _ h => h) (Or.inl ⟨by simp [Region.wanted, yielded], ?_⟩) (by assumption) ?_
        rotate_left
        · intro w hSw; (try dsimp only at hSw); go_simp
          try with_reducible rfl
        try simp only [Act.put, List.setIfInBounds_toArray, List.set_cons_zero, List.set_cons_succ]
        refine wpAnyH_take (i := 18) (oi := { dst := some 55, op := Op.binOp BinOp.neq 2 (Operand.tmp 54) (Operand.const (Value.int IntKind.i64 77)) 2, type := 4, pos := "law.go:106", after := #[{ on := 17, ground := Ground.data }, { on := 5, ground := Ground.guard }], guard := some (5, false) }) (v := ?_) rfl (by kernel_rfl) (by kernel_rfl) (by kernel_rfl) (fun _ _ _ h => h) (Or.inl ⟨by simp [Region.wanted, yielded], ?_⟩) (by assumption) ?_
        rotate_left
        · intro w hSw; (try dsimp only at hSw); go_simp
          try with_reducible rfl
        try simp only [Act.put, List.setIfInBounds_toArray, List.set_cons_zero, List.set_cons_succ]
        refine wpAnyH_take (i := 19) (oi := { dst := some 56, op := Op.pick (Operand.tmp 42) (Operand.const (Value.bool true)) (Operand.tmp 55), type := 4, pos := "law.go:106", after := #[{ on := 5, ground := Ground.data }, { on := 18, ground := Ground.data }], guard := none }) (v := ?_) rfl (by kernel_rfl) (by kernel_rfl) (by kernel_rfl) (fun _ _ _ h => h) (Or.inl ⟨by rfl, ?_⟩) (by assumption) ?_
        rotate_left
        · intro w hSw; (try dsimp only at hSw); go_simp
          try with_reducible rfl
        try simp only [Act.put, List.setIfInBounds_toArray, List.set_cons_zero, List.set_cons_succ]
        refine wpAnyH_done (by kernel_rfl) ?_ _
        have e24 := hG34.cell e23 (by simp)
        have hma := mayAll_any so n sc (gl.map grc) (grs_plain (hL3.grown hG34)) (by omega)
        rw [hMay] at hma
        go_wp2_with fail
        refine hma.mono ?_
        rintro e w5 ⟨rfl, hg5⟩
        clear hma
        have hG35 := grown_trans hG34 hg5 (by simp)
        have e25 := hg5.cell e24 (by simp)
        have dc : (c0 == c0) = true := by simp
        go_wp2_with fail
        refine wp_region_held_drew (S := fun W : World => W.cell? ⟨w.heap.size, 2, none⟩ = some (.slice so n sc)) (by kernel_rfl) ((grown_drew w5 none).cell e25 (by simp)) (fun hHeld => ?_)
        have hgd5 := grown_drew w5 none
        have hG35 := grown_trans hG35 hgd5 (by simp)
        have e25 := hgd5.cell e25 (by simp)
        generalize w5.drew = wd5 at *
        refine wpAnyH_take (i := 0) (oi := { dst := some 64, op := Op.move (Operand.tmp 8), type := 28, pos := "law.go:112", after := #[], guard := none }) (v := ?_) rfl (by kernel_rfl) (by kernel_rfl) (by kernel_rfl) (fun _ _ _ h => h) (Or.inl ⟨by rfl, ?_⟩) (by assumption) ?_
        rotate_left
        · intro w hSw; (try dsimp only at hSw); go_simp
          try with_reducible rfl
        try simp only [Act.put, List.setIfInBounds_toArray, List.set_cons_zero, List.set_cons_succ]
        refine wpAnyH_take (i := 2) (oi := { dst := some 66, op := Op.move (Operand.tmp 1), type := 32, pos := "law.go:112", after := #[], guard := none }) (v := ?_) rfl (by kernel_rfl) (by kernel_rfl) (by kernel_rfl) (fun _ _ _ h => h) (Or.inl ⟨by rfl, ?_⟩) (by assumption) ?_
        rotate_left
        · intro w hSw; (try dsimp only at hSw); go_simp
          try with_reducible rfl
        try simp only [Act.put, List.setIfInBounds_toArray, List.set_cons_zero, List.set_cons_succ]
        refine wpAnyH_take (i := 3) (oi := { dst := some 67, op := Op.fieldAddr 26 (Operand.tmp 5) 2, type := 0, pos := "law.go:112", after := #[], guard := none }) (v := ?_) rfl (by kernel_rfl) (by kernel_rfl) (by kernel_rfl) (fun _ _ _ h => h) (Or.inl ⟨by rfl, ?_⟩) (by assumption) ?_
        rotate_left
        · intro w hSw; (try dsimp only at hSw); go_simp
          try with_reducible rfl
        try simp only [Act.put, List.setIfInBounds_toArray, List.set_cons_zero, List.set_cons_succ]
        refine wpAnyH_take (i := 4) (oi := { dst := some 68, op := Op.load 24 (Operand.tmp 67), type := 24, pos := "law.go:112", after := #[{ on := 3, ground := Ground.data }], guard := none }) (v := ?_) rfl (by kernel_rfl) (by kernel_rfl) (by kernel_rfl) (fun _ _ _ h => h) (Or.inl ⟨by rfl, ?_⟩) (by assumption) ?_
        rotate_left
        · intro w hSw; (try dsimp only at hSw); go_simp
          try with_reducible rfl
        try simp only [Act.put, List.setIfInBounds_toArray, List.set_cons_zero, List.set_cons_succ]
        refine wpAnyH_ready (rs := [1]) (by kernel_rfl) (by simp) ?_
        refine AllReadyH.cons (o := { dst := some 65, op := Op.call { callee := Callee.value (Operand.func 9), args := #[Operand.tmp 64], argTypes := #[28] }, type := 3, pos := "law.go:112", after := #[{ on := 0, ground := Ground.data }], guard := none }) rfl (fun K hK => ?_) (AllReadyH.nil)
        go_simp
        go_at_call 9
        refine (num_any wd5 c0).mono ?_
        rintro e w9 ⟨rfl, hw9⟩; replace hw9 := hw9.symm; subst hw9
        try go_simp
        refine hK.out _ _ e25 (fun hHeld => ?_)
        clear hK K
        try simp only [Act.put, List.setIfInBounds_toArray, List.set_cons_zero, List.set_cons_succ]
        have hrp := rput_any (hY3.grown hG35) (by omega) he0 he1 so n sc (gl.map grc) (grs_plain (hL3.grown hG35)) (by omega)
        rw [hts, hcEK] at hrp
        refine wpAnyH_ready (rs := [5]) (by kernel_rfl) (by simp) ?_
        refine AllReadyH.cons (o := { dst := some 69, op := Op.call { callee := Callee.value (Operand.func 41), args := #[Operand.tmp 66, Operand.tmp 68], argTypes := #[32, 24] }, type := 3, pos := "law.go:112", after := #[{ on := 2, ground := Ground.data }, { on := 4, ground := Ground.data }, { on := 1, ground := Ground.chain }], guard := none }) rfl (fun K hK => ?_) (AllReadyH.nil)
        go_simp
        go_at_call 41
        refine hrp.mono ?_
        rintro e w6 ⟨rr6, rc6, rfl, hY6, hN6, hC6⟩
        try go_simp
        refine hK.out _ _ (hC6.cell e25 (show ¬ w.heap.size = r by omega)) (fun hHeld => ?_)
        clear hK K
        try simp only [Act.put, List.setIfInBounds_toArray, List.set_cons_zero, List.set_cons_succ]
        refine wpAnyH_take (i := 6) (oi := { dst := some 70, op := Op.binOp BinOp.eql 3 (Operand.tmp 65) (Operand.tmp 69) 3, type := 4, pos := "law.go:112", after := #[{ on := 1, ground := Ground.data }, { on := 5, ground := Ground.data }], guard := none }) (v := ?_) rfl (by kernel_rfl) (by kernel_rfl) (by kernel_rfl) (fun _ _ _ h => h) (Or.inl ⟨by rfl, ?_⟩) (by assumption) ?_
        rotate_left
        · intro w hSw; (try dsimp only at hSw); go_simp
          try with_reducible rfl
        try simp only [Act.put, List.setIfInBounds_toArray, List.set_cons_zero, List.set_cons_succ]
        refine wpAnyH_take (i := 7) (oi := { dst := some 6, op := Op.assign (Operand.tmp 70), type := 4, pos := "law.go:112", after := #[{ on := 6, ground := Ground.data }, { on := 5, ground := Ground.chain }, { on := 0, ground := Ground.phase }, { on := 1, ground := Ground.phase }, { on := 2, ground := Ground.phase }, { on := 3, ground := Ground.phase }, { on := 4, ground := Ground.phase }, { on := 5, ground := Ground.phase }, { on := 6, ground := Ground.phase }], guard := none }) (v := ?_) rfl (by kernel_rfl) (by kernel_rfl) (by kernel_rfl) (fun _ _ _ h => h) (Or.inl ⟨by rfl, ?_⟩) (by assumption) ?_
        rotate_left
        · intro w hSw; (try dsimp only at hSw); go_simp
          try with_reducible rfl
        try simp only [Act.put, List.setIfInBounds_toArray, List.set_cons_zero, List.set_cons_succ]
        refine wpAnyH_done (by kernel_rfl) ?_ _
        have hX5 := hX3.grown hG35
        have a7 : blk ro3 ≠ some r := hX5.sw.not64 (hY3.grown hG35).ix (by decide)
        have hX6 := hX5.chg hC6 (show ¬ b = r from hnbr) (fun q e1 e2 => a7 (e2 ▸ e1))
        have hsx := hGx.size
        have hs3 := hC3.size
        have hs5 := hG35.size
        have hBl : Hid (Bl w w6 b ro r rr bs (m + 100)) := by
          refine ⟨E, K, ro3, rc3, rr6, rc6, ⟨hX6, hY6, hIv, fun q e1 e2 => ?_⟩, ?_, ?_, ?_⟩
          · have hx5 := hX5.rlt q e1
            rcases hN6 with ⟨rfl, _⟩ | hF8
            · rcases hN3 with ⟨rfl, _⟩ | hF7
              · exact h.ap q e1 e2
              · have := hF7 q e1; have := hBx.y.rlt q e2; omega
            · have := hF8 q e2; omega
          · rcases hN3 with ⟨h9, _⟩ | h9
            · exact .inl h9
            · exact .inr (fun q e => by have := h9 q e; omega)
          · rcases hN6 with ⟨h9, _⟩ | h9
            · exact .inl h9
            · exact .inr (fun q e => by have := h9 q e; omega)
          · exact (((Chg.of_grown hGx _).trans (hC3.mono fun q _ e => by rcases e with e | e; exact .inl e; exact .inr (.inl e))).trans (Chg.of_grown hG35 _)).trans (hC6.mono fun q _ e => .inr (.inr e))
        go_wp2
        go_ret
        exact ⟨rfl, hBl.out⟩
  · clear hd2 hKK
    go_enter Try.func14, Try.ntmps14
    go_upto_region 4 with fail
    generalize w.alloc (.cells #[.int .i64 KK, .int .i64 N, .slice so n sc, .int .i64 lv] 26) = w1 at *
    go_cut [7] from 24 to 33 (fun v7 wx => ∃ gm cap2 rs, v7 = .slice (some ⟨gm, 0, none⟩) n cap2 ∧ Md w1 wx gm cap2 n rs gl)
    case first =>
      have hSS : ∀ V, w1.grownBy V none → (fun W : World => W.cell? ⟨w.heap.size, 2, none⟩ = some (.slice so n sc)) V := fun V hV => hV.cell e2 (by simp)
      refine wp_region_held_drew (S := fun W : World => W.cell? ⟨w.heap.size, 2, none⟩ = some (.slice so n sc)) (by kernel_rfl) (hSS _ (grown_drew w1 none)) (fun hHeld => ?_)
      have hgd := grown_drew w1 none
      generalize w1.drew = wd at *
      refine wpAnyH_take (i := 0) (oi := { dst := some 24, op := Op.fieldAddr 26 (Operand.tmp 5) 2, type := 0, pos := "law.go:104", after := #[], guard := none }) (v := ?_) rfl (by kernel_rfl) (by kernel_rfl) (by kernel_rfl) (fun _ _ _ h => h) (Or.inl ⟨by rfl, ?_⟩) (by assumption) ?_
      rotate_left
      · intro w hSw; (try dsimp only at hSw); go_simp
        try with_reducible rfl
      try simp only [Act.put, List.setIfInBounds_toArray, List.set_cons_zero, List.set_cons_succ]
      refine wpAnyH_take (i := 3) (oi := { dst := some 27, op := Op.build 57 #[(0, Operand.const (Value.int IntKind.i64 77))], type := 57, pos := "law.go:104", after := #[], guard := none }) (v := ?_) rfl (by kernel_rfl) (by kernel_rfl) (by kernel_rfl) (fun _ _ _ h => h) (Or.inl ⟨by rfl, ?_⟩) (by assumption) ?_
      rotate_left
      · intro w hSw; (try dsimp only at hSw); go_simp
        try with_reducible rfl
      try simp only [Act.put, List.setIfInBounds_toArray, List.set_cons_zero, List.set_cons_succ]
      refine wpAnyH_take (i := 6) (oi := { dst := some 30, op := Op.fieldAddr 26 (Operand.tmp 5) 2, type := 0, pos := "law.go:104", after := #[], guard := none }) (v := ?_) rfl (by kernel_rfl) (by kernel_rfl) (by kernel_rfl) (fun _ _ _ h => h) (Or.inl ⟨by rfl, ?_⟩) (by assumption) ?_
      rotate_left
      · intro w hSw; (try dsimp only at hSw); go_simp
        try with_reducible rfl
      try simp only [Act.put, List.setIfInBounds_toArray, List.set_cons_zero, List.set_cons_succ]
      refine wpAnyH_take (i := 1) (oi := { dst := some 25, op := Op.load 24 (Operand.tmp 24), type := 24, pos := "law.go:104", after := #[{ on := 0, ground := Ground.data }], guard := none }) (v := ?_) rfl (by kernel_rfl) (by kernel_rfl) (by kernel_rfl) (fun _ _ _ h => h) (Or.inl ⟨by rfl, ?_⟩) (by assumption) ?_
      rotate_left
      · intro w hSw; (try dsimp only at hSw); go_simp
        try with_reducible rfl
      try simp only [Act.put, List.setIfInBounds_toArray, List.set_cons_zero, List.set_cons_succ]
      refine wpAnyH_take (i := 7) (oi := { dst := some 31, op := Op.load 24 (Operand.tmp 30), type := 24, pos := "law.go:104", after := #[{ on := 6, ground := Ground.data }], guard := none }) (v := ?_) rfl (by kernel_rfl) (by kernel_rfl) (by kernel_rfl) (fun _ _ _ h => h) (Or.inl ⟨by rfl, ?_⟩) (by assumption) ?_
      rotate_left
      · intro w hSw; (try dsimp only at hSw); go_simp
        try with_reducible rfl
      try simp only [Act.put, List.setIfInBounds_toArray, List.set_cons_zero, List.set_cons_succ]
      refine wpAnyH_take (i := 8) (oi := { dst := some 32, op := Op.call { callee := Callee.builtin Builtin.len, args := #[Operand.tmp 31], argTypes := #[24] }, type := 3, pos := "law.go:104", after := #[{ on := 7, ground := Ground.data }], guard := none }) (v := ?_) rfl (by kernel_rfl) (by kernel_rfl) (by kernel_rfl) (fun _ _ _ h => h) (Or.inl ⟨by rfl, ?_⟩) (by assumption) ?_
      rotate_left
      · intro w hSw; (try dsimp only at hSw); go_simp
        try with_reducible rfl
      try simp only [Act.put, List.setIfInBounds_toArray, List.set_cons_zero, List.set_cons_succ]
      refine wpAnyH_ready (rs := [2, 4]) (by kernel_rfl) (by simp) ?_
      refine AllReadyH.cons (o := { dst := some 26, op := Op.call { callee := Callee.value (Operand.func 26), args := #[Operand.tmp 25], argTypes := #[24] }, type := 24, pos := "law.go:104", after := #[{ on := 1, ground := Ground.data }], guard := none }) rfl (fun K hK => ?_) (AllReadyH.cons (o := { dst := some 28, op := Op.buildSlice 24 1 #[(0, Operand.tmp 27)], type := 24, pos := "law.go:104", after := #[{ on := 3, ground := Ground.data }], guard := none }) rfl (fun K hK => ?_) (AllReadyH.nil))
      · go_simp
        have hrc := Gr.rcopy_any wd so n sc gl (hR.grown (grown_trans hw01 hgd (by simp))) (by omega) hgb
        go_at_call 26
        refine hrc.mono ?_
        rintro e w2 ⟨so2, sc2, rs2, rfl, hW2, hds2, hA2, hg2⟩
        have hG2 := grown_trans hgd hg2 (by simp)
        try go_simp
        refine hK.out _ _ (hSS _ hG2) (fun hHeld => ?_)
        clear hK K
        try simp only [Act.put, List.setIfInBounds_toArray, List.set_cons_zero, List.set_cons_succ]
        refine wpAnyH_ready (rs := [4]) (by kernel_rfl) (by simp) ?_
        refine AllReadyH.cons (o := { dst := some 28, op := Op.buildSlice 24 1 #[(0, Operand.tmp 27)], type := 24, pos := "law.go:104", after := #[{ on := 3, ground := Ground.data }], guard := none }) rfl (fun K hK => ?_) (AllReadyH.nil)
        go_simp
        have gA := alloc_grown w2 (.cells #[.int .i64 77, .slice none 0 0, .slice none 0 0] 57)
        have hgA := grown_trans hG2 gA (by simp)
        have kA := World.alloc_heap_new w2 (.cells #[.int .i64 77, .slice none 0 0, .slice none 0 0] 57)
        have hW3 := hW2.kept gA (by cases so2 <;> simp [blk])
        have hA3 := fun r hr => (hA2 r hr).grown gA
        refine hK.out _ _ (hSS _ hgA) (fun hHeld => ?_)
        clear hK K
        try simp only [Act.put, List.setIfInBounds_toArray, List.set_cons_zero, List.set_cons_succ]
        refine wpAnyH_ready (rs := [5]) (by kernel_rfl) (by simp) ?_
        refine AllReadyH.cons (o := { dst := some 29, op := Op.call { callee := Callee.builtin Builtin.append, args := #[Operand.tmp 26, Operand.tmp 28], argTypes := #[24, 24] }, type := 24, pos := "law.go:104", after := #[{ on := 2, ground := Ground.data }, { on := 4, ground := Ground.data }, { on := 2, ground := Ground.chain }], guard := none }) rfl (fun K hK => ?_) (AllReadyH.nil)
        refine Gr.step_append_lying (by rfl) (by rfl) (.tmp 26) (.tmp 28) (by rfl) wd.heap.size so2 n sc2 rs2 (by rfl) hW3 r77 w2.heap.size (by rfl) (cell_of (i := 0) kA rfl) (cell_of (i := 1) kA rfl) (cell_of (i := 2) kA rfl) (by omega) (by have := hg2.size; simp; omega) ?_
        intro g4 rc4 w4 hR4 hg4 hlie
        have hMd := Md.mk' hgA hgd.size hW3 hA3 hds2 hR4 hg4 hlie
        have hro4 := hMd.rs'.room
        have j1 : (0 : Int) ≤ (n : Int) := by omega
        have j2 : (n : Int) ≤ (rc4 : Int) := by omega
        refine hK.out _ _ (hSS _ hMd.g) (fun hHeld => ?_)
        clear hK K
        try simp only [Act.put, List.setIfInBounds_toArray, List.set_cons_zero, List.set_cons_succ]
        refine wpAnyH_take (i := 9) (oi := { dst := some 33, op := Op.slice 24 (Operand.tmp 29) none (some (Operand.tmp 32)) none, type := 24, pos := "law.go:104", after := #[{ on := 5, ground := Ground.data }, { on := 8, ground := Ground.data }], guard := none }) (v := ?_) rfl (by kernel_rfl) (by kernel_rfl) (by kernel_rfl) (fun _ _ _ h => h) (Or.inl ⟨by rfl, ?_⟩) (by assumption) ?_
        rotate_left
        · intro w hSw; (try dsimp only at hSw); go_simp
          try with_reducible rfl
        try simp only [Act.put, List.setIfInBounds_toArray, List.set_cons_zero, List.set_cons_succ]
        refine wpAnyH_take (i := 10) (oi := { dst := some 7, op := Op.assign (Operand.tmp 33), type := 24, pos := "law.go:104", after := #[{ on := 9, ground := Ground.data }, { on := 5, ground := Ground.chain }, { on := 0, ground := Ground.phase }, { on := 1, ground := Ground.phase }, { on := 2, ground := Ground.phase }, { on := 3, ground := Ground.phase }, { on := 4, ground := Ground.phase }, { on := 5, ground := Ground.phase }, { on := 6, ground := Ground.phase }, { on := 7, ground := Ground.phase }, { on := 8, ground := Ground.phase }, { on := 9, ground := Ground.phase }], guard := none }) (v := ?_) rfl (by kernel_rfl) (by kernel_rfl) (by kernel_rfl) (fun _ _ _ h => h) (Or.inl ⟨by rfl, ?_⟩) (by assumption) ?_
        rotate_left
        · intro w hSw; (try dsimp only at hSw); go_simp
          try with_reducible rfl
        try simp only [Act.put, List.setIfInBounds_toArray, List.set_cons_zero, List.set_cons_succ]
        refine wpAnyH_done (by kernel_rfl) ?_ _
        go_wp2
        go_meet
        case rel => exact ⟨g4, rc4, rs2, rfl, hMd⟩
      · go_simp
        have gA := alloc_grown wd (.cells #[.int .i64 77, .slice none 0 0, .slice none 0 0] 57)
        have hgA := grown_trans hgd gA (by simp)
        have kA := World.alloc_heap_new wd (.cells #[.int .i64 77, .slice none 0 0, .slice none 0 0] 57)
        refine hK.out _ _ (hSS _ hgA) (fun hHeld => ?_)
        clear hK K
        try simp only [Act.put, List.setIfInBounds_toArray, List.set_cons_zero, List.set_cons_succ]
        refine wpAnyH_ready (rs := [2]) (by kernel_rfl) (by simp) ?_
        refine AllReadyH.cons (o := { dst := some 26, op := Op.call { callee := Callee.value (Operand.func 26), args := #[Operand.tmp 25], argTypes := #[24] }, type := 24, pos := "law.go:104", after := #[{ on := 1, ground := Ground.data }], guard := none }) rfl (fun K hK => ?_) (AllReadyH.nil)
        go_simp
        have hrc := Gr.rcopy_any (wd.alloc (.cells #[.int .i64 77, .slice none 0 0, .slice none 0 0] 57)) so n sc gl (hR.grown (grown_trans hw01 hgA (by simp))) (by omega) hgb
        go_at_call 26
        refine hrc.mono ?_
        rintro e w2 ⟨so2, sc2, rs2, rfl, hW2, hds2, hA2, hg2⟩
        have hG2 := grown_trans hgA hg2 (by simp)
        try go_simp
        refine hK.out _ _ (hSS _ hG2) (fun hHeld => ?_)
        clear hK K
        try simp only [Act.put, List.setIfInBounds_toArray, List.set_cons_zero, List.set_cons_succ]
        refine wpAnyH_ready (rs := [5]) (by kernel_rfl) (by simp) ?_
        refine AllReadyH.cons (o := { dst := some 29, op := Op.call { callee := Callee.builtin Builtin.append, args := #[Operand.tmp 26, Operand.tmp 28], argTypes := #[24, 24] }, type := 24, pos := "law.go:104", after := #[{ on := 2, ground := Ground.data }, { on := 4, ground := Ground.data }, { on := 2, ground := Ground.chain }], guard := none }) rfl (fun K hK => ?_) (AllReadyH.nil)
        refine Gr.step_append_lying (by rfl) (by rfl) (.tmp 26) (.tmp 28) (by rfl) _ so2 n sc2 rs2 (by rfl) hW2 r77 wd.heap.size (by rfl) (hg2.cell (cell_of (i := 0) kA rfl) (by simp)) (hg2.cell (cell_of (i := 1) kA rfl) (by simp)) (hg2.cell (cell_of (i := 2) kA rfl) (by simp)) (by omega) hg2.size ?_
        intro g4 rc4 w4 hR4 hg4 hlie
        have hMd := Md.mk' hG2 hgA.size hW2 hA2 hds2 hR4 hg4 hlie
        have hro4 := hMd.rs'.room
        have j1 : (0 : Int) ≤ (n : Int) := by omega
        have j2 : (n : Int) ≤ (rc4 : Int) := by omega
        refine hK.out _ _ (hSS _ hMd.g) (fun hHeld => ?_)
        clear hK K
        try simp only [Act.put, List.setIfInBounds_toArray, List.set_cons_zero, List.set_cons_succ]
        refine wpAnyH_take (i := 9) (oi := { dst := some 33, op := Op.slice 24 (Operand.tmp 29) none (some (Operand.tmp 32)) none, type := 24, pos := "law.go:104", after := #[{ on := 5, ground := Ground.data }, { on := 8, ground := Ground.data }], guard := none }) (v := ?_) rfl (by kernel_rfl) (by kernel_rfl) (by kernel_rfl) (fun _ _ _ h => h) (Or.inl ⟨by rfl, ?_⟩) (by assumption) ?_
        rotate_left
        · intro w hSw; (try dsimp only at hSw); go_simp
          try with_reducible rfl
        try simp only [Act.put, List.setIfInBounds_toArray, List.set_cons_zero, List.set_cons_succ]
        refine wpAnyH_take (i := 10) (oi := { dst := some 7, op := Op.assign (Operand.tmp 33), type := 24, pos := "law.go:104", after := #[{ on := 9, ground := Ground.data }, { on := 5, ground := Ground.chain }, { on := 0, ground := Ground.phase }, { on := 1, ground := Ground.phase }, { on := 2, ground := Ground.phase }, { on := 3, ground := Ground.phase }, { on := 4, ground := Ground.phase }, { on := 5, ground := Ground.phase }, { on := 6, ground := Ground.phase }, { on := 7, ground := Ground.phase }, { on := 8, ground := Ground.phase }, { on := 9, ground := Ground.phase }], guard := none }) (v := ?_) rfl (by kernel_rfl) (by kernel_rfl) (by kernel_rfl) (fun _ _ _ h => h) (Or.inl ⟨by rfl, ?_⟩) (by assumption) ?_
        rotate_left
        · intro w hSw; (try dsimp only at hSw); go_simp
          try with_reducible rfl
        try simp only [Act.put, List.setIfInBounds_toArray, List.set_cons_zero, List.set_cons_succ]
        refine wpAnyH_done (by kernel_rfl) ?_ _
        go_wp2
        go_meet
        case rel => exact ⟨g4, rc4, rs2, rfl, hMd⟩
    case rest =>
      obtain ⟨gm, cap2, rs, rfl, hMd⟩ := hcut
      have hrl : rs.length = n := by have := hMd.rs'.len; simpa using this
      have htk : (rs ++ [r77]).take n = rs := by rw [List.take_append_of_le_length (by omega), List.take_of_length_le (by omega)]
      have hGx := grown_trans ga hMd.g (by simp)
      have hw0x := grown_trans hw01 hMd.g (by simp)
      have hBx := h.grown (m' := m) hGx (Nat.le_refl _)
      have hMx := grs_take hMd.rs' n (by omega)
      rw [htk] at hMx
      have hLx := hR.grown hw0x
      have hs1 := ga.size
      have hxl := h.x.lt
      have hdist : ∀ q, w1.heap.size ≤ q → ¬ (q = b ∨ blk ro = some q) := fun q hq e => by
        rcases e with e | e
        · omega
        · have := h.x.rlt q e; omega
      have q77x : wc.cell? ⟨gm, n * 3, none⟩ = some (.int .i64 77) := by
        have h9 := hMd.rs'.cells gm 0 rfl n r77 (by rw [List.getElem?_append_right (by omega), hrl, Nat.sub_self]; rfl)
        simpa [r77] using h9.1
      have e2x := hMd.g.cell e2 (by simp)
      have hsam : Gr.sameAllB rs gl = true := by unfold Gr.sameAllB; rw [hMd.ds]; simp
      have hroom := hMd.rs'.room
      obtain ⟨P1, hP1⟩ : ∃ P1, n + 1 = P1 := ⟨_, rfl⟩
      have eP1 : (n : Int) + 1 = (P1 : Int) := by omega
      have wP1 : IntKind.i64.wrap (P1 : Int) = (P1 : Int) := IntWalk.i64_in _ (by omega)
      have jP0 : (0 : Int) ≤ (P1 : Int) := by omega
      have jP1 : (P1 : Int) ≤ (cap2 : Int) := by omega
      replace hP1 : Hid _ := hP1
      have he0 : 0 ≤ en := by have := h.iv.b0; have := h.iv.be; omega
      have he1 := h.iv.e1
      have hapm : ∀ q, blk (some ⟨gm, 0, none⟩) = some q → blk ro ≠ some q := fun q e e2 => by cases e; exact hdist gm hMd.fr (.inr e2)
      have j3 : (0 : Int) ≤ (n : Int) := by omega
      have j4 : (n : Int) < (P1 : Int) := by omega
      cases hMay : (gl.map grc).all Rc.may
      · have hput := put_bad hBx.x (some ⟨gm, 0, none⟩) n cap2 (rs.map grc) (grs_plain hMx) (by omega) (gall_eq hMd.ds hMx.shows hLx.shows hMay)
        go_wp2_with fail
        refine hput.mono ?_
        rintro e w3 ⟨rfl, hg3⟩
        clear hput
        have hM3 := hMx.grown hg3
        have hL3 := hLx.grown hg3
        have e23 := hg3.cell e2x (by simp)
        have q77 := hg3.cell q77x (by simp)
        have hG3 := grown_trans hGx hg3 (by simp)
        go_wp2_with fail
        have hSS : ∀ V, w3.grownBy V none → (fun W : World => W.cell? ⟨w.heap.size, 2, none⟩ = some (.slice so n sc) ∧ W.cell? ⟨gm, n * 3, none⟩ = some (.int .i64 77)) V := fun V hV => ⟨hV.cell e23 (by simp), hV.cell q77 (by simp)⟩
        refine wp_region_held_drew (S := fun W : World => W.cell? ⟨w.heap.size, 2, none⟩ = some (.slice so n sc) ∧ W.cell? ⟨gm, n * 3, none⟩ = some (.int .i64 77)) (by kernel_rfl) (hSS _ (grown_drew w3 none)) (fun hHeld => ?_)
        have hgd3 := grown_drew w3 none
        have hsm := Gr.rsame_any w3.drew (some ⟨gm, 0, none⟩) so n n cap2 sc rs gl (hM3.grown hgd3) (hL3.grown hgd3)
        rw [hsam] at hsm
        generalize w3.drew = wd3 at *
        refine wpAnyH_take (i := 0) (oi := { dst := some 37, op := Op.move (Operand.tmp 7), type := 24, pos := "law.go:106", after := #[], guard := none }) (v := ?_) rfl (by kernel_rfl) (by kernel_rfl) (by kernel_rfl) (fun _ _ _ h => h) (Or.inl ⟨by rfl, ?_⟩) (by assumption) ?_
        rotate_left
        · intro w hSw; (try dsimp only at hSw); go_simp
          try with_reducible rfl
        try simp only [Act.put, List.setIfInBounds_toArray, List.set_cons_zero, List.set_cons_succ]
        refine wpAnyH_take (i := 1) (oi := { dst := some 38, op := Op.fieldAddr 26 (Operand.tmp 5) 2, type := 0, pos := "law.go:106", after := #[], guard := none }) (v := ?_) rfl (by kernel_rfl) (by kernel_rfl) (by kernel_rfl) (fun _ _ _ h => h) (Or.inl ⟨by rfl, ?_⟩) (by assumption) ?_
        rotate_left
        · intro w hSw; (try dsimp only at hSw); go_simp
          try with_reducible rfl
        try simp only [Act.put, List.setIfInBounds_toArray, List.set_cons_zero, List.set_cons_succ]
        refine wpAnyH_take (i := 2) (oi := { dst := some 39, op := Op.load 24 (Operand.tmp 38), type := 24, pos := "law.go:106", after := #[{ on := 1, ground := Ground.data }], guard := none }) (v := ?_) rfl (by kernel_rfl) (by kernel_rfl) (by kernel_rfl) (fun _ _ _ h => h) (Or.inl ⟨by rfl, ?_⟩) (by assumption) ?_
        rotate_left
        · intro w hSw; (try dsimp only at hSw); go_simp
          try with_reducible rfl
        try simp only [Act.put, List.setIfInBounds_toArray, List.set_cons_zero, List.set_cons_succ]
        refine wpAnyH_ready (rs := [3]) (by kernel_rfl) (by simp) ?_
        refine AllReadyH.cons (o := { dst := some 40, op := Op.call { callee := Callee.value (Operand.func 40), args := #[Operand.tmp 37, Operand.tmp 39], argTypes := #[24, 24] }, type := 4, pos := "law.go:106", after := #[{ on := 0, ground := Ground.data }, { on := 2, ground := Ground.data }], guard := none }) rfl (fun K hK => ?_) (AllReadyH.nil)
        go_simp
        go_at_call 40
        refine hsm.mono ?_
        rintro e w4 ⟨rfl, hg4⟩
        try go_simp
        refine hK.out _ _ (hSS _ (grown_trans hgd3 hg4 (by simp))) (fun hHeld => ?_)
        clear hK K
        try simp only [Act.put, List.setIfInBounds_toArray, List.set_cons_zero, List.set_cons_succ]
        have hG34 := grown_trans hgd3 hg4 (by simp)
        refine wpAnyH_take (i := 4) (oi := { dst := some 41, op := Op.unOp UnOp.not 4 (Operand.tmp 40), type := 4, pos := "law.go:106", after := #[{ on := 3, ground := Ground.data }], guard := none }) (v := ?_) rfl (by kernel_rfl) (by kernel_rfl) (by kernel_rfl) (fun _ _ _ h => h) (Or.inl ⟨by rfl, ?_⟩) (by assumption) ?_
        rotate_left
        · intro w hSw; (try dsimp only at hSw); go_simp
          try with_reducible rfl
        try simp only [Act.put, List.setIfInBounds_toArray, List.set_cons_zero, List.set_cons_succ]
        refine wpAnyH_take (i := 5) (oi := { dst := some 42, op := Op.move (Operand.tmp 41), type := 4, pos := "law.go:106", after := #[{ on := 4, ground := Ground.data }, { on := 3, ground := Ground.chain }], guard := none }) (v := ?_) rfl (by kernel_rfl) (by kernel_rfl) (by kernel_rfl) (fun _ _ _ h => h) (Or.inl ⟨by rfl, ?_⟩) (by assumption) ?_
        rotate_left
        · intro w hSw; (try dsimp only at hSw); go_simp
          try with_reducible rfl
        try simp only [Act.put, List.setIfInBounds_toArray, List.set_cons_zero, List.set_cons_succ]
        refine wpAnyH_take (i := 6) (oi := { dst := some 43, op := Op.move (Operand.tmp 7), type := 24, pos := "law.go:106", after := #[{ on := 5, ground := Ground.guard }], guard := some (5, false) }) (v := ?_) rfl (by kernel_rfl) (by kernel_rfl) (by kernel_rfl) (fun _ _ _ h => h) (Or.inl ⟨by simp [Region.wanted, yielded], ?_⟩) (by assumption) ?_
        rotate_left
        · intro w hSw; (try dsimp only at hSw); go_simp
          try with_reducible rfl
        try simp only [Act.put, List.setIfInBounds_toArray, List.set_cons_zero, List.set_cons_succ]
        refine wpAnyH_take (i := 7) (oi := { dst := some 44, op := Op.fieldAddr 26 (Operand.tmp 5) 2, type := 0, pos := "law.go:106", after := #[{ on := 5, ground := Ground.guard }], guard := some (5, false) }) (v := ?_) rfl (by kernel_rfl) (by kernel_rfl) (by kernel_rfl) (fun _ _ _ h => h) (Or.inl ⟨by simp [Region.wanted, yielded], ?_⟩) (by assumption) ?_
        rotate_left
        · intro w hSw; (try dsimp only at hSw); go_simp
          try with_reducible rfl
        try simp only [Act.put, List.setIfInBounds_toArray, List.set_cons_zero, List.set_cons_succ]
        refine wpAnyH_take (i := 12) (oi := { dst := some 49, op := Op.fieldAddr 26 (Operand.tmp 5) 2, type := 0, pos := "law.go:106", after := #[{ on := 5, ground := Ground.guard }], guard := some (5, false) }) (v := ?_) rfl (by kernel_rfl) (by kernel_rfl) (by kernel_rfl) (fun _ _ _ h => h) (Or.inl ⟨by simp [Region.wanted, yielded], ?_⟩) (by assumption) ?_
        rotate_left
        · intro w hSw; (try dsimp only at hSw); go_simp
          try with_reducible rfl
        try simp only [Act.put, List.setIfInBounds_toArray, List.set_cons_zero, List.set_cons_succ]
        refine wpAnyH_take (i := 8) (oi := { dst := some 45, op := Op.load 24 (Operand.tmp 44), type := 24, pos := "law.go:106", after := #[{ on := 7, ground := Ground.data }, { on := 5, ground := Ground.guard }], guard := some (5, false) }) (v := ?_) rfl (by kernel_rfl) (by kernel_rfl) (by kernel_rfl) (fun _ _ _ h => h) (Or.inl ⟨by simp [Region.wanted, yielded], ?_⟩) (by assumption) ?_
        rotate_left
        · intro w hSw; (try dsimp only at hSw); go_simp
          try with_reducible rfl
        try simp only [Act.put, List.setIfInBounds_toArray, List.set_cons_zero, List.set_cons_succ]
        refine wpAnyH_take (i := 13) (oi := { dst := some 50, op := Op.load 24 (Operand.tmp 49), type := 24, pos := "law.go:106", after := #[{ on := 12, ground := Ground.data }, { on := 5, ground := Ground.guard }], guard := some (5, false) }) (v := ?_) rfl (by kernel_rfl) (by kernel_rfl) (by kernel_rfl) (fun _ _ _ h => h) (Or.inl ⟨by simp [Region.wanted, yielded], ?_⟩) (by assumption) ?_
        rotate_left
        · intro w hSw; (try dsimp only at hSw); go_simp
          try with_reducible rfl
        try simp only [Act.put, List.setIfInBounds_toArray, List.set_cons_zero, List.set_cons_succ]
        refine wpAnyH_take (i := 9) (oi := { dst := some 46, op := Op.call { callee := Callee.builtin Builtin.len, args := #[Operand.tmp 45], argTypes := #[24] }, type := 3, pos := "law.go:106", after := #[{ on := 8, ground := Ground.data }, { on := 5, ground := Ground.guard }], guard := some (5, false) }) (v := ?_) rfl (by kernel_rfl) (by kernel_rfl) (by kernel_rfl) (fun _ _ _ h => h) (Or.inl ⟨by simp [Region.wanted, yielded], ?_⟩) (by assumption) ?_
        rotate_left
        · intro w hSw; (try dsimp only at hSw); go_simp
          try with_reducible rfl
        try simp only [Act.put, List.setIfInBounds_toArray, List.set_cons_zero, List.set_cons_succ]
        refine wpAnyH_take (i := 14) (oi := { dst := some 51, op := Op.call { callee := Callee.builtin Builtin.len, args := #[Operand.tmp 50], argTypes := #[24] }, type := 3, pos := "law.go:106", after := #[{ on := 13, ground := Ground.data }, { on := 5, ground := Ground.guard }], guard := some (5, false) }) (v := ?_) rfl (by kernel_rfl) (by kernel_rfl) (by kernel_rfl) (fun _ _ _ h => h) (Or.inl ⟨by simp [Region.wanted, yielded], ?_⟩) (by assumption) ?_
        rotate_left
        · intro w hSw; (try dsimp only at hSw); go_simp
          try with_reducible rfl
        try simp only [Act.put, List.setIfInBounds_toArray, List.set_cons_zero, List.set_cons_succ]
        refine wpAnyH_take (i := 10) (oi := { dst := some 47, op := Op.binOp BinOp.add 3 (Operand.tmp 46) (Operand.const (Value.int IntKind.i64 1)) 3, type := 3, pos := "law.go:106", after := #[{ on := 9, ground := Ground.data }, { on := 5, ground := Ground.guard }], guard := some (5, false) }) (v := ?_) rfl (by kernel_rfl) (by kernel_rfl) (by kernel_rfl) (fun _ _ _ h => h) (Or.inl ⟨by simp [Region.wanted, yielded], ?_⟩) (by assumption) ?_
        rotate_left
        · intro w hSw; (try dsimp only at hSw); go_simp
          try with_reducible rfl
        try simp only [Act.put, List.setIfInBounds_toArray, List.set_cons_zero, List.set_cons_succ]
        refine wpAnyH_take (i := 11) (oi := { dst := some 48, op := Op.slice 24 (Operand.tmp 43) none (some (Operand.tmp 47)) none, type := 24, pos := "law.go:106", after := #[{ on := 6, ground := Ground.data }, { on := 10, ground := Ground.data }, { on := 5, ground := Ground.guard }], guard := some (5, false) }) (v := ?_) rfl (by kernel_rfl) (by kernel_rfl) (by kernel_rfl) (fun _ _ _ h => h) (Or.inl ⟨by simp [Region.wanted, yielded], ?_⟩) (by assumption) ?_
        rotate_left
        · intro w hSw; (try dsimp only at hSw); go_simp
          try with_reducible rfl
        try simp only [Act.put, List.setIfInBounds_toArray, List.set_cons_zero, List.set_cons_succ]
        refine wpAnyH_take (i := 15) (oi := { dst := some 52, op := Op.indexAddr 24 (Operand.tmp 48) (Operand.tmp 51), type := 0, pos := "law.go:106", after := #[{ on := 11, ground := Ground.data }, { on := 14, ground := Ground.data }, { on := 5, ground := Ground.guard }], guard := some (5, false) }) (v := ?_) rfl (by kernel_rfl) (by kernel_rfl) (by kernel_rfl) (fun _ _ _ h => h) (Or.inl ⟨by simp [Region.wanted, yielded], ?_⟩) (by assumption) ?_
        rotate_left
        · intro w hSw; (try dsimp only at hSw); go_simp
          try with_reducible rfl
        try simp only [Act.put, List.setIfInBounds_toArray, List.set_cons_zero, List.set_cons_succ]
        refine wpAnyH_take (i := 16) (oi := { dst := some 53, op := Op.fieldAddr 57 (Operand.tmp 52) 0, type := 0, pos := "law.go:106", after := #[{ on := 15, ground := Ground.data }, { on := 5, ground := Ground.guard }], guard := some (5, false) }) (v := ?_) rfl (by kernel_rfl) (by kernel_rfl) (by kernel_rfl) (fun _ _ _ h => h) (Or.inl ⟨by simp [Region.wanted, yielded], ?_⟩) (by assumption) ?_
        rotate_left
        · intro w hSw; (try dsimp only at hSw); go_simp
          try with_reducible rfl
        try simp only [Act.put, List.setIfInBounds_toArray, List.set_cons_zero, List.set_cons_succ]
        refine wpAnyH_take (i := 17) (oi := { dst := some 54, op := Op.load 2 (Operand.tmp 53), type := 2, pos := "law.go:106", after := #[{ on := 16, ground := Ground.data }, { on := 5, ground := Ground.guard }], guard := some (5, false) }) (v := ?_) rfl (by kernel_rfl) (by kernel_rfl) (by kernel_rfl) (fun _ _ _ h => h) (Or.inl ⟨by simp [Region.wanted, yielded], ?_⟩) (by assumption) ?_
        rotate_left
        · intro w hSw; (try dsimp only at hSw); go_simp
          try with_reducible rfl
        try simp only [Act.put, List.setIfInBounds_toArray, List.set_cons_zero, List.set_cons_succ]
        refine wpAnyH_take (i := 18) (oi := { dst := some 55, op := Op.binOp BinOp.neq 2 (Operand.tmp 54) (Operand.const (Value.int IntKind.i64 77)) 2, type := 4, pos := "law.go:106", after := #[{ on := 17, ground := Ground.data }, { on := 5, ground := Ground.guard }], guard := some (5, false) }) (v := ?_) rfl (by kernel_rfl) (by kernel_rfl) (by kernel_rfl) (fun _ _ _ h => h) (Or.inl ⟨by simp [Region.wanted, yielded], ?_⟩) (by assumption) ?_
        rotate_left
        · intro w hSw; (try dsimp only at hSw); go_simp
          try with_reducible rfl
        try simp only [Act.put, List.setIfInBounds_toArray, List.set_cons_zero, List.set_cons_succ]
        refine wpAnyH_take (i := 19) (oi := { dst := some 56, op := Op.pick (Operand.tmp 42) (Operand.const (Value.bool true)) (Operand.tmp 55), type := 4, pos := "law.go:106", after := #[{ on := 5, ground := Ground.data }, { on := 18, ground := Ground.data }], guard := none }) (v := ?_) rfl (by kernel_rfl) (by kernel_rfl) (by kernel_rfl) (fun _ _ _ h => h) (Or.inl ⟨by rfl, ?_⟩) (by assumption) ?_
        rotate_left
        · intro w hSw; (try dsimp only at hSw); go_simp
          try with_reducible rfl
        try simp only [Act.put, List.setIfInBounds_toArray, List.set_cons_zero, List.set_cons_succ]
        refine wpAnyH_done (by kernel_rfl) ?_ _
        have e24 := hG34.cell e23 (by simp)
        have hma := mayAll_any so n sc (gl.map grc) (grs_plain (hL3.grown hG34)) (by omega)
        rw [hMay] at hma
        go_wp2_with fail
        refine hma.mono ?_
        rintro e w5 ⟨rfl, hg5⟩
        clear hma
        have hn5 := num_any w5 2
        have hG5 := grown_trans hG3 (grown_trans hG34 hg5 (by simp)) (by simp)
        go_wp2_with fail
        refine hn5.mono ?_
        rintro e w9 ⟨rfl, hw9⟩
        replace hw9 := hw9.symm
        subst hw9
        have hBl : Hid (Bl w w5 b ro r rr bs (m + 100)) := ⟨en, l, ro, rc, rr, rc2, h.grown hG5 (by omega), .inl rfl, .inl rfl, Chg.of_grown hG5 _⟩
        go_wp2
        go_ret
        exact ⟨rfl, hBl.out⟩
      · have hmayL : ∀ r ∈ gl.map grc, r.may = true := List.all_eq_true.1 hMay
        have hmayM := gmay_eq hMd.ds hMx.shows hLx.shows hmayL
        obtain ⟨ts, hts⟩ : ∃ ts, (gl.map grc).map Rc.t = ts := ⟨_, rfl⟩
        have htsM := (gtimes_eq hMd.ds).trans hts
        have htl : ts.length ≤ 100 := by rw [← hts, List.length_map, List.length_map, hR.len]; exact hn
        have htsb : ∀ t ∈ ts, 0 ≤ t ∧ t ≤ 9007199254740992 := fun t ht => by
          rw [← hts] at ht
          obtain ⟨r, hr, rfl⟩ := List.mem_map.1 ht
          have := hmayL r hr
          simp only [Rc.may, Bool.and_eq_true, decide_eq_true_eq] at this
          exact ⟨this.1, this.2.1⟩
        have hIv := h.iv.put ts htsb 100 htl
        have hput := put_any hBx.x he0 he1 (some ⟨gm, 0, none⟩) n cap2 (rs.map grc) (grs_plain hMx) hapm (by omega) hmayM
        rw [htsM] at hput
        obtain ⟨c0, E, K, hcEK⟩ : ∃ c0 E K, putR en l ts = (c0, E, K) := ⟨_, _, _, rfl⟩
        rw [hcEK] at hput hIv
        go_wp2_with fail
        refine hput.mono ?_
        rintro e w3 ⟨ro3, rc3, rfl, hX3, hN3, hC3⟩
        clear hput
        have hM3 := grs_chg hMx hC3 (fun a e => by cases e; exact hdist gm hMd.fr) (fun r hr => ⟨fun a e => hdist _ ((hMd.key r (List.mem_append_left _ hr)).1 a e), fun a e => hdist _ ((hMd.key r (List.mem_append_left _ hr)).2 a e)⟩)
        have hw03 : w0.grownBy w3 none := ((Chg.of_grown hw0x _).trans hC3).grown (fun q hq e => by rcases e with e | e; omega; have := hro0 q e; omega)
        have hL3 := hR.grown hw03
        have hzn : ¬ (w.heap.size = b ∨ blk ro = some w.heap.size) := fun e => by
          rcases e with e | e
          · have := h.x.lt; omega
          · have := h.x.rlt _ e; omega
        have e23 := hC3.cell e2x hzn
        have q77 := hC3.cell q77x (hdist gm hMd.fr)
        have a1 : blk ro ≠ some r := hBx.x.sw.not64 hBx.y.ix (by decide)
        have a2 : blk rr ≠ some b := hBx.y.sw.not64 hBx.x.ix (by decide)
        have hY3 := hBx.y.chg hC3 (fun e => by rcases e with e | e; exact hnbr e.symm; exact a1 e) (fun q e1 e2 => by rcases e2 with e2 | e2; exact a2 (e2 ▸ e1); exact h.ap q e2 e1)
        go_wp2_with fail
        have hSS : ∀ V, w3.grownBy V none → (fun W : World => W.cell? ⟨w.heap.size, 2, none⟩ = some (.slice so n sc) ∧ W.cell? ⟨gm, n * 3, none⟩ = some (.int .i64 77)) V := fun V hV => ⟨hV.cell e23 (by simp), hV.cell q77 (by simp)⟩
        refine wp_region_held_drew (S := fun W : World => W.cell? ⟨w.heap.size, 2, none⟩ = some (.slice so n sc) ∧ W.cell? ⟨gm, n * 3, none⟩ = some (.int .i64 77)) (by kernel_rfl) (hSS _ (grown_drew w3 none)) (fun hHeld => ?_)
        have hgd3 := grown_drew w3 none
        have hsm := Gr.rsame_any w3.drew (some ⟨gm, 0, none⟩) so n n cap2 sc rs gl (hM3.grown hgd3) (hL3.grown hgd3)
        rw [hsam] at hsm
        generalize w3.drew = wd3 at *
        refine wpAnyH_take (i := 0) (oi := { dst := some 37, op := Op.move (Operand.tmp 7), type := 24, pos := "law.go:106", after := #[], guard := none }) (v := ?_) rfl (by kernel_rfl) (by kernel_rfl) (by kernel_rfl) (fun _ _ _ h => h) (Or.inl ⟨by rfl, ?_⟩) (by assumption) ?_
        rotate_left
        · intro w hSw; (try dsimp only at hSw); go_simp
          try with_reducible rfl
        try simp only [Act.put, List.setIfInBounds_toArray, List.set_cons_zero, List.set_cons_succ]
        refine wpAnyH_take (i := 1) (oi := { dst := some 38, op := Op.fieldAddr 26 (Operand.tmp 5) 2, type := 0, pos := "law.go:106", after := #[], guard := none }) (v := ?_) rfl (by kernel_rfl) (by kernel_rfl) (by kernel_rfl) (fun _ _ _ h => h) (Or.inl ⟨by rfl, ?_⟩) (by assumption) ?_
        rotate_left
        · intro w hSw; (try dsimp only at hSw); go_simp
          try with_reducible rfl
        try simp only [Act.put, List.setIfInBounds_toArray, List.set_cons_zero, List.set_cons_succ]
        refine wpAnyH_take (i := 2) (oi := { dst := some 39, op := Op.load 24 (Operand.tmp 38), type := 24, pos := "law.go:106", after := #[{ on := 1, ground := Ground.data }], guard := none }) (v := ?_) rfl (by kernel_rfl) (by kernel_rfl) (by kernel_rfl) (fun _ _ _ h => h) (Or.inl ⟨by rfl, ?_⟩) (by assumption) ?_
        rotate_left
        · intro w hSw; (try dsimp only at hSw); go_simp
          try with_reducible rfl
        try simp only [Act.put, List.setIfInBounds_toArray, List.set_cons_zero, List.set_cons_succ]
        refine wpAnyH_ready (rs := [3]) (by kernel_rfl) (by simp) ?_
        refine AllReadyH.cons (o := { dst := some 40, op := Op.call { callee := Callee.value (Operand.func 40), args := #[Operand.tmp 37, Operand.tmp 39], argTypes := #[24, 24] }, type := 4, pos := "law.go:106", after := #[{ on := 0, ground := Ground.data }, { on := 2, ground := Ground.data }], guard := none }) rfl (fun K hK => ?_) (AllReadyH.nil)
        go_simp
        go_at_call 40
        refine hsm.mono ?_
        rintro e w4 ⟨rfl, hg4⟩
        try go_simp
        refine hK.out _ _ (hSS _ (grown_trans hgd3 hg4 (by simp))) (fun hHeld => ?_)
        clear hK K
        try simp only [Act.put, List.setIfInBounds_toArray, List.set_cons_zero, List.set_cons_succ]
        have hG34 := grown_trans hgd3 hg4 (by simp)
        refine wpAnyH_take (i := 4) (oi := { dst := some 41, op := Op.unOp UnOp.not 4 (Operand.tmp 40), type := 4, pos := "law.go:106", after := #[{ on := 3, ground := Ground.data }], guard := none }) (v := ?_) rfl (by kernel_rfl) (by kernel_rfl) (by kernel_rfl) (fun _ _ _ h => h) (Or.inl ⟨by rfl, ?_⟩) (by assumption) ?_
        rotate_left
        · intro w hSw; (try dsimp only at hSw); go_simp
          try with_reducible rfl
        try simp only [Act.put, List.setIfInBounds_toArray, List.set_cons_zero, List.set_cons_succ]
        refine wpAnyH_take (i := 5) (oi := { dst := some 42, op := Op.move (Operand.tmp 41), type := 4, pos := "law.go:106", after := #[{ on := 4, ground := Ground.data }, { on := 3, ground := Ground.chain }], guard := none }) (v := ?_) rfl (by kernel_rfl) (by kernel_rfl) (by kernel_rfl) (fun _ _ _ h => h) (Or.inl ⟨by rfl, ?_⟩) (by assumption) ?_
        rotate_left
        · intro w hSw; (try dsimp only at hSw); go_simp
          try with_reducible rfl
        try simp only [Act.put, List.setIfInBounds_toArray, List.set_cons_zero, List.set_cons_succ]
        refine wpAnyH_take (i := 6) (oi := { dst := some 43, op := Op.move (Operand.tmp 7), type := 24, pos := "law.go:106", after := #[{ on := 5, ground := Ground.guard }], guard := some (5, false) }) (v := ?_) rfl (by kernel_rfl) (by kernel_rfl) (by kernel_rfl) (fun _ _ _ h => h) (Or.inl ⟨by simp [Region.wanted, yielded], ?_⟩) (by assumption) ?_
        rotate_left
        · intro w hSw; (try dsimp only at hSw); go_simp
          try with_reducible rfl
        try simp only [Act.put, List.setIfInBounds_toArray, List.set_cons_zero, List.set_cons_succ]
        refine wpAnyH_take (i := 7) (oi := { dst := some 44, op := Op.fieldAddr 26 (Operand.tmp 5) 2, type := 0, pos := "law.go:106", after := #[{ on := 5, ground := Ground.guard }], guard := some (5, false) }) (v := ?_) rfl (by kernel_rfl) (by kernel_rfl) (by kernel_rfl) (fun _ _ _ h => h) (Or.inl ⟨by simp [Region.wanted, yielded], ?_⟩) (by assumption) ?_
        rotate_left
        · intro w hSw; (try dsimp only at hSw); go_simp
          try with_reducible rfl
        try simp only [Act.put, List.setIfInBounds_toArray, List.set_cons_zero, List.set_cons_succ]
        refine wpAnyH_take (i := 12) (oi := { dst := some 49, op := Op.fieldAddr 26 (Operand.tmp 5) 2, type := 0, pos := "law.go:106", after := #[{ on := 5, ground := Ground.guard }], guard := some (5, false) }) (v := ?_) rfl (by kernel_rfl) (by kernel_rfl) (by kernel_rfl) (fun _ _ _ h => h) (Or.inl ⟨by simp [Region.wanted, yielded], ?_⟩) (by assumption) ?_
        rotate_left
        · intro w hSw; (try dsimp only at hSw); go_simp
          try with_reducible rfl
        try simp only [Act.put, List.setIfInBounds_toArray, List.set_cons_zero, List.set_cons_succ]
        refine wpAnyH_take (i := 8) (oi := { dst := some 45, op := Op.load 24 (Operand.tmp 44), type := 24, pos := "law.go:106", after := #[{ on := 7, ground := Ground.data }, { on := 5, ground := Ground.guard }], guard := some (5, false) }) (v := ?_) rfl (by kernel_rfl) (by kernel_rfl) (by kernel_rfl) (fun _ _ _ h => h) (Or.inl ⟨by simp [Region.wanted, yielded], ?_⟩) (by assumption) ?_
        rotate_left
        · intro w hSw; (try dsimp only at hSw); go_simp
          try with_reducible rfl
        try simp only [Act.put, List.setIfInBounds_toArray, List.set_cons_zero, List.set_cons_succ]
        refine wpAnyH_take (i := 13) (oi := { dst := some 50, op := Op.load 24 (Operand.tmp 49), type := 24, pos := "law.go:106", after := #[{ on := 12, ground := Ground.data }, { on := 5, ground := Ground.guard }], guard := some (5, false) }) (v := ?_) rfl (by kernel_rfl) (by kernel_rfl) (by kernel_rfl) (fun _ _ _ h => h) (Or.inl ⟨by simp [Region.wanted, yielded], ?_⟩) (by assumption) ?_
        rotate_left
        · intro w hSw; (try dsimp only at hSw); go_simp
          try with_reducible rfl
        try simp only [Act.put, List.setIfInBounds_toArray, List.set_cons_zero, List.set_cons_succ]
        refine wpAnyH_take (i := 9) (oi := { dst := some 46, op := Op.call { callee := Callee.builtin Builtin.len, args := #[Operand.tmp 45], argTypes := #[24] }, type := 3, pos := "law.go:106", after := #[{ on := 8, ground := Ground.data }, { on := 5, ground := Ground.guard }], guard := some (5, false) }) (v := ?_) rfl (by kernel_rfl) (by kernel_rfl) (by kernel_rfl) (fun _ _ _ h => h) (Or.inl ⟨by simp [Region.wanted, yielded], ?_⟩) (by assumption) ?_
        rotate_left
        · intro w hSw; (try dsimp only at hSw); go_simp
          try with_reducible rfl
        try simp only [Act.put, List.setIfInBounds_toArray, List.set_cons_zero, List.set_cons_succ]
        refine wpAnyH_take (i := 14) (oi := { dst := some 51, op := Op.call { callee := Callee.builtin Builtin.len, args := #[Operand.tmp 50], argTypes := #[24] }, type := 3, pos := "law.go:106", after := #[{ on := 13, ground := Ground.data }, { on := 5, ground := Ground.guard }], guard := some (5, false) }) (v := ?_) rfl (by kernel_rfl) (by kernel_rfl) (by kernel_rfl) (fun _ _ _ h => h) (Or.inl ⟨by simp [Region.wanted, yielded], ?_⟩) (by assumption) ?_
        rotate_left
        · intro w hSw; (try dsimp only at hSw); go_simp
          try with_reducible rfl
        try simp only [Act.put, List.setIfInBounds_toArray, List.set_cons_zero, List.set_cons_succ]
        refine wpAnyH_take (i := 10) (oi := { dst := some 47, op := Op.binOp BinOp.add 3 (Operand.tmp 46) (Operand.const (Value.int IntKind.i64 1)) 3, type := 3, pos := "law.go:106", after := #[{ on := 9, ground := Ground.data }, { on := 5, ground := Ground.guard }], guard := some (5, false) }) (v := ?_) rfl (by kernel_rfl) (by kernel_rfl) (by kernel_rfl) (fun _ _ _ h => h) (Or.inl ⟨by simp [Region.wanted, yielded], ?_⟩) (by assumption) ?_
        rotate_left
        · intro w hSw; (try dsimp only at hSw); go_simp
          try with_reducible rfl
        try simp only [Act.put, List.setIfInBounds_toArray, List.set_cons_zero, List.set_cons_succ]
        refine wpAnyH_take (i := 11) (oi := { dst := some 48, op := Op.slice 24 (Operand.tmp 43) none (some (Operand.tmp 47)) none, type := 24, pos := "law.go:106", after := #[{ on := 6, ground := Ground.data }, { on := 10, ground := Ground.data }, { on := 5, ground := Ground.guard }], guard := some (5, false) }) (v := ?_) rfl (by kernel_rfl) (by kernel_rfl) (by kernel_rfl) (fun _ _ _ h => h) (Or.inl ⟨by simp [Region.wanted, yielded], ?_⟩) (by assumption) ?_
        rotate_left
        · intro w hSw; (try dsimp only at hSw); go_simp
          try with_reducible rfl
        try simp only [Act.put, List.setIfInBounds_toArray, List.set_cons_zero, List.set_cons_succ]
        refine wpAnyH_take (i := 15) (oi := { dst := some 52, op := Op.indexAddr 24 (Operand.tmp 48) (Operand.tmp 51), type := 0, pos := "law.go:106", after := #[{ on := 11, ground := Ground.data }, { on := 14, ground := Ground.data }, { on := 5, ground := Ground.guard }], guard := some (5, false) }) (v := ?_) rfl (by kernel_rfl) (by kernel_rfl) (by kernel_rfl) (fun _ _ _ h => h) (Or.inl ⟨by simp [Region.wanted, yielded], ?_⟩) (by assumption) ?_
        rotate_left
        · intro w hSw; (try dsimp only at hSw); go_simp
          try with_reducible rfl
        try simp only [Act.put, List.setIfInBounds_toArray, List.set_cons_zero, List.set_cons_succ]
        refine wpAnyH_take (i := 16) (oi := { dst := some 53, op := Op.fieldAddr 57 (Operand.tmp 52) 0, type := 0, pos := "law.go:106", after := #[{ on := 15, ground := Ground.data }, { on := 5, ground := Ground.guard }], guard := some (5, false) }) (v := ?_) rfl (by kernel_rfl) (by kernel_rfl) (by kernel_rfl) (fun _ _ _ h => h) (Or.inl ⟨by simp [Region.wanted, yielded], ?_⟩) (by assumption) ?_
        rotate_left
        · intro w hSw; (try dsimp only at hSw); go_simp
          try with_reducible rfl
        try simp only [Act.put, List.setIfInBounds_toArray, List.set_cons_zero, List.set_cons_succ]
        refine wpAnyH_take (i := 17) (oi := { dst := some 54, op := Op.load 2 (Operand.tmp 53), type := 2, pos := "law.go:106", after := #[{ on := 16, ground := Ground.data }, { on := 5, ground := Ground.guard }], guard := some (5, false) }) (v := ?_) rfl (by kernel_rfl) (by kernel_rfl) (by kernel_rfl) (fun _ _ _ h => h) (Or.inl ⟨by simp [Region.wanted, yielded], ?_⟩) (by assumption) ?_
        rotate_left
        · intro w hSw; (try dsimp only at hSw); go_simp
          try with_reducible rfl
        try simp only [Act.put, List.setIfInBounds_toArray, List.set_cons_zero, List.set_cons_succ]
        refine wpAnyH_take (i := 18) (oi := { dst := some 55, op := Op.binOp BinOp.neq 2 (Operand.tmp 54) (Operand.const (Value.int IntKind.i64 77)) 2, type := 4, pos := "law.go:106", after := #[{ on := 17, ground := Ground.data }, { on := 5, ground := Ground.guard }], guard := some (5, false) }) (v := ?_) rfl (by kernel_rfl) (by kernel_rfl) (by kernel_rfl) (fun _ _ _ h => h) (Or.inl ⟨by simp [Region.wanted, yielded], ?_⟩) (by assumption) ?_
        rotate_left
        · intro w hSw; (try dsimp only at hSw); go_simp
          try with_reducible rfl
        try simp only [Act.put, List.setIfInBounds_toArray, List.set_cons_zero, List.set_cons_succ]
        refine wpAnyH_take (i := 19) (oi := { dst := some 56, op := Op.pick (Operand.tmp 42) (Operand.const (Value.bool true)) (Operand.tmp 55), type := 4, pos := "law.go:106", after := #[{ on := 5, ground := Ground.data }, { on := 18, ground := Ground.data }], guard := none }) (v := ?_) rfl (by kernel_rfl) (by kernel_rfl) (by kernel_rfl) (fun _ _ _ h => h) (Or.inl ⟨by rfl, ?_⟩) (by assumption) ?_
        rotate_left
        · intro w hSw; (try dsimp only at hSw); go_simp
          try with_reducible rfl
        try simp only [Act.put, List.setIfInBounds_toArray, List.set_cons_zero, List.set_cons_succ]
        refine wpAnyH_done (by kernel_rfl) ?_ _
        have e24 := hG34.cell e23 (by simp)
        have hma := mayAll_any so n sc (gl.map grc) (grs_plain (hL3.grown hG34)) (by omega)
        rw [hMay] at hma
        go_wp2_with fail
        refine hma.mono ?_
        rintro e w5 ⟨rfl, hg5⟩
        clear hma
        have hG35 := grown_trans hG34 hg5 (by simp)
        have e25 := hg5.cell e24 (by simp)
        have dc : (c0 == c0) = true := by simp
        go_wp2_with fail
        refine wp_region_held_drew (S := fun W : World => W.cell? ⟨w.heap.size, 2, none⟩ = some (.slice so n sc)) (by kernel_rfl) ((grown_drew w5 none).cell e25 (by simp)) (fun hHeld => ?_)
        have hgd5 := grown_drew w5 none
        have hG35 := grown_trans hG35 hgd5 (by simp)
        have e25 := hgd5.cell e25 (by simp)
        generalize w5.drew = wd5 at *
        refine wpAnyH_take (i := 0) (oi := { dst := some 64, op := Op.move (Operand.tmp 8), type := 28, pos := "law.go:112", after := #[], guard := none }) (v := ?_) rfl (by kernel_rfl) (by kernel_rfl) (by kernel_rfl) (fun _ _ _ h => h) (Or.inl ⟨by rfl, ?_⟩) (by assumption) ?_
        rotate_left
        · intro w hSw; (try dsimp only at hSw); go_simp
          try with_reducible rfl
        try simp only [Act.put, List.setIfInBounds_toArray, List.set_cons_zero, List.set_cons_succ]
        refine wpAnyH_take (i := 2) (oi := { dst := some 66, op := Op.move (Operand.tmp 1), type := 32, pos := "law.go:112", after := #[], guard := none }) (v := ?_) rfl (by kernel_rfl) (by kernel_rfl) (by kernel_rfl) (fun _ _ _ h => h) (Or.inl ⟨by rfl, ?_⟩) (by assumption) ?_
        rotate_left
        · intro w hSw; (try dsimp only at hSw); go_simp
          try with_reducible rfl
        try simp only [Act.put, List.setIfInBounds_toArray, List.set_cons_zero, List.set_cons_succ]
        refine wpAnyH_take (i := 3) (oi := { dst := some 67, op := Op.fieldAddr 26 (Operand.tmp 5) 2, type := 0, pos := "law.go:112", after := #[], guard := none }) (v := ?_) rfl (by kernel_rfl) (by kernel_rfl) (by kernel_rfl) (fun _ _ _ h => h) (Or.inl ⟨by rfl, ?_⟩) (by assumption) ?_
        rotate_left
        · intro w hSw; (try dsimp only at hSw); go_simp
          try with_reducible rfl
        try simp only [Act.put, List.setIfInBounds_toArray, List.set_cons_zero, List.set_cons_succ]
        refine wpAnyH_take (i := 4) (oi := { dst := some 68, op := Op.load 24 (Operand.tmp 67), type := 24, pos := "law.go:112", after := #[{ on := 3, ground := Ground.data }], guard := none }) (v := ?_) rfl (by kernel_rfl) (by kernel_rfl) (by kernel_rfl) (fun _ _ _ h => h) (Or.inl ⟨by rfl, ?_⟩) (by assumption) ?_
        rotate_left
        · intro w hSw; (try dsimp only at hSw); go_simp
          try with_reducible rfl
        try simp only [Act.put, List.setIfInBounds_toArray, List.set_cons_zero, List.set_cons_succ]
        refine wpAnyH_ready (rs := [1]) (by kernel_rfl) (by simp) ?_
        refine AllReadyH.cons (o := { dst := some 65, op := Op.call { callee := Callee.value (Operand.func 9), args := #[Operand.tmp 64], argTypes := #[28] }, type := 3, pos := "law.go:112", after := #[{ on := 0, ground := Ground.data }], guard := none }) rfl (fun K hK => ?_) (AllReadyH.nil)
        go_simp
        go_at_call 9
        refine (num_any wd5 c0).mono ?_
        rintro e w9 ⟨rfl, hw9⟩; replace hw9 := hw9.symm; subst hw9
        try go_simp
        refine hK.out _ _ e25 (fun hHeld => ?_)
        clear hK K
        try simp only [Act.put, List.setIfInBounds_toArray, List.set_cons_zero, List.set_cons_succ]
        have hrp := rput_any (hY3.grown hG35) (by omega) he0 he1 so n sc (gl.map grc) (grs_plain (hL3.grown hG35)) (by omega)
        rw [hts, hcEK] at hrp
        refine wpAnyH_ready (rs := [5]) (by kernel_rfl) (by simp) ?_
        refine AllReadyH.cons (o := { dst := some 69, op := Op.call { callee := Callee.value (Operand.func 41), args := #[Operand.tmp 66, Operand.tmp 68], argTypes := #[32, 24] }, type := 3, pos := "law.go:112", after := #[{ on := 2, ground := Ground.data }, { on := 4, ground := Ground.data }, { on := 1, ground := Ground.chain }], guard := none }) rfl (fun K hK => ?_) (AllReadyH.nil)
        go_simp
        go_at_call 41
        refine hrp.mono ?_
        rintro e w6 ⟨rr6, rc6, rfl, hY6, hN6, hC6⟩
        try go_simp
        refine hK.out _ _ (hC6.cell e25 (show ¬ w.heap.size = r by omega)) (fun hHeld => ?_)
        clear hK K
        try simp only [Act.put, List.setIfInBounds_toArray, List.set_cons_zero, List.set_cons_succ]
        refine wpAnyH_take (i := 6) (oi := { dst := some 70, op := Op.binOp BinOp.eql 3 (Operand.tmp 65) (Operand.tmp 69) 3, type := 4, pos := "law.go:112", after := #[{ on := 1, ground := Ground.data }, { on := 5, ground := Ground.data }], guard := none }) (v := ?_) rfl (by kernel_rfl) (by kernel_rfl) (by kernel_rfl) (fun _ _ _ h => h) (Or.inl ⟨by rfl, ?_⟩) (by assumption) ?_
        rotate_left
        · intro w hSw; (try dsimp only at hSw); go_simp
          try with_reducible rfl
        try simp only [Act.put, List.setIfInBounds_toArray, List.set_cons_zero, List.set_cons_succ]
        refine wpAnyH_take (i := 7) (oi := { dst := some 6, op := Op.assign (Operand.tmp 70), type := 4, pos := "law.go:112", after := #[{ on := 6, ground := Ground.data }, { on := 5, ground := Ground.chain }, { on := 0, ground := Ground.phase }, { on := 1, ground := Ground.phase }, { on := 2, ground := Ground.phase }, { on := 3, ground := Ground.phase }, { on := 4, ground := Ground.phase }, { on := 5, ground := Ground.phase }, { on := 6, ground := Ground.phase }], guard := none }) (v := ?_) rfl (by kernel_rfl) (by kernel_rfl) (by kernel_rfl) (fun _ _ _ h => h) (Or.inl ⟨by rfl, ?_⟩) (by assumption) ?_
        rotate_left
        · intro w hSw; (try dsimp only at hSw); go_simp
          try with_reducible rfl
        try simp only [Act.put, List.setIfInBounds_toArray, List.set_cons_zero, List.set_cons_succ]
        refine wpAnyH_done (by kernel_rfl) ?_ _
        have hX5 := hX3.grown hG35
        have a7 : blk ro3 ≠ some r := hX5.sw.not64 (hY3.grown hG35).ix (by decide)
        have hX6 := hX5.chg hC6 (show ¬ b = r from hnbr) (fun q e1 e2 => a7 (e2 ▸ e1))
        have hsx := hGx.size
        have hs3 := hC3.size
        have hs5 := hG35.size
        have hBl : Hid (Bl w w6 b ro r rr bs (m + 100)) := by
          refine ⟨E, K, ro3, rc3, rr6, rc6, ⟨hX6, hY6, hIv, fun q e1 e2 => ?_⟩, ?_, ?_, ?_⟩
          · have hx5 := hX5.rlt q e1
            rcases hN6 with ⟨rfl, _⟩ | hF8
            · rcases hN3 with ⟨rfl, _⟩ | hF7
              · exact h.ap q e1 e2
              · have := hF7 q e1; have := hBx.y.rlt q e2; omega
            · have := hF8 q e2; omega
          · rcases hN3 with ⟨h9, _⟩ | h9
            · exact .inl h9
            · exact .inr (fun q e => by have := h9 q e; omega)
          · rcases hN6 with ⟨h9, _⟩ | h9
            · exact .inl h9
            · exact .inr (fun q e => by have := h9 q e; omega)
          · exact (((Chg.of_grown hGx _).trans (hC3.mono fun q _ e => by rcases e with e | e; exact .inl e; exact .inr (.inl e))).trans (Chg.of_grown hG35 _)).trans (hC6.mono fun q _ e => .inr (.inr e))
        go_wp2
        go_ret
        exact ⟨rfl, hBl.out⟩
end Go.Proofs.Ytmnfdiffneobpaa
