/-
  Crash: the region in which the new disk and the picker come about, whatever its order.
-/
import Derived.Test.YtgkeflgfnagnjaaZai
import Derived.Deep.RegionHeld3
namespace Go.Proofs.Ytgkeflgfnagnjaa
open Go.RowKit Go.Maps
set_option linter.unusedVariables false
set_option maxRecDepth 100000

theorem run_store_fn (P : Program) (w : World) (a : Addr) (m : Mode) (f : Fn) (x y : Array Value) : (store a (.func f x y) m).run P w = stored P w a (.func f x y) m := run_store P w a _ m rfl
attribute [local go_sem] run_store_fn

/-- A disk without files. -/
structure Em (w : World) (b m : Nat) : Prop where
  hd : Hd w b m none 0 0 0
  ty : Ty w b 67
  mp : Mp w m 0 (.map [])
theorem Em.chg {w w' : World} {b m : Nat} {S : Nat → Prop} (h : Em w b m) (hc : Chg w w' S) (hb : ¬ S b) (hm : ¬ S m) : Em w' b m := ⟨h.hd.chg hc hb, h.ty.chg hc hb, h.mp.chg hc hm⟩
theorem Em.grown {w w' : World} {b m : Nat} (h : Em w b m) (hg : w.grownBy w' none) : Em w' b m := h.chg (Chg.of_grown hg (fun _ => False)) (fun e => e) (fun e => e)
theorem Is'.grown {w w' : World} {o : Option Addr} {n c : Nat} {l : List Int} (h : Is' w o n c l) (hg : w.grownBy w' none) : Is' w' o n c l := ⟨h.len, h.room, h.top, h.pl, h.nil, fun b i e j x hx => hg.cell (h.k b i e j x hx) (by simp)⟩
theorem boxed_ty {w : World} {b : Nat} {t : TypeId} {v : Value} (h : Boxed w b t v) : Ty w b t := ⟨_, _, h⟩
set_option maxRecDepth 100000 in
theorem empty_ltr (w : World) : Calls Try.prog 62 #[] w fun e w' => ∃ nb nm, e = .returned (.pointer (some ⟨nb, 0, none⟩)) ∧ Em w' nb nm ∧ w.grownBy w' none ∧ w.heap.size ≤ nb ∧ w.heap.size ≤ nm := by
  have hmm := @run_makeMap Try.prog
  have hfin : ∀ W, (w.alloc (.map #[] 0)).alloc (.cells #[.map (some w.heap.size), .slice none 0 0, .int .i64 0] 67) = W → Em W (w.heap.size + 1) w.heap.size ∧ w.grownBy W none := by
    rintro W rfl
    have hm : Mp (w.alloc (.map #[] 0)) w.heap.size 0 (.map []) := World.ownsMap_made w _ _ _
    have h1 := Hd.new (w.alloc (.map #[] 0)) w.heap.size none 0 0 0
    have h2 := World.alloc_heap_new (w.alloc (.map #[] 0)) (.cells #[.map (some w.heap.size), .slice none 0 0, .int .i64 0] 67)
    rw [World.size_alloc] at h1 h2
    exact ⟨⟨h1, ⟨_, _, h2⟩, hm.kept (alloc_grown _ _) (by simp)⟩, grown_trans (alloc_grown _ _) (alloc_grown _ _) (by simp)⟩
  have F : Hid _ := hfin
  clear hfin
  go_enter Try.func62, Try.ntmps62
  go_wp2
  go_ret
  obtain ⟨f1, f2⟩ := F.out _ rfl
  exact ⟨_, _, rfl, f1, f2, by omega, Nat.le_refl _⟩
theorem picker_ltr {w : World} (o : Option Addr) (n c : Nat) (l : List Int) (hl : Is' w o n c l) (hb : ∀ a, o = some a → a.block < w.heap.size) :
    Calls Try.prog 63 #[.slice o n c] w fun e w' => ∃ za zp, e = .returned (.func (.func 86) #[] #[.pointer (some ⟨za, 0, none⟩), .pointer (some ⟨zp, 0, none⟩)]) ∧ Pk w' za zp 0 o n c l ∧ w.grownBy w' none ∧ w.heap.size ≤ za ∧ w.heap.size ≤ zp :=
  (picker_any o n c l hl hb).mono fun e w' q => ⟨_, _, q.1, q.2.1, q.2.2, by omega, Nat.le_refl _⟩
theorem store9 {w W : World} {z : Nat} (hG : w.grownBy W none) (hz : w.heap.size ≤ z) (v : Value) : w.grownBy (W.setCell ⟨z, 0, none⟩ v) none :=
  ((Chg.of_grown hG (fun k => k = z)).trans (setCell_chg W z 0 v)).grown (fun k hk e => by omega)
theorem store_other {W : World} {z8 z9 : Nat} {v8 v9 : Value} (h8 : Boxed W z8 26 v8) (h9 : Boxed W z9 113 v9) (v : Value) : Boxed (W.setCell ⟨z8, 0, none⟩ v) z9 113 v9 :=
  h9.other ((boxed_ty h9).ne (boxed_ty h8) (by decide)) _
theorem Pk.set {W : World} {z : Nat} {t : TypeId} {v : Value} {za zp k : Nat} {o : Option Addr} {n c : Nat} {l : List Int} (h : Pk W za zp k o n c l) (hz : Boxed W z t v) (h3 : t ≠ 3) (h39 : t ≠ 23) (ho : ∀ a, o = some a → a.block ≠ z) (u : Value) : Pk (W.setCell ⟨z, 0, none⟩ u) za zp k o n c l :=
  ⟨h.b0.other ((boxed_ty h.b0).ne (boxed_ty hz) (Ne.symm h3)) _, h.b1.other ((boxed_ty h.b1).ne (boxed_ty hz) (Ne.symm h39)) _, ⟨h.sl.len, h.sl.room, h.sl.top, h.sl.pl, h.sl.nil, fun b i e j x hx => (setCell_chg W z 0 u).cell (h.sl.k b i e j x hx) (fun e9 => ho _ e e9)⟩, h.le, h.ne, h.na⟩
theorem fin9 {w W : World} {nb nm za zp z8 z9 : Nat} {o : Option Addr} {n c : Nat} {l : List Int} {v8 v9 : Value} (hE : Em W nb nm) (hP : Pk W za zp 0 o n c l) (h8 : Boxed W z8 26 v8) (h9 : Boxed W z9 113 v9) (hG : w.grownBy W none) (l8 : w.heap.size ≤ z8) (l9 : w.heap.size ≤ z9) (hb : ∀ a, o = some a → a.block < w.heap.size) :
    Em ((W.setCell ⟨z8, 0, none⟩ (.pointer (some ⟨nb, 0, none⟩))).setCell ⟨z9, 0, none⟩ (.func (.func 86) #[] #[.pointer (some ⟨za, 0, none⟩), .pointer (some ⟨zp, 0, none⟩)])) nb nm ∧ Pk ((W.setCell ⟨z8, 0, none⟩ (.pointer (some ⟨nb, 0, none⟩))).setCell ⟨z9, 0, none⟩ (.func (.func 86) #[] #[.pointer (some ⟨za, 0, none⟩), .pointer (some ⟨zp, 0, none⟩)])) za zp 0 o n c l ∧ Boxed ((W.setCell ⟨z8, 0, none⟩ (.pointer (some ⟨nb, 0, none⟩))).setCell ⟨z9, 0, none⟩ (.func (.func 86) #[] #[.pointer (some ⟨za, 0, none⟩), .pointer (some ⟨zp, 0, none⟩)])) z8 26 (.pointer (some ⟨nb, 0, none⟩)) ∧ Boxed ((W.setCell ⟨z8, 0, none⟩ (.pointer (some ⟨nb, 0, none⟩))).setCell ⟨z9, 0, none⟩ (.func (.func 86) #[] #[.pointer (some ⟨za, 0, none⟩), .pointer (some ⟨zp, 0, none⟩)])) z9 113 (.func (.func 86) #[] #[.pointer (some ⟨za, 0, none⟩), .pointer (some ⟨zp, 0, none⟩)]) ∧ w.grownBy ((W.setCell ⟨z8, 0, none⟩ (.pointer (some ⟨nb, 0, none⟩))).setCell ⟨z9, 0, none⟩ (.func (.func 86) #[] #[.pointer (some ⟨za, 0, none⟩), .pointer (some ⟨zp, 0, none⟩)])) none := by
  have hn : z8 ≠ z9 := (boxed_ty h8).ne (boxed_ty h9) (by decide)
  have h9' := store_other h8 h9 (.pointer (some ⟨nb, 0, none⟩))
  have hE1 := hE.chg (setCell_chg W z8 0 (.pointer (some ⟨nb, 0, none⟩))) (hE.ty.ne (boxed_ty h8) (by decide)) (fun e => (hE.mp.row (boxed_ty h8)) e.symm)
  have hP1 := hP.set h8 (by decide) (by decide) (fun a e => by have := hb a e; omega) (.pointer (some ⟨nb, 0, none⟩))
  refine ⟨hE1.chg (setCell_chg _ z9 0 _) (hE1.ty.ne (boxed_ty h9') (by decide)) (fun e => (hE1.mp.row (boxed_ty h9')) e.symm), hP1.set h9' (by decide) (by decide) (fun a e => by have := hb a e; omega) _, (h8.set _).other hn _, h9'.set _, store9 (store9 hG l8 _) l9 _⟩
set_option maxRecDepth 100000 in
set_option maxHeartbeats 4000000 in
theorem reg9 {w : World} (y3 : Nat) (po : Option Addr) (pn pc : Nat) (l : List Int) (hl : Is' w po pn pc l) (hb : ∀ a, po = some a → a.block < w.heap.size) (k3 : w.cell? ⟨y3, 0, none⟩ = some (.slice po pn pc)) (v0 v1 v2 v4 v5 v6 v7 v8 v9 v10 v11 v12 v13 v14 v15 v16 v17 v18 v19 v20 v21 v22 v23 v24 v25 v26 v27 v28 v29 v30 v31 v32 v33 v34 v35 v36 v37 v38 v39 v40 v41 v42 v43 v44 v45 v46 v47 v48 v49 v50 v51 v52 v53 v54 v55 v56 v57 v58 v59 v60 v61 v62 v63 v64 : Value) (dl : List Deferred) :
    (Code.region 9 #[{ dst := some 27, op := Op.call { callee := Callee.value (Operand.func 62), args := #[], argTypes := #[] }, type := 26, pos := "disk.go:218", after := #[], guard := none }, { dst := some 28, op := Op.fieldAddr 35 (Operand.tmp 3) 0, type := 0, pos := "disk.go:218", after := #[], guard := none }, { dst := some 29, op := Op.load 23 (Operand.tmp 28), type := 23, pos := "disk.go:218", after := #[{ on := 1, ground := Ground.data }], guard := none }, { dst := some 30, op := Op.call { callee := Callee.value (Operand.func 63), args := #[Operand.tmp 29], argTypes := #[23] }, type := 113, pos := "disk.go:218", after := #[{ on := 2, ground := Ground.data }, { on := 0, ground := Ground.chain }], guard := none }, { dst := some 8, op := Op.alloc 26, type := 0, pos := "disk.go:218", after := #[], guard := none }, { dst := some 9, op := Op.alloc 113, type := 0, pos := "disk.go:218", after := #[], guard := none }, { dst := none, op := Op.store 26 (Operand.tmp 8) (Operand.tmp 27), type := 0, pos := "disk.go:218", after := #[{ on := 4, ground := Ground.data }, { on := 0, ground := Ground.data }, { on := 3, ground := Ground.chain }, { on := 0, ground := Ground.phase }, { on := 1, ground := Ground.textOnly Departure.lateStores }, { on := 2, ground := Ground.textOnly Departure.lateStores }, { on := 3, ground := Ground.textOnly Departure.lateStoresUnsure }, { on := 4, ground := Ground.phase }, { on := 5, ground := Ground.phase }], guard := none }, { dst := none, op := Op.store 113 (Operand.tmp 9) (Operand.tmp 30), type := 0, pos := "disk.go:218", after := #[{ on := 5, ground := Ground.data }, { on := 3, ground := Ground.data }, { on := 6, ground := Ground.chain }, { on := 0, ground := Ground.phase }, { on := 1, ground := Ground.phase }, { on := 2, ground := Ground.phase }, { on := 3, ground := Ground.phase }, { on := 4, ground := Ground.phase }, { on := 5, ground := Ground.phase }, { on := 6, ground := Ground.phase }], guard := none }] true).wp Try.prog (fun e a' W => e = .normal ∧ ∃ (z8 z9 nb nm za zp : Nat) (u28 u29 : Value), a' = { tmps := #[v0, v1, v2, .pointer (some ⟨y3, 0, none⟩), v4, v5, v6, v7, .pointer (some ⟨z8, 0, none⟩), .pointer (some ⟨z9, 0, none⟩), v10, v11, v12, v13, v14, v15, v16, v17, v18, v19, v20, v21, v22, v23, v24, v25, v26, .pointer (some ⟨nb, 0, none⟩), u28, u29, .func (.func 86) #[] #[.pointer (some ⟨za, 0, none⟩), .pointer (some ⟨zp, 0, none⟩)], v31, v32, v33, v34, v35, v36, v37, v38, v39, v40, v41, v42, v43, v44, v45, v46, v47, v48, v49, v50, v51, v52, v53, v54, v55, v56, v57, v58, v59, v60, v61, v62, v63, v64], defers := dl } ∧ Em W nb nm ∧ Pk W za zp 0 po pn pc l ∧ Boxed W z8 26 (.pointer (some ⟨nb, 0, none⟩)) ∧ Boxed W z9 113 (.func (.func 86) #[] #[.pointer (some ⟨za, 0, none⟩), .pointer (some ⟨zp, 0, none⟩)]) ∧ w.grownBy W none ∧ w.heap.size ≤ nb ∧ w.heap.size ≤ nm ∧ w.heap.size ≤ za ∧ w.heap.size ≤ zp) { tmps := #[v0, v1, v2, .pointer (some ⟨y3, 0, none⟩), v4, v5, v6, v7, v8, v9, v10, v11, v12, v13, v14, v15, v16, v17, v18, v19, v20, v21, v22, v23, v24, v25, v26, v27, v28, v29, v30, v31, v32, v33, v34, v35, v36, v37, v38, v39, v40, v41, v42, v43, v44, v45, v46, v47, v48, v49, v50, v51, v52, v53, v54, v55, v56, v57, v58, v59, v60, v61, v62, v63, v64], defers := dl } w := by
  have hSS : ∀ W, w.grownBy W none → (fun w' : World => w'.cell? ⟨y3, 0, none⟩ = some (.slice po pn pc)) W := fun W hW => hW.cell (a := ⟨y3, 0, none⟩) k3 (by simp)
  have hG_0 := grown_drew w none
  refine wp_region_held_drew (S := fun w' => w'.cell? ⟨y3, 0, none⟩ = some (.slice po pn pc)) (by kernel_rfl) (hSS _ hG_0) (fun hHeld => ?_)
  generalize w.drew = w_0 at *
  refine wpAnyH_take (i := 1) (oi := { dst := some 28, op := Op.fieldAddr 35 (Operand.tmp 3) 0, type := 0, pos := "disk.go:218", after := #[], guard := none }) (v := ?_) rfl (by kernel_rfl) (by kernel_rfl) (by kernel_rfl) (fun _ _ _ h => by cases h.1) (Or.inl ⟨by rfl, ?_⟩) (by assumption) ?_
  rotate_left
  · intro w hSw; (try dsimp only at hSw); go_simp
    try with_reducible rfl
  try simp only [Act.put, List.setIfInBounds_toArray, List.set_cons_zero, List.set_cons_succ]
  refine wpAnyH_take (i := 2) (oi := { dst := some 29, op := Op.load 23 (Operand.tmp 28), type := 23, pos := "disk.go:218", after := #[{ on := 1, ground := Ground.data }], guard := none }) (v := ?_) rfl (by kernel_rfl) (by kernel_rfl) (by kernel_rfl) (fun _ _ _ h => by cases h.1) (Or.inl ⟨by rfl, ?_⟩) (by assumption) ?_
  rotate_left
  · intro w hSw; (try dsimp only at hSw); go_simp
    try with_reducible rfl
  try simp only [Act.put, List.setIfInBounds_toArray, List.set_cons_zero, List.set_cons_succ]
  have hb9 := hb
  refine wpAnyH_ready (rs := [0, 4, 5]) (by kernel_rfl) (by simp) ?_
  refine AllReadyH.cons (o := { dst := some 27, op := Op.call { callee := Callee.value (Operand.func 62), args := #[], argTypes := #[] }, type := 26, pos := "disk.go:218", after := #[], guard := none }) rfl (fun K hK => ?_) (AllReadyH.cons (o := { dst := some 8, op := Op.alloc 26, type := 0, pos := "disk.go:218", after := #[], guard := none }) rfl (fun K hK => ?_) (AllReadyH.cons (o := { dst := some 9, op := Op.alloc 113, type := 0, pos := "disk.go:218", after := #[], guard := none }) rfl (fun K hK => ?_) (AllReadyH.nil)))
  · skip
    go_simp
    go_at_call 62
    refine (empty_ltr w_0).mono ?_
    rintro e w_1 ⟨nb, nm, rfl, hE_1, hg_1, hlb, hlm⟩
    replace hlb := Nat.le_trans hG_0.size hlb
    replace hlm := Nat.le_trans hG_0.size hlm
    try go_simp
    have hG_1 := grown_trans hG_0 hg_1 (by simp)
    refine hK.out _ _ (hSS _ hG_1) (fun hHeld => ?_)
    clear hK K
    try simp only [Act.put, List.setIfInBounds_toArray, List.set_cons_zero, List.set_cons_succ]
    refine wpAnyH_ready (rs := [3, 4, 5]) (by kernel_rfl) (by simp) ?_
    refine AllReadyH.cons (o := { dst := some 30, op := Op.call { callee := Callee.value (Operand.func 63), args := #[Operand.tmp 29], argTypes := #[23] }, type := 113, pos := "disk.go:218", after := #[{ on := 2, ground := Ground.data }, { on := 0, ground := Ground.chain }], guard := none }) rfl (fun K hK => ?_) (AllReadyH.cons (o := { dst := some 8, op := Op.alloc 26, type := 0, pos := "disk.go:218", after := #[], guard := none }) rfl (fun K hK => ?_) (AllReadyH.cons (o := { dst := some 9, op := Op.alloc 113, type := 0, pos := "disk.go:218", after := #[], guard := none }) rfl (fun K hK => ?_) (AllReadyH.nil)))
    · skip
      go_simp
      go_at_call 63
      refine (picker_ltr po pn pc l (hl.grown hG_1) (fun a e => Nat.lt_of_lt_of_le (hb a e) hG_1.size)).mono ?_
      rintro e w_2 ⟨za, zp, rfl, hP_2, hg_2, hlza, hlzp⟩
      replace hlza := Nat.le_trans hG_1.size hlza
      replace hlzp := Nat.le_trans hG_1.size hlzp
      try go_simp
      have hE_2 := hE_1.grown hg_2
      have hG_2 := grown_trans hG_1 hg_2 (by simp)
      refine hK.out _ _ (hSS _ hG_2) (fun hHeld => ?_)
      clear hK K
      try simp only [Act.put, List.setIfInBounds_toArray, List.set_cons_zero, List.set_cons_succ]
      refine wpAnyH_ready (rs := [4, 5]) (by kernel_rfl) (by simp) ?_
      refine AllReadyH.cons (o := { dst := some 8, op := Op.alloc 26, type := 0, pos := "disk.go:218", after := #[], guard := none }) rfl (fun K hK => ?_) (AllReadyH.cons (o := { dst := some 9, op := Op.alloc 113, type := 0, pos := "disk.go:218", after := #[], guard := none }) rfl (fun K hK => ?_) (AllReadyH.nil))
      · skip
        go_simp
        have h8_3 := Boxed.new w_2 26 (.pointer none)
        have hg_3 := alloc_grown w_2 (.cells #[.pointer none] 26)
        obtain ⟨z8, hz8⟩ : ∃ z8, w_2.heap.size = z8 := ⟨_, rfl⟩
        have hlz8 : w.heap.size ≤ z8 := by have := hG_2.size; omega
        rw [hz8] at h8_3 ⊢
        clear hz8
        generalize w_2.alloc (.cells #[.pointer none] 26) = w_3 at *
        have hE_3 := hE_2.grown hg_3
        have hP_3 := hP_2.grown hg_3
        have hG_3 := grown_trans hG_2 hg_3 (by simp)
        refine hK.out _ _ (hSS _ hG_3) (fun hHeld => ?_)
        clear hK K
        try simp only [Act.put, List.setIfInBounds_toArray, List.set_cons_zero, List.set_cons_succ]
        refine wpAnyH_ready (rs := [5]) (by kernel_rfl) (by simp) ?_
        refine AllReadyH.cons (o := { dst := some 9, op := Op.alloc 113, type := 0, pos := "disk.go:218", after := #[], guard := none }) rfl (fun K hK => ?_) (AllReadyH.nil)
        go_simp
        have h9_4 := Boxed.new w_3 113 (.nilFunc)
        have hg_4 := alloc_grown w_3 (.cells #[.nilFunc] 113)
        obtain ⟨z9, hz9⟩ : ∃ z9, w_3.heap.size = z9 := ⟨_, rfl⟩
        have hlz9 : w.heap.size ≤ z9 := by have := hG_3.size; omega
        rw [hz9] at h9_4 ⊢
        clear hz9
        generalize w_3.alloc (.cells #[.nilFunc] 113) = w_4 at *
        have hE_4 := hE_3.grown hg_4
        have hP_4 := hP_3.grown hg_4
        have h8_4 := box_own h8_3 hg_4 (fun r e => by cases e)
        have hG_4 := grown_trans hG_3 hg_4 (by simp)
        refine hK.out _ _ (hSS _ hG_4) (fun hHeld => ?_)
        clear hK K
        try simp only [Act.put, List.setIfInBounds_toArray, List.set_cons_zero, List.set_cons_succ]
        refine wpAnyH_ready (rs := [6]) (by kernel_rfl) (by simp) ?_
        refine AllReadyH.cons (o := { dst := none, op := Op.store 26 (Operand.tmp 8) (Operand.tmp 27), type := 0, pos := "disk.go:218", after := #[{ on := 4, ground := Ground.data }, { on := 0, ground := Ground.data }, { on := 3, ground := Ground.chain }, { on := 0, ground := Ground.phase }, { on := 1, ground := Ground.textOnly Departure.lateStores }, { on := 2, ground := Ground.textOnly Departure.lateStores }, { on := 3, ground := Ground.textOnly Departure.lateStoresUnsure }, { on := 4, ground := Ground.phase }, { on := 5, ground := Ground.phase }], guard := none }) rfl (fun K hK => ?_) (AllReadyH.nil)
        have c8 := h8_4.cell
        have f8 := h8_4.frozen
        have hlb' := hlb
        have hfin := fin9 hE_4 hP_4 h8_4 h9_4 hG_4 hlz8 hlz9 hb
        have hS6 := hSS _ (store9 hG_4 hlz8 (.pointer (some ⟨nb, 0, none⟩)))
        have c9 := store_other h8_4 h9_4 (.pointer (some ⟨nb, 0, none⟩))
        go_simp
        refine hK.out _ _ hS6 (fun hHeld => ?_)
        clear hK K
        try simp only [Act.put, List.setIfInBounds_toArray, List.set_cons_zero, List.set_cons_succ]
        refine wpAnyH_ready (rs := [7]) (by kernel_rfl) (by simp) ?_
        refine AllReadyH.cons (o := { dst := none, op := Op.store 113 (Operand.tmp 9) (Operand.tmp 30), type := 0, pos := "disk.go:218", after := #[{ on := 5, ground := Ground.data }, { on := 3, ground := Ground.data }, { on := 6, ground := Ground.chain }, { on := 0, ground := Ground.phase }, { on := 1, ground := Ground.phase }, { on := 2, ground := Ground.phase }, { on := 3, ground := Ground.phase }, { on := 4, ground := Ground.phase }, { on := 5, ground := Ground.phase }, { on := 6, ground := Ground.phase }], guard := none }) rfl (fun K hK => ?_) (AllReadyH.nil)
        have hS7 := hSS _ hfin.2.2.2.2
        have k9 := c9.cell
        have f9 := c9.frozen
        go_simp
        refine hK.out _ _ hS7 (fun hHeld => ?_)
        clear hK K
        try simp only [Act.put, List.setIfInBounds_toArray, List.set_cons_zero, List.set_cons_succ]
        refine wpAnyH_done (by kernel_rfl) ?_ _
        exact ⟨rfl, z8, z9, nb, nm, za, zp, _, _, rfl, hfin.1, hfin.2.1, hfin.2.2.1, hfin.2.2.2.1, hfin.2.2.2.2, hlb, hlm, hlza, hlzp⟩
      · skip
        go_simp
        have h9_7 := Boxed.new w_2 113 (.nilFunc)
        have hg_7 := alloc_grown w_2 (.cells #[.nilFunc] 113)
        obtain ⟨z9, hz9⟩ : ∃ z9, w_2.heap.size = z9 := ⟨_, rfl⟩
        have hlz9 : w.heap.size ≤ z9 := by have := hG_2.size; omega
        rw [hz9] at h9_7 ⊢
        clear hz9
        generalize w_2.alloc (.cells #[.nilFunc] 113) = w_7 at *
        have hE_7 := hE_2.grown hg_7
        have hP_7 := hP_2.grown hg_7
        have hG_7 := grown_trans hG_2 hg_7 (by simp)
        refine hK.out _ _ (hSS _ hG_7) (fun hHeld => ?_)
        clear hK K
        try simp only [Act.put, List.setIfInBounds_toArray, List.set_cons_zero, List.set_cons_succ]
        refine wpAnyH_ready (rs := [4]) (by kernel_rfl) (by simp) ?_
        refine AllReadyH.cons (o := { dst := some 8, op := Op.alloc 26, type := 0, pos := "disk.go:218", after := #[], guard := none }) rfl (fun K hK => ?_) (AllReadyH.nil)
        go_simp
        have h8_8 := Boxed.new w_7 26 (.pointer none)
        have hg_8 := alloc_grown w_7 (.cells #[.pointer none] 26)
        obtain ⟨z8, hz8⟩ : ∃ z8, w_7.heap.size = z8 := ⟨_, rfl⟩
        have hlz8 : w.heap.size ≤ z8 := by have := hG_7.size; omega
        rw [hz8] at h8_8 ⊢
        clear hz8
        generalize w_7.alloc (.cells #[.pointer none] 26) = w_8 at *
        have hE_8 := hE_7.grown hg_8
        have hP_8 := hP_7.grown hg_8
        have h9_8 := box_own h9_7 hg_8 (fun r e => by cases e)
        have hG_8 := grown_trans hG_7 hg_8 (by simp)
        refine hK.out _ _ (hSS _ hG_8) (fun hHeld => ?_)
        clear hK K
        try simp only [Act.put, List.setIfInBounds_toArray, List.set_cons_zero, List.set_cons_succ]
        refine wpAnyH_ready (rs := [6]) (by kernel_rfl) (by simp) ?_
        refine AllReadyH.cons (o := { dst := none, op := Op.store 26 (Operand.tmp 8) (Operand.tmp 27), type := 0, pos := "disk.go:218", after := #[{ on := 4, ground := Ground.data }, { on := 0, ground := Ground.data }, { on := 3, ground := Ground.chain }, { on := 0, ground := Ground.phase }, { on := 1, ground := Ground.textOnly Departure.lateStores }, { on := 2, ground := Ground.textOnly Departure.lateStores }, { on := 3, ground := Ground.textOnly Departure.lateStoresUnsure }, { on := 4, ground := Ground.phase }, { on := 5, ground := Ground.phase }], guard := none }) rfl (fun K hK => ?_) (AllReadyH.nil)
        have c8 := h8_8.cell
        have f8 := h8_8.frozen
        have hlb' := hlb
        have hfin := fin9 hE_8 hP_8 h8_8 h9_8 hG_8 hlz8 hlz9 hb
        have hS6 := hSS _ (store9 hG_8 hlz8 (.pointer (some ⟨nb, 0, none⟩)))
        have c9 := store_other h8_8 h9_8 (.pointer (some ⟨nb, 0, none⟩))
        go_simp
        refine hK.out _ _ hS6 (fun hHeld => ?_)
        clear hK K
        try simp only [Act.put, List.setIfInBounds_toArray, List.set_cons_zero, List.set_cons_succ]
        refine wpAnyH_ready (rs := [7]) (by kernel_rfl) (by simp) ?_
        refine AllReadyH.cons (o := { dst := none, op := Op.store 113 (Operand.tmp 9) (Operand.tmp 30), type := 0, pos := "disk.go:218", after := #[{ on := 5, ground := Ground.data }, { on := 3, ground := Ground.data }, { on := 6, ground := Ground.chain }, { on := 0, ground := Ground.phase }, { on := 1, ground := Ground.phase }, { on := 2, ground := Ground.phase }, { on := 3, ground := Ground.phase }, { on := 4, ground := Ground.phase }, { on := 5, ground := Ground.phase }, { on := 6, ground := Ground.phase }], guard := none }) rfl (fun K hK => ?_) (AllReadyH.nil)
        have hS7 := hSS _ hfin.2.2.2.2
        have k9 := c9.cell
        have f9 := c9.frozen
        go_simp
        refine hK.out _ _ hS7 (fun hHeld => ?_)
        clear hK K
        try simp only [Act.put, List.setIfInBounds_toArray, List.set_cons_zero, List.set_cons_succ]
        refine wpAnyH_done (by kernel_rfl) ?_ _
        exact ⟨rfl, z8, z9, nb, nm, za, zp, _, _, rfl, hfin.1, hfin.2.1, hfin.2.2.1, hfin.2.2.2.1, hfin.2.2.2.2, hlb, hlm, hlza, hlzp⟩
    · skip
      go_simp
      have h8_11 := Boxed.new w_1 26 (.pointer none)
      have hg_11 := alloc_grown w_1 (.cells #[.pointer none] 26)
      obtain ⟨z8, hz8⟩ : ∃ z8, w_1.heap.size = z8 := ⟨_, rfl⟩
      have hlz8 : w.heap.size ≤ z8 := by have := hG_1.size; omega
      rw [hz8] at h8_11 ⊢
      clear hz8
      generalize w_1.alloc (.cells #[.pointer none] 26) = w_11 at *
      have hE_11 := hE_1.grown hg_11
      have hG_11 := grown_trans hG_1 hg_11 (by simp)
      refine hK.out _ _ (hSS _ hG_11) (fun hHeld => ?_)
      clear hK K
      try simp only [Act.put, List.setIfInBounds_toArray, List.set_cons_zero, List.set_cons_succ]
      refine wpAnyH_ready (rs := [3, 5]) (by kernel_rfl) (by simp) ?_
      refine AllReadyH.cons (o := { dst := some 30, op := Op.call { callee := Callee.value (Operand.func 63), args := #[Operand.tmp 29], argTypes := #[23] }, type := 113, pos := "disk.go:218", after := #[{ on := 2, ground := Ground.data }, { on := 0, ground := Ground.chain }], guard := none }) rfl (fun K hK => ?_) (AllReadyH.cons (o := { dst := some 9, op := Op.alloc 113, type := 0, pos := "disk.go:218", after := #[], guard := none }) rfl (fun K hK => ?_) (AllReadyH.nil))
      · skip
        go_simp
        go_at_call 63
        refine (picker_ltr po pn pc l (hl.grown hG_11) (fun a e => Nat.lt_of_lt_of_le (hb a e) hG_11.size)).mono ?_
        rintro e w_12 ⟨za, zp, rfl, hP_12, hg_12, hlza, hlzp⟩
        replace hlza := Nat.le_trans hG_11.size hlza
        replace hlzp := Nat.le_trans hG_11.size hlzp
        try go_simp
        have hE_12 := hE_11.grown hg_12
        have h8_12 := box_own h8_11 hg_12 (fun r e => by cases e)
        have hG_12 := grown_trans hG_11 hg_12 (by simp)
        refine hK.out _ _ (hSS _ hG_12) (fun hHeld => ?_)
        clear hK K
        try simp only [Act.put, List.setIfInBounds_toArray, List.set_cons_zero, List.set_cons_succ]
        refine wpAnyH_ready (rs := [5]) (by kernel_rfl) (by simp) ?_
        refine AllReadyH.cons (o := { dst := some 9, op := Op.alloc 113, type := 0, pos := "disk.go:218", after := #[], guard := none }) rfl (fun K hK => ?_) (AllReadyH.nil)
        go_simp
        have h9_13 := Boxed.new w_12 113 (.nilFunc)
        have hg_13 := alloc_grown w_12 (.cells #[.nilFunc] 113)
        obtain ⟨z9, hz9⟩ : ∃ z9, w_12.heap.size = z9 := ⟨_, rfl⟩
        have hlz9 : w.heap.size ≤ z9 := by have := hG_12.size; omega
        rw [hz9] at h9_13 ⊢
        clear hz9
        generalize w_12.alloc (.cells #[.nilFunc] 113) = w_13 at *
        have hE_13 := hE_12.grown hg_13
        have hP_13 := hP_12.grown hg_13
        have h8_13 := box_own h8_12 hg_13 (fun r e => by cases e)
        have hG_13 := grown_trans hG_12 hg_13 (by simp)
        refine hK.out _ _ (hSS _ hG_13) (fun hHeld => ?_)
        clear hK K
        try simp only [Act.put, List.setIfInBounds_toArray, List.set_cons_zero, List.set_cons_succ]
        refine wpAnyH_ready (rs := [6]) (by kernel_rfl) (by simp) ?_
        refine AllReadyH.cons (o := { dst := none, op := Op.store 26 (Operand.tmp 8) (Operand.tmp 27), type := 0, pos := "disk.go:218", after := #[{ on := 4, ground := Ground.data }, { on := 0, ground := Ground.data }, { on := 3, ground := Ground.chain }, { on := 0, ground := Ground.phase }, { on := 1, ground := Ground.textOnly Departure.lateStores }, { on := 2, ground := Ground.textOnly Departure.lateStores }, { on := 3, ground := Ground.textOnly Departure.lateStoresUnsure }, { on := 4, ground := Ground.phase }, { on := 5, ground := Ground.phase }], guard := none }) rfl (fun K hK => ?_) (AllReadyH.nil)
        have c8 := h8_13.cell
        have f8 := h8_13.frozen
        have hlb' := hlb
        have hfin := fin9 hE_13 hP_13 h8_13 h9_13 hG_13 hlz8 hlz9 hb
        have hS6 := hSS _ (store9 hG_13 hlz8 (.pointer (some ⟨nb, 0, none⟩)))
        have c9 := store_other h8_13 h9_13 (.pointer (some ⟨nb, 0, none⟩))
        go_simp
        refine hK.out _ _ hS6 (fun hHeld => ?_)
        clear hK K
        try simp only [Act.put, List.setIfInBounds_toArray, List.set_cons_zero, List.set_cons_succ]
        refine wpAnyH_ready (rs := [7]) (by kernel_rfl) (by simp) ?_
        refine AllReadyH.cons (o := { dst := none, op := Op.store 113 (Operand.tmp 9) (Operand.tmp 30), type := 0, pos := "disk.go:218", after := #[{ on := 5, ground := Ground.data }, { on := 3, ground := Ground.data }, { on := 6, ground := Ground.chain }, { on := 0, ground := Ground.phase }, { on := 1, ground := Ground.phase }, { on := 2, ground := Ground.phase }, { on := 3, ground := Ground.phase }, { on := 4, ground := Ground.phase }, { on := 5, ground := Ground.phase }, { on := 6, ground := Ground.phase }], guard := none }) rfl (fun K hK => ?_) (AllReadyH.nil)
        have hS7 := hSS _ hfin.2.2.2.2
        have k9 := c9.cell
        have f9 := c9.frozen
        go_simp
        refine hK.out _ _ hS7 (fun hHeld => ?_)
        clear hK K
        try simp only [Act.put, List.setIfInBounds_toArray, List.set_cons_zero, List.set_cons_succ]
        refine wpAnyH_done (by kernel_rfl) ?_ _
        exact ⟨rfl, z8, z9, nb, nm, za, zp, _, _, rfl, hfin.1, hfin.2.1, hfin.2.2.1, hfin.2.2.2.1, hfin.2.2.2.2, hlb, hlm, hlza, hlzp⟩
      · skip
        go_simp
        have h9_16 := Boxed.new w_11 113 (.nilFunc)
        have hg_16 := alloc_grown w_11 (.cells #[.nilFunc] 113)
        obtain ⟨z9, hz9⟩ : ∃ z9, w_11.heap.size = z9 := ⟨_, rfl⟩
        have hlz9 : w.heap.size ≤ z9 := by have := hG_11.size; omega
        rw [hz9] at h9_16 ⊢
        clear hz9
        generalize w_11.alloc (.cells #[.nilFunc] 113) = w_16 at *
        have hE_16 := hE_11.grown hg_16
        have h8_16 := box_own h8_11 hg_16 (fun r e => by cases e)
        have hG_16 := grown_trans hG_11 hg_16 (by simp)
        refine hK.out _ _ (hSS _ hG_16) (fun hHeld => ?_)
        clear hK K
        try simp only [Act.put, List.setIfInBounds_toArray, List.set_cons_zero, List.set_cons_succ]
        refine wpAnyH_ready (rs := [3]) (by kernel_rfl) (by simp) ?_
        refine AllReadyH.cons (o := { dst := some 30, op := Op.call { callee := Callee.value (Operand.func 63), args := #[Operand.tmp 29], argTypes := #[23] }, type := 113, pos := "disk.go:218", after := #[{ on := 2, ground := Ground.data }, { on := 0, ground := Ground.chain }], guard := none }) rfl (fun K hK => ?_) (AllReadyH.nil)
        go_simp
        go_at_call 63
        refine (picker_ltr po pn pc l (hl.grown hG_16) (fun a e => Nat.lt_of_lt_of_le (hb a e) hG_16.size)).mono ?_
        rintro e w_17 ⟨za, zp, rfl, hP_17, hg_17, hlza, hlzp⟩
        replace hlza := Nat.le_trans hG_16.size hlza
        replace hlzp := Nat.le_trans hG_16.size hlzp
        try go_simp
        have hE_17 := hE_16.grown hg_17
        have h8_17 := box_own h8_16 hg_17 (fun r e => by cases e)
        have h9_17 := box_own h9_16 hg_17 (fun r e => by cases e)
        have hG_17 := grown_trans hG_16 hg_17 (by simp)
        refine hK.out _ _ (hSS _ hG_17) (fun hHeld => ?_)
        clear hK K
        try simp only [Act.put, List.setIfInBounds_toArray, List.set_cons_zero, List.set_cons_succ]
        refine wpAnyH_ready (rs := [6]) (by kernel_rfl) (by simp) ?_
        refine AllReadyH.cons (o := { dst := none, op := Op.store 26 (Operand.tmp 8) (Operand.tmp 27), type := 0, pos := "disk.go:218", after := #[{ on := 4, ground := Ground.data }, { on := 0, ground := Ground.data }, { on := 3, ground := Ground.chain }, { on := 0, ground := Ground.phase }, { on := 1, ground := Ground.textOnly Departure.lateStores }, { on := 2, ground := Ground.textOnly Departure.lateStores }, { on := 3, ground := Ground.textOnly Departure.lateStoresUnsure }, { on := 4, ground := Ground.phase }, { on := 5, ground := Ground.phase }], guard := none }) rfl (fun K hK => ?_) (AllReadyH.nil)
        have c8 := h8_17.cell
        have f8 := h8_17.frozen
        have hlb' := hlb
        have hfin := fin9 hE_17 hP_17 h8_17 h9_17 hG_17 hlz8 hlz9 hb
        have hS6 := hSS _ (store9 hG_17 hlz8 (.pointer (some ⟨nb, 0, none⟩)))
        have c9 := store_other h8_17 h9_17 (.pointer (some ⟨nb, 0, none⟩))
        go_simp
        refine hK.out _ _ hS6 (fun hHeld => ?_)
        clear hK K
        try simp only [Act.put, List.setIfInBounds_toArray, List.set_cons_zero, List.set_cons_succ]
        refine wpAnyH_ready (rs := [7]) (by kernel_rfl) (by simp) ?_
        refine AllReadyH.cons (o := { dst := none, op := Op.store 113 (Operand.tmp 9) (Operand.tmp 30), type := 0, pos := "disk.go:218", after := #[{ on := 5, ground := Ground.data }, { on := 3, ground := Ground.data }, { on := 6, ground := Ground.chain }, { on := 0, ground := Ground.phase }, { on := 1, ground := Ground.phase }, { on := 2, ground := Ground.phase }, { on := 3, ground := Ground.phase }, { on := 4, ground := Ground.phase }, { on := 5, ground := Ground.phase }, { on := 6, ground := Ground.phase }], guard := none }) rfl (fun K hK => ?_) (AllReadyH.nil)
        have hS7 := hSS _ hfin.2.2.2.2
        have k9 := c9.cell
        have f9 := c9.frozen
        go_simp
        refine hK.out _ _ hS7 (fun hHeld => ?_)
        clear hK K
        try simp only [Act.put, List.setIfInBounds_toArray, List.set_cons_zero, List.set_cons_succ]
        refine wpAnyH_done (by kernel_rfl) ?_ _
        exact ⟨rfl, z8, z9, nb, nm, za, zp, _, _, rfl, hfin.1, hfin.2.1, hfin.2.2.1, hfin.2.2.2.1, hfin.2.2.2.2, hlb, hlm, hlza, hlzp⟩
    · skip
      go_simp
      have h9_20 := Boxed.new w_1 113 (.nilFunc)
      have hg_20 := alloc_grown w_1 (.cells #[.nilFunc] 113)
      obtain ⟨z9, hz9⟩ : ∃ z9, w_1.heap.size = z9 := ⟨_, rfl⟩
      have hlz9 : w.heap.size ≤ z9 := by have := hG_1.size; omega
      rw [hz9] at h9_20 ⊢
      clear hz9
      generalize w_1.alloc (.cells #[.nilFunc] 113) = w_20 at *
      have hE_20 := hE_1.grown hg_20
      have hG_20 := grown_trans hG_1 hg_20 (by simp)
      refine hK.out _ _ (hSS _ hG_20) (fun hHeld => ?_)
      clear hK K
      try simp only [Act.put, List.setIfInBounds_toArray, List.set_cons_zero, List.set_cons_succ]
      refine wpAnyH_ready (rs := [3, 4]) (by kernel_rfl) (by simp) ?_
      refine AllReadyH.cons (o := { dst := some 30, op := Op.call { callee := Callee.value (Operand.func 63), args := #[Operand.tmp 29], argTypes := #[23] }, type := 113, pos := "disk.go:218", after := #[{ on := 2, ground := Ground.data }, { on := 0, ground := Ground.chain }], guard := none }) rfl (fun K hK => ?_) (AllReadyH.cons (o := { dst := some 8, op := Op.alloc 26, type := 0, pos := "disk.go:218", after := #[], guard := none }) rfl (fun K hK => ?_) (AllReadyH.nil))
      · skip
        go_simp
        go_at_call 63
        refine (picker_ltr po pn pc l (hl.grown hG_20) (fun a e => Nat.lt_of_lt_of_le (hb a e) hG_20.size)).mono ?_
        rintro e w_21 ⟨za, zp, rfl, hP_21, hg_21, hlza, hlzp⟩
        replace hlza := Nat.le_trans hG_20.size hlza
        replace hlzp := Nat.le_trans hG_20.size hlzp
        try go_simp
        have hE_21 := hE_20.grown hg_21
        have h9_21 := box_own h9_20 hg_21 (fun r e => by cases e)
        have hG_21 := grown_trans hG_20 hg_21 (by simp)
        refine hK.out _ _ (hSS _ hG_21) (fun hHeld => ?_)
        clear hK K
        try simp only [Act.put, List.setIfInBounds_toArray, List.set_cons_zero, List.set_cons_succ]
        refine wpAnyH_ready (rs := [4]) (by kernel_rfl) (by simp) ?_
        refine AllReadyH.cons (o := { dst := some 8, op := Op.alloc 26, type := 0, pos := "disk.go:218", after := #[], guard := none }) rfl (fun K hK => ?_) (AllReadyH.nil)
        go_simp
        have h8_22 := Boxed.new w_21 26 (.pointer none)
        have hg_22 := alloc_grown w_21 (.cells #[.pointer none] 26)
        obtain ⟨z8, hz8⟩ : ∃ z8, w_21.heap.size = z8 := ⟨_, rfl⟩
        have hlz8 : w.heap.size ≤ z8 := by have := hG_21.size; omega
        rw [hz8] at h8_22 ⊢
        clear hz8
        generalize w_21.alloc (.cells #[.pointer none] 26) = w_22 at *
        have hE_22 := hE_21.grown hg_22
        have hP_22 := hP_21.grown hg_22
        have h9_22 := box_own h9_21 hg_22 (fun r e => by cases e)
        have hG_22 := grown_trans hG_21 hg_22 (by simp)
        refine hK.out _ _ (hSS _ hG_22) (fun hHeld => ?_)
        clear hK K
        try simp only [Act.put, List.setIfInBounds_toArray, List.set_cons_zero, List.set_cons_succ]
        refine wpAnyH_ready (rs := [6]) (by kernel_rfl) (by simp) ?_
        refine AllReadyH.cons (o := { dst := none, op := Op.store 26 (Operand.tmp 8) (Operand.tmp 27), type := 0, pos := "disk.go:218", after := #[{ on := 4, ground := Ground.data }, { on := 0, ground := Ground.data }, { on := 3, ground := Ground.chain }, { on := 0, ground := Ground.phase }, { on := 1, ground := Ground.textOnly Departure.lateStores }, { on := 2, ground := Ground.textOnly Departure.lateStores }, { on := 3, ground := Ground.textOnly Departure.lateStoresUnsure }, { on := 4, ground := Ground.phase }, { on := 5, ground := Ground.phase }], guard := none }) rfl (fun K hK => ?_) (AllReadyH.nil)
        have c8 := h8_22.cell
        have f8 := h8_22.frozen
        have hlb' := hlb
        have hfin := fin9 hE_22 hP_22 h8_22 h9_22 hG_22 hlz8 hlz9 hb
        have hS6 := hSS _ (store9 hG_22 hlz8 (.pointer (some ⟨nb, 0, none⟩)))
        have c9 := store_other h8_22 h9_22 (.pointer (some ⟨nb, 0, none⟩))
        go_simp
        refine hK.out _ _ hS6 (fun hHeld => ?_)
        clear hK K
        try simp only [Act.put, List.setIfInBounds_toArray, List.set_cons_zero, List.set_cons_succ]
        refine wpAnyH_ready (rs := [7]) (by kernel_rfl) (by simp) ?_
        refine AllReadyH.cons (o := { dst := none, op := Op.store 113 (Operand.tmp 9) (Operand.tmp 30), type := 0, pos := "disk.go:218", after := #[{ on := 5, ground := Ground.data }, { on := 3, ground := Ground.data }, { on := 6, ground := Ground.chain }, { on := 0, ground := Ground.phase }, { on := 1, ground := Ground.phase }, { on := 2, ground := Ground.phase }, { on := 3, ground := Ground.phase }, { on := 4, ground := Ground.phase }, { on := 5, ground := Ground.phase }, { on := 6, ground := Ground.phase }], guard := none }) rfl (fun K hK => ?_) (AllReadyH.nil)
        have hS7 := hSS _ hfin.2.2.2.2
        have k9 := c9.cell
        have f9 := c9.frozen
        go_simp
        refine hK.out _ _ hS7 (fun hHeld => ?_)
        clear hK K
        try simp only [Act.put, List.setIfInBounds_toArray, List.set_cons_zero, List.set_cons_succ]
        refine wpAnyH_done (by kernel_rfl) ?_ _
        exact ⟨rfl, z8, z9, nb, nm, za, zp, _, _, rfl, hfin.1, hfin.2.1, hfin.2.2.1, hfin.2.2.2.1, hfin.2.2.2.2, hlb, hlm, hlza, hlzp⟩
      · skip
        go_simp
        have h8_25 := Boxed.new w_20 26 (.pointer none)
        have hg_25 := alloc_grown w_20 (.cells #[.pointer none] 26)
        obtain ⟨z8, hz8⟩ : ∃ z8, w_20.heap.size = z8 := ⟨_, rfl⟩
        have hlz8 : w.heap.size ≤ z8 := by have := hG_20.size; omega
        rw [hz8] at h8_25 ⊢
        clear hz8
        generalize w_20.alloc (.cells #[.pointer none] 26) = w_25 at *
        have hE_25 := hE_20.grown hg_25
        have h9_25 := box_own h9_20 hg_25 (fun r e => by cases e)
        have hG_25 := grown_trans hG_20 hg_25 (by simp)
        refine hK.out _ _ (hSS _ hG_25) (fun hHeld => ?_)
        clear hK K
        try simp only [Act.put, List.setIfInBounds_toArray, List.set_cons_zero, List.set_cons_succ]
        refine wpAnyH_ready (rs := [3]) (by kernel_rfl) (by simp) ?_
        refine AllReadyH.cons (o := { dst := some 30, op := Op.call { callee := Callee.value (Operand.func 63), args := #[Operand.tmp 29], argTypes := #[23] }, type := 113, pos := "disk.go:218", after := #[{ on := 2, ground := Ground.data }, { on := 0, ground := Ground.chain }], guard := none }) rfl (fun K hK => ?_) (AllReadyH.nil)
        go_simp
        go_at_call 63
        refine (picker_ltr po pn pc l (hl.grown hG_25) (fun a e => Nat.lt_of_lt_of_le (hb a e) hG_25.size)).mono ?_
        rintro e w_26 ⟨za, zp, rfl, hP_26, hg_26, hlza, hlzp⟩
        replace hlza := Nat.le_trans hG_25.size hlza
        replace hlzp := Nat.le_trans hG_25.size hlzp
        try go_simp
        have hE_26 := hE_25.grown hg_26
        have h8_26 := box_own h8_25 hg_26 (fun r e => by cases e)
        have h9_26 := box_own h9_25 hg_26 (fun r e => by cases e)
        have hG_26 := grown_trans hG_25 hg_26 (by simp)
        refine hK.out _ _ (hSS _ hG_26) (fun hHeld => ?_)
        clear hK K
        try simp only [Act.put, List.setIfInBounds_toArray, List.set_cons_zero, List.set_cons_succ]
        refine wpAnyH_ready (rs := [6]) (by kernel_rfl) (by simp) ?_
        refine AllReadyH.cons (o := { dst := none, op := Op.store 26 (Operand.tmp 8) (Operand.tmp 27), type := 0, pos := "disk.go:218", after := #[{ on := 4, ground := Ground.data }, { on := 0, ground := Ground.data }, { on := 3, ground := Ground.chain }, { on := 0, ground := Ground.phase }, { on := 1, ground := Ground.textOnly Departure.lateStores }, { on := 2, ground := Ground.textOnly Departure.lateStores }, { on := 3, ground := Ground.textOnly Departure.lateStoresUnsure }, { on := 4, ground := Ground.phase }, { on := 5, ground := Ground.phase }], guard := none }) rfl (fun K hK => ?_) (AllReadyH.nil)
        have c8 := h8_26.cell
        have f8 := h8_26.frozen
        have hlb' := hlb
        have hfin := fin9 hE_26 hP_26 h8_26 h9_26 hG_26 hlz8 hlz9 hb
        have hS6 := hSS _ (store9 hG_26 hlz8 (.pointer (some ⟨nb, 0, none⟩)))
        have c9 := store_other h8_26 h9_26 (.pointer (some ⟨nb, 0, none⟩))
        go_simp
        refine hK.out _ _ hS6 (fun hHeld => ?_)
        clear hK K
        try simp only [Act.put, List.setIfInBounds_toArray, List.set_cons_zero, List.set_cons_succ]
        refine wpAnyH_ready (rs := [7]) (by kernel_rfl) (by simp) ?_
        refine AllReadyH.cons (o := { dst := none, op := Op.store 113 (Operand.tmp 9) (Operand.tmp 30), type := 0, pos := "disk.go:218", after := #[{ on := 5, ground := Ground.data }, { on := 3, ground := Ground.data }, { on := 6, ground := Ground.chain }, { on := 0, ground := Ground.phase }, { on := 1, ground := Ground.phase }, { on := 2, ground := Ground.phase }, { on := 3, ground := Ground.phase }, { on := 4, ground := Ground.phase }, { on := 5, ground := Ground.phase }, { on := 6, ground := Ground.phase }], guard := none }) rfl (fun K hK => ?_) (AllReadyH.nil)
        have hS7 := hSS _ hfin.2.2.2.2
        have k9 := c9.cell
        have f9 := c9.frozen
        go_simp
        refine hK.out _ _ hS7 (fun hHeld => ?_)
        clear hK K
        try simp only [Act.put, List.setIfInBounds_toArray, List.set_cons_zero, List.set_cons_succ]
        refine wpAnyH_done (by kernel_rfl) ?_ _
        exact ⟨rfl, z8, z9, nb, nm, za, zp, _, _, rfl, hfin.1, hfin.2.1, hfin.2.2.1, hfin.2.2.2.1, hfin.2.2.2.2, hlb, hlm, hlza, hlzp⟩
  · skip
    go_simp
    have h8_29 := Boxed.new w_0 26 (.pointer none)
    have hg_29 := alloc_grown w_0 (.cells #[.pointer none] 26)
    obtain ⟨z8, hz8⟩ : ∃ z8, w_0.heap.size = z8 := ⟨_, rfl⟩
    have hlz8 : w.heap.size ≤ z8 := by have := hG_0.size; omega
    rw [hz8] at h8_29 ⊢
    clear hz8
    generalize w_0.alloc (.cells #[.pointer none] 26) = w_29 at *
    have hG_29 := grown_trans hG_0 hg_29 (by simp)
    refine hK.out _ _ (hSS _ hG_29) (fun hHeld => ?_)
    clear hK K
    try simp only [Act.put, List.setIfInBounds_toArray, List.set_cons_zero, List.set_cons_succ]
    refine wpAnyH_ready (rs := [0, 5]) (by kernel_rfl) (by simp) ?_
    refine AllReadyH.cons (o := { dst := some 27, op := Op.call { callee := Callee.value (Operand.func 62), args := #[], argTypes := #[] }, type := 26, pos := "disk.go:218", after := #[], guard := none }) rfl (fun K hK => ?_) (AllReadyH.cons (o := { dst := some 9, op := Op.alloc 113, type := 0, pos := "disk.go:218", after := #[], guard := none }) rfl (fun K hK => ?_) (AllReadyH.nil))
    · skip
      go_simp
      go_at_call 62
      refine (empty_ltr w_29).mono ?_
      rintro e w_30 ⟨nb, nm, rfl, hE_30, hg_30, hlb, hlm⟩
      replace hlb := Nat.le_trans hG_29.size hlb
      replace hlm := Nat.le_trans hG_29.size hlm
      try go_simp
      have h8_30 := box_own h8_29 hg_30 (fun r e => by cases e)
      have hG_30 := grown_trans hG_29 hg_30 (by simp)
      refine hK.out _ _ (hSS _ hG_30) (fun hHeld => ?_)
      clear hK K
      try simp only [Act.put, List.setIfInBounds_toArray, List.set_cons_zero, List.set_cons_succ]
      refine wpAnyH_ready (rs := [3, 5]) (by kernel_rfl) (by simp) ?_
      refine AllReadyH.cons (o := { dst := some 30, op := Op.call { callee := Callee.value (Operand.func 63), args := #[Operand.tmp 29], argTypes := #[23] }, type := 113, pos := "disk.go:218", after := #[{ on := 2, ground := Ground.data }, { on := 0, ground := Ground.chain }], guard := none }) rfl (fun K hK => ?_) (AllReadyH.cons (o := { dst := some 9, op := Op.alloc 113, type := 0, pos := "disk.go:218", after := #[], guard := none }) rfl (fun K hK => ?_) (AllReadyH.nil))
      · skip
        go_simp
        go_at_call 63
        refine (picker_ltr po pn pc l (hl.grown hG_30) (fun a e => Nat.lt_of_lt_of_le (hb a e) hG_30.size)).mono ?_
        rintro e w_31 ⟨za, zp, rfl, hP_31, hg_31, hlza, hlzp⟩
        replace hlza := Nat.le_trans hG_30.size hlza
        replace hlzp := Nat.le_trans hG_30.size hlzp
        try go_simp
        have hE_31 := hE_30.grown hg_31
        have h8_31 := box_own h8_30 hg_31 (fun r e => by cases e)
        have hG_31 := grown_trans hG_30 hg_31 (by simp)
        refine hK.out _ _ (hSS _ hG_31) (fun hHeld => ?_)
        clear hK K
        try simp only [Act.put, List.setIfInBounds_toArray, List.set_cons_zero, List.set_cons_succ]
        refine wpAnyH_ready (rs := [5]) (by kernel_rfl) (by simp) ?_
        refine AllReadyH.cons (o := { dst := some 9, op := Op.alloc 113, type := 0, pos := "disk.go:218", after := #[], guard := none }) rfl (fun K hK => ?_) (AllReadyH.nil)
        go_simp
        have h9_32 := Boxed.new w_31 113 (.nilFunc)
        have hg_32 := alloc_grown w_31 (.cells #[.nilFunc] 113)
        obtain ⟨z9, hz9⟩ : ∃ z9, w_31.heap.size = z9 := ⟨_, rfl⟩
        have hlz9 : w.heap.size ≤ z9 := by have := hG_31.size; omega
        rw [hz9] at h9_32 ⊢
        clear hz9
        generalize w_31.alloc (.cells #[.nilFunc] 113) = w_32 at *
        have hE_32 := hE_31.grown hg_32
        have hP_32 := hP_31.grown hg_32
        have h8_32 := box_own h8_31 hg_32 (fun r e => by cases e)
        have hG_32 := grown_trans hG_31 hg_32 (by simp)
        refine hK.out _ _ (hSS _ hG_32) (fun hHeld => ?_)
        clear hK K
        try simp only [Act.put, List.setIfInBounds_toArray, List.set_cons_zero, List.set_cons_succ]
        refine wpAnyH_ready (rs := [6]) (by kernel_rfl) (by simp) ?_
        refine AllReadyH.cons (o := { dst := none, op := Op.store 26 (Operand.tmp 8) (Operand.tmp 27), type := 0, pos := "disk.go:218", after := #[{ on := 4, ground := Ground.data }, { on := 0, ground := Ground.data }, { on := 3, ground := Ground.chain }, { on := 0, ground := Ground.phase }, { on := 1, ground := Ground.textOnly Departure.lateStores }, { on := 2, ground := Ground.textOnly Departure.lateStores }, { on := 3, ground := Ground.textOnly Departure.lateStoresUnsure }, { on := 4, ground := Ground.phase }, { on := 5, ground := Ground.phase }], guard := none }) rfl (fun K hK => ?_) (AllReadyH.nil)
        have c8 := h8_32.cell
        have f8 := h8_32.frozen
        have hlb' := hlb
        have hfin := fin9 hE_32 hP_32 h8_32 h9_32 hG_32 hlz8 hlz9 hb
        have hS6 := hSS _ (store9 hG_32 hlz8 (.pointer (some ⟨nb, 0, none⟩)))
        have c9 := store_other h8_32 h9_32 (.pointer (some ⟨nb, 0, none⟩))
        go_simp
        refine hK.out _ _ hS6 (fun hHeld => ?_)
        clear hK K
        try simp only [Act.put, List.setIfInBounds_toArray, List.set_cons_zero, List.set_cons_succ]
        refine wpAnyH_ready (rs := [7]) (by kernel_rfl) (by simp) ?_
        refine AllReadyH.cons (o := { dst := none, op := Op.store 113 (Operand.tmp 9) (Operand.tmp 30), type := 0, pos := "disk.go:218", after := #[{ on := 5, ground := Ground.data }, { on := 3, ground := Ground.data }, { on := 6, ground := Ground.chain }, { on := 0, ground := Ground.phase }, { on := 1, ground := Ground.phase }, { on := 2, ground := Ground.phase }, { on := 3, ground := Ground.phase }, { on := 4, ground := Ground.phase }, { on := 5, ground := Ground.phase }, { on := 6, ground := Ground.phase }], guard := none }) rfl (fun K hK => ?_) (AllReadyH.nil)
        have hS7 := hSS _ hfin.2.2.2.2
        have k9 := c9.cell
        have f9 := c9.frozen
        go_simp
        refine hK.out _ _ hS7 (fun hHeld => ?_)
        clear hK K
        try simp only [Act.put, List.setIfInBounds_toArray, List.set_cons_zero, List.set_cons_succ]
        refine wpAnyH_done (by kernel_rfl) ?_ _
        exact ⟨rfl, z8, z9, nb, nm, za, zp, _, _, rfl, hfin.1, hfin.2.1, hfin.2.2.1, hfin.2.2.2.1, hfin.2.2.2.2, hlb, hlm, hlza, hlzp⟩
      · skip
        go_simp
        have h9_35 := Boxed.new w_30 113 (.nilFunc)
        have hg_35 := alloc_grown w_30 (.cells #[.nilFunc] 113)
        obtain ⟨z9, hz9⟩ : ∃ z9, w_30.heap.size = z9 := ⟨_, rfl⟩
        have hlz9 : w.heap.size ≤ z9 := by have := hG_30.size; omega
        rw [hz9] at h9_35 ⊢
        clear hz9
        generalize w_30.alloc (.cells #[.nilFunc] 113) = w_35 at *
        have hE_35 := hE_30.grown hg_35
        have h8_35 := box_own h8_30 hg_35 (fun r e => by cases e)
        have hG_35 := grown_trans hG_30 hg_35 (by simp)
        refine hK.out _ _ (hSS _ hG_35) (fun hHeld => ?_)
        clear hK K
        try simp only [Act.put, List.setIfInBounds_toArray, List.set_cons_zero, List.set_cons_succ]
        refine wpAnyH_ready (rs := [3]) (by kernel_rfl) (by simp) ?_
        refine AllReadyH.cons (o := { dst := some 30, op := Op.call { callee := Callee.value (Operand.func 63), args := #[Operand.tmp 29], argTypes := #[23] }, type := 113, pos := "disk.go:218", after := #[{ on := 2, ground := Ground.data }, { on := 0, ground := Ground.chain }], guard := none }) rfl (fun K hK => ?_) (AllReadyH.nil)
        go_simp
        go_at_call 63
        refine (picker_ltr po pn pc l (hl.grown hG_35) (fun a e => Nat.lt_of_lt_of_le (hb a e) hG_35.size)).mono ?_
        rintro e w_36 ⟨za, zp, rfl, hP_36, hg_36, hlza, hlzp⟩
        replace hlza := Nat.le_trans hG_35.size hlza
        replace hlzp := Nat.le_trans hG_35.size hlzp
        try go_simp
        have hE_36 := hE_35.grown hg_36
        have h8_36 := box_own h8_35 hg_36 (fun r e => by cases e)
        have h9_36 := box_own h9_35 hg_36 (fun r e => by cases e)
        have hG_36 := grown_trans hG_35 hg_36 (by simp)
        refine hK.out _ _ (hSS _ hG_36) (fun hHeld => ?_)
        clear hK K
        try simp only [Act.put, List.setIfInBounds_toArray, List.set_cons_zero, List.set_cons_succ]
        refine wpAnyH_ready (rs := [6]) (by kernel_rfl) (by simp) ?_
        refine AllReadyH.cons (o := { dst := none, op := Op.store 26 (Operand.tmp 8) (Operand.tmp 27), type := 0, pos := "disk.go:218", after := #[{ on := 4, ground := Ground.data }, { on := 0, ground := Ground.data }, { on := 3, ground := Ground.chain }, { on := 0, ground := Ground.phase }, { on := 1, ground := Ground.textOnly Departure.lateStores }, { on := 2, ground := Ground.textOnly Departure.lateStores }, { on := 3, ground := Ground.textOnly Departure.lateStoresUnsure }, { on := 4, ground := Ground.phase }, { on := 5, ground := Ground.phase }], guard := none }) rfl (fun K hK => ?_) (AllReadyH.nil)
        have c8 := h8_36.cell
        have f8 := h8_36.frozen
        have hlb' := hlb
        have hfin := fin9 hE_36 hP_36 h8_36 h9_36 hG_36 hlz8 hlz9 hb
        have hS6 := hSS _ (store9 hG_36 hlz8 (.pointer (some ⟨nb, 0, none⟩)))
        have c9 := store_other h8_36 h9_36 (.pointer (some ⟨nb, 0, none⟩))
        go_simp
        refine hK.out _ _ hS6 (fun hHeld => ?_)
        clear hK K
        try simp only [Act.put, List.setIfInBounds_toArray, List.set_cons_zero, List.set_cons_succ]
        refine wpAnyH_ready (rs := [7]) (by kernel_rfl) (by simp) ?_
        refine AllReadyH.cons (o := { dst := none, op := Op.store 113 (Operand.tmp 9) (Operand.tmp 30), type := 0, pos := "disk.go:218", after := #[{ on := 5, ground := Ground.data }, { on := 3, ground := Ground.data }, { on := 6, ground := Ground.chain }, { on := 0, ground := Ground.phase }, { on := 1, ground := Ground.phase }, { on := 2, ground := Ground.phase }, { on := 3, ground := Ground.phase }, { on := 4, ground := Ground.phase }, { on := 5, ground := Ground.phase }, { on := 6, ground := Ground.phase }], guard := none }) rfl (fun K hK => ?_) (AllReadyH.nil)
        have hS7 := hSS _ hfin.2.2.2.2
        have k9 := c9.cell
        have f9 := c9.frozen
        go_simp
        refine hK.out _ _ hS7 (fun hHeld => ?_)
        clear hK K
        try simp only [Act.put, List.setIfInBounds_toArray, List.set_cons_zero, List.set_cons_succ]
        refine wpAnyH_done (by kernel_rfl) ?_ _
        exact ⟨rfl, z8, z9, nb, nm, za, zp, _, _, rfl, hfin.1, hfin.2.1, hfin.2.2.1, hfin.2.2.2.1, hfin.2.2.2.2, hlb, hlm, hlza, hlzp⟩
    · skip
      go_simp
      have h9_39 := Boxed.new w_29 113 (.nilFunc)
      have hg_39 := alloc_grown w_29 (.cells #[.nilFunc] 113)
      obtain ⟨z9, hz9⟩ : ∃ z9, w_29.heap.size = z9 := ⟨_, rfl⟩
      have hlz9 : w.heap.size ≤ z9 := by have := hG_29.size; omega
      rw [hz9] at h9_39 ⊢
      clear hz9
      generalize w_29.alloc (.cells #[.nilFunc] 113) = w_39 at *
      have h8_39 := box_own h8_29 hg_39 (fun r e => by cases e)
      have hG_39 := grown_trans hG_29 hg_39 (by simp)
      refine hK.out _ _ (hSS _ hG_39) (fun hHeld => ?_)
      clear hK K
      try simp only [Act.put, List.setIfInBounds_toArray, List.set_cons_zero, List.set_cons_succ]
      refine wpAnyH_ready (rs := [0]) (by kernel_rfl) (by simp) ?_
      refine AllReadyH.cons (o := { dst := some 27, op := Op.call { callee := Callee.value (Operand.func 62), args := #[], argTypes := #[] }, type := 26, pos := "disk.go:218", after := #[], guard := none }) rfl (fun K hK => ?_) (AllReadyH.nil)
      go_simp
      go_at_call 62
      refine (empty_ltr w_39).mono ?_
      rintro e w_40 ⟨nb, nm, rfl, hE_40, hg_40, hlb, hlm⟩
      replace hlb := Nat.le_trans hG_39.size hlb
      replace hlm := Nat.le_trans hG_39.size hlm
      try go_simp
      have h8_40 := box_own h8_39 hg_40 (fun r e => by cases e)
      have h9_40 := box_own h9_39 hg_40 (fun r e => by cases e)
      have hG_40 := grown_trans hG_39 hg_40 (by simp)
      refine hK.out _ _ (hSS _ hG_40) (fun hHeld => ?_)
      clear hK K
      try simp only [Act.put, List.setIfInBounds_toArray, List.set_cons_zero, List.set_cons_succ]
      refine wpAnyH_ready (rs := [3]) (by kernel_rfl) (by simp) ?_
      refine AllReadyH.cons (o := { dst := some 30, op := Op.call { callee := Callee.value (Operand.func 63), args := #[Operand.tmp 29], argTypes := #[23] }, type := 113, pos := "disk.go:218", after := #[{ on := 2, ground := Ground.data }, { on := 0, ground := Ground.chain }], guard := none }) rfl (fun K hK => ?_) (AllReadyH.nil)
      go_simp
      go_at_call 63
      refine (picker_ltr po pn pc l (hl.grown hG_40) (fun a e => Nat.lt_of_lt_of_le (hb a e) hG_40.size)).mono ?_
      rintro e w_41 ⟨za, zp, rfl, hP_41, hg_41, hlza, hlzp⟩
      replace hlza := Nat.le_trans hG_40.size hlza
      replace hlzp := Nat.le_trans hG_40.size hlzp
      try go_simp
      have hE_41 := hE_40.grown hg_41
      have h8_41 := box_own h8_40 hg_41 (fun r e => by cases e)
      have h9_41 := box_own h9_40 hg_41 (fun r e => by cases e)
      have hG_41 := grown_trans hG_40 hg_41 (by simp)
      refine hK.out _ _ (hSS _ hG_41) (fun hHeld => ?_)
      clear hK K
      try simp only [Act.put, List.setIfInBounds_toArray, List.set_cons_zero, List.set_cons_succ]
      refine wpAnyH_ready (rs := [6]) (by kernel_rfl) (by simp) ?_
      refine AllReadyH.cons (o := { dst := none, op := Op.store 26 (Operand.tmp 8) (Operand.tmp 27), type := 0, pos := "disk.go:218", after := #[{ on := 4, ground := Ground.data }, { on := 0, ground := Ground.data }, { on := 3, ground := Ground.chain }, { on := 0, ground := Ground.phase }, { on := 1, ground := Ground.textOnly Departure.lateStores }, { on := 2, ground := Ground.textOnly Departure.lateStores }, { on := 3, ground := Ground.textOnly Departure.lateStoresUnsure }, { on := 4, ground := Ground.phase }, { on := 5, ground := Ground.phase }], guard := none }) rfl (fun K hK => ?_) (AllReadyH.nil)
      have c8 := h8_41.cell
      have f8 := h8_41.frozen
      have hlb' := hlb
      have hfin := fin9 hE_41 hP_41 h8_41 h9_41 hG_41 hlz8 hlz9 hb
      have hS6 := hSS _ (store9 hG_41 hlz8 (.pointer (some ⟨nb, 0, none⟩)))
      have c9 := store_other h8_41 h9_41 (.pointer (some ⟨nb, 0, none⟩))
      go_simp
      refine hK.out _ _ hS6 (fun hHeld => ?_)
      clear hK K
      try simp only [Act.put, List.setIfInBounds_toArray, List.set_cons_zero, List.set_cons_succ]
      refine wpAnyH_ready (rs := [7]) (by kernel_rfl) (by simp) ?_
      refine AllReadyH.cons (o := { dst := none, op := Op.store 113 (Operand.tmp 9) (Operand.tmp 30), type := 0, pos := "disk.go:218", after := #[{ on := 5, ground := Ground.data }, { on := 3, ground := Ground.data }, { on := 6, ground := Ground.chain }, { on := 0, ground := Ground.phase }, { on := 1, ground := Ground.phase }, { on := 2, ground := Ground.phase }, { on := 3, ground := Ground.phase }, { on := 4, ground := Ground.phase }, { on := 5, ground := Ground.phase }, { on := 6, ground := Ground.phase }], guard := none }) rfl (fun K hK => ?_) (AllReadyH.nil)
      have hS7 := hSS _ hfin.2.2.2.2
      have k9 := c9.cell
      have f9 := c9.frozen
      go_simp
      refine hK.out _ _ hS7 (fun hHeld => ?_)
      clear hK K
      try simp only [Act.put, List.setIfInBounds_toArray, List.set_cons_zero, List.set_cons_succ]
      refine wpAnyH_done (by kernel_rfl) ?_ _
      exact ⟨rfl, z8, z9, nb, nm, za, zp, _, _, rfl, hfin.1, hfin.2.1, hfin.2.2.1, hfin.2.2.2.1, hfin.2.2.2.2, hlb, hlm, hlza, hlzp⟩
  · skip
    go_simp
    have h9_44 := Boxed.new w_0 113 (.nilFunc)
    have hg_44 := alloc_grown w_0 (.cells #[.nilFunc] 113)
    obtain ⟨z9, hz9⟩ : ∃ z9, w_0.heap.size = z9 := ⟨_, rfl⟩
    have hlz9 : w.heap.size ≤ z9 := by have := hG_0.size; omega
    rw [hz9] at h9_44 ⊢
    clear hz9
    generalize w_0.alloc (.cells #[.nilFunc] 113) = w_44 at *
    have hG_44 := grown_trans hG_0 hg_44 (by simp)
    refine hK.out _ _ (hSS _ hG_44) (fun hHeld => ?_)
    clear hK K
    try simp only [Act.put, List.setIfInBounds_toArray, List.set_cons_zero, List.set_cons_succ]
    refine wpAnyH_ready (rs := [0, 4]) (by kernel_rfl) (by simp) ?_
    refine AllReadyH.cons (o := { dst := some 27, op := Op.call { callee := Callee.value (Operand.func 62), args := #[], argTypes := #[] }, type := 26, pos := "disk.go:218", after := #[], guard := none }) rfl (fun K hK => ?_) (AllReadyH.cons (o := { dst := some 8, op := Op.alloc 26, type := 0, pos := "disk.go:218", after := #[], guard := none }) rfl (fun K hK => ?_) (AllReadyH.nil))
    · skip
      go_simp
      go_at_call 62
      refine (empty_ltr w_44).mono ?_
      rintro e w_45 ⟨nb, nm, rfl, hE_45, hg_45, hlb, hlm⟩
      replace hlb := Nat.le_trans hG_44.size hlb
      replace hlm := Nat.le_trans hG_44.size hlm
      try go_simp
      have h9_45 := box_own h9_44 hg_45 (fun r e => by cases e)
      have hG_45 := grown_trans hG_44 hg_45 (by simp)
      refine hK.out _ _ (hSS _ hG_45) (fun hHeld => ?_)
      clear hK K
      try simp only [Act.put, List.setIfInBounds_toArray, List.set_cons_zero, List.set_cons_succ]
      refine wpAnyH_ready (rs := [3, 4]) (by kernel_rfl) (by simp) ?_
      refine AllReadyH.cons (o := { dst := some 30, op := Op.call { callee := Callee.value (Operand.func 63), args := #[Operand.tmp 29], argTypes := #[23] }, type := 113, pos := "disk.go:218", after := #[{ on := 2, ground := Ground.data }, { on := 0, ground := Ground.chain }], guard := none }) rfl (fun K hK => ?_) (AllReadyH.cons (o := { dst := some 8, op := Op.alloc 26, type := 0, pos := "disk.go:218", after := #[], guard := none }) rfl (fun K hK => ?_) (AllReadyH.nil))
      · skip
        go_simp
        go_at_call 63
        refine (picker_ltr po pn pc l (hl.grown hG_45) (fun a e => Nat.lt_of_lt_of_le (hb a e) hG_45.size)).mono ?_
        rintro e w_46 ⟨za, zp, rfl, hP_46, hg_46, hlza, hlzp⟩
        replace hlza := Nat.le_trans hG_45.size hlza
        replace hlzp := Nat.le_trans hG_45.size hlzp
        try go_simp
        have hE_46 := hE_45.grown hg_46
        have h9_46 := box_own h9_45 hg_46 (fun r e => by cases e)
        have hG_46 := grown_trans hG_45 hg_46 (by simp)
        refine hK.out _ _ (hSS _ hG_46) (fun hHeld => ?_)
        clear hK K
        try simp only [Act.put, List.setIfInBounds_toArray, List.set_cons_zero, List.set_cons_succ]
        refine wpAnyH_ready (rs := [4]) (by kernel_rfl) (by simp) ?_
        refine AllReadyH.cons (o := { dst := some 8, op := Op.alloc 26, type := 0, pos := "disk.go:218", after := #[], guard := none }) rfl (fun K hK => ?_) (AllReadyH.nil)
        go_simp
        have h8_47 := Boxed.new w_46 26 (.pointer none)
        have hg_47 := alloc_grown w_46 (.cells #[.pointer none] 26)
        obtain ⟨z8, hz8⟩ : ∃ z8, w_46.heap.size = z8 := ⟨_, rfl⟩
        have hlz8 : w.heap.size ≤ z8 := by have := hG_46.size; omega
        rw [hz8] at h8_47 ⊢
        clear hz8
        generalize w_46.alloc (.cells #[.pointer none] 26) = w_47 at *
        have hE_47 := hE_46.grown hg_47
        have hP_47 := hP_46.grown hg_47
        have h9_47 := box_own h9_46 hg_47 (fun r e => by cases e)
        have hG_47 := grown_trans hG_46 hg_47 (by simp)
        refine hK.out _ _ (hSS _ hG_47) (fun hHeld => ?_)
        clear hK K
        try simp only [Act.put, List.setIfInBounds_toArray, List.set_cons_zero, List.set_cons_succ]
        refine wpAnyH_ready (rs := [6]) (by kernel_rfl) (by simp) ?_
        refine AllReadyH.cons (o := { dst := none, op := Op.store 26 (Operand.tmp 8) (Operand.tmp 27), type := 0, pos := "disk.go:218", after := #[{ on := 4, ground := Ground.data }, { on := 0, ground := Ground.data }, { on := 3, ground := Ground.chain }, { on := 0, ground := Ground.phase }, { on := 1, ground := Ground.textOnly Departure.lateStores }, { on := 2, ground := Ground.textOnly Departure.lateStores }, { on := 3, ground := Ground.textOnly Departure.lateStoresUnsure }, { on := 4, ground := Ground.phase }, { on := 5, ground := Ground.phase }], guard := none }) rfl (fun K hK => ?_) (AllReadyH.nil)
        have c8 := h8_47.cell
        have f8 := h8_47.frozen
        have hlb' := hlb
        have hfin := fin9 hE_47 hP_47 h8_47 h9_47 hG_47 hlz8 hlz9 hb
        have hS6 := hSS _ (store9 hG_47 hlz8 (.pointer (some ⟨nb, 0, none⟩)))
        have c9 := store_other h8_47 h9_47 (.pointer (some ⟨nb, 0, none⟩))
        go_simp
        refine hK.out _ _ hS6 (fun hHeld => ?_)
        clear hK K
        try simp only [Act.put, List.setIfInBounds_toArray, List.set_cons_zero, List.set_cons_succ]
        refine wpAnyH_ready (rs := [7]) (by kernel_rfl) (by simp) ?_
        refine AllReadyH.cons (o := { dst := none, op := Op.store 113 (Operand.tmp 9) (Operand.tmp 30), type := 0, pos := "disk.go:218", after := #[{ on := 5, ground := Ground.data }, { on := 3, ground := Ground.data }, { on := 6, ground := Ground.chain }, { on := 0, ground := Ground.phase }, { on := 1, ground := Ground.phase }, { on := 2, ground := Ground.phase }, { on := 3, ground := Ground.phase }, { on := 4, ground := Ground.phase }, { on := 5, ground := Ground.phase }, { on := 6, ground := Ground.phase }], guard := none }) rfl (fun K hK => ?_) (AllReadyH.nil)
        have hS7 := hSS _ hfin.2.2.2.2
        have k9 := c9.cell
        have f9 := c9.frozen
        go_simp
        refine hK.out _ _ hS7 (fun hHeld => ?_)
        clear hK K
        try simp only [Act.put, List.setIfInBounds_toArray, List.set_cons_zero, List.set_cons_succ]
        refine wpAnyH_done (by kernel_rfl) ?_ _
        exact ⟨rfl, z8, z9, nb, nm, za, zp, _, _, rfl, hfin.1, hfin.2.1, hfin.2.2.1, hfin.2.2.2.1, hfin.2.2.2.2, hlb, hlm, hlza, hlzp⟩
      · skip
        go_simp
        have h8_50 := Boxed.new w_45 26 (.pointer none)
        have hg_50 := alloc_grown w_45 (.cells #[.pointer none] 26)
        obtain ⟨z8, hz8⟩ : ∃ z8, w_45.heap.size = z8 := ⟨_, rfl⟩
        have hlz8 : w.heap.size ≤ z8 := by have := hG_45.size; omega
        rw [hz8] at h8_50 ⊢
        clear hz8
        generalize w_45.alloc (.cells #[.pointer none] 26) = w_50 at *
        have hE_50 := hE_45.grown hg_50
        have h9_50 := box_own h9_45 hg_50 (fun r e => by cases e)
        have hG_50 := grown_trans hG_45 hg_50 (by simp)
        refine hK.out _ _ (hSS _ hG_50) (fun hHeld => ?_)
        clear hK K
        try simp only [Act.put, List.setIfInBounds_toArray, List.set_cons_zero, List.set_cons_succ]
        refine wpAnyH_ready (rs := [3]) (by kernel_rfl) (by simp) ?_
        refine AllReadyH.cons (o := { dst := some 30, op := Op.call { callee := Callee.value (Operand.func 63), args := #[Operand.tmp 29], argTypes := #[23] }, type := 113, pos := "disk.go:218", after := #[{ on := 2, ground := Ground.data }, { on := 0, ground := Ground.chain }], guard := none }) rfl (fun K hK => ?_) (AllReadyH.nil)
        go_simp
        go_at_call 63
        refine (picker_ltr po pn pc l (hl.grown hG_50) (fun a e => Nat.lt_of_lt_of_le (hb a e) hG_50.size)).mono ?_
        rintro e w_51 ⟨za, zp, rfl, hP_51, hg_51, hlza, hlzp⟩
        replace hlza := Nat.le_trans hG_50.size hlza
        replace hlzp := Nat.le_trans hG_50.size hlzp
        try go_simp
        have hE_51 := hE_50.grown hg_51
        have h8_51 := box_own h8_50 hg_51 (fun r e => by cases e)
        have h9_51 := box_own h9_50 hg_51 (fun r e => by cases e)
        have hG_51 := grown_trans hG_50 hg_51 (by simp)
        refine hK.out _ _ (hSS _ hG_51) (fun hHeld => ?_)
        clear hK K
        try simp only [Act.put, List.setIfInBounds_toArray, List.set_cons_zero, List.set_cons_succ]
        refine wpAnyH_ready (rs := [6]) (by kernel_rfl) (by simp) ?_
        refine AllReadyH.cons (o := { dst := none, op := Op.store 26 (Operand.tmp 8) (Operand.tmp 27), type := 0, pos := "disk.go:218", after := #[{ on := 4, ground := Ground.data }, { on := 0, ground := Ground.data }, { on := 3, ground := Ground.chain }, { on := 0, ground := Ground.phase }, { on := 1, ground := Ground.textOnly Departure.lateStores }, { on := 2, ground := Ground.textOnly Departure.lateStores }, { on := 3, ground := Ground.textOnly Departure.lateStoresUnsure }, { on := 4, ground := Ground.phase }, { on := 5, ground := Ground.phase }], guard := none }) rfl (fun K hK => ?_) (AllReadyH.nil)
        have c8 := h8_51.cell
        have f8 := h8_51.frozen
        have hlb' := hlb
        have hfin := fin9 hE_51 hP_51 h8_51 h9_51 hG_51 hlz8 hlz9 hb
        have hS6 := hSS _ (store9 hG_51 hlz8 (.pointer (some ⟨nb, 0, none⟩)))
        have c9 := store_other h8_51 h9_51 (.pointer (some ⟨nb, 0, none⟩))
        go_simp
        refine hK.out _ _ hS6 (fun hHeld => ?_)
        clear hK K
        try simp only [Act.put, List.setIfInBounds_toArray, List.set_cons_zero, List.set_cons_succ]
        refine wpAnyH_ready (rs := [7]) (by kernel_rfl) (by simp) ?_
        refine AllReadyH.cons (o := { dst := none, op := Op.store 113 (Operand.tmp 9) (Operand.tmp 30), type := 0, pos := "disk.go:218", after := #[{ on := 5, ground := Ground.data }, { on := 3, ground := Ground.data }, { on := 6, ground := Ground.chain }, { on := 0, ground := Ground.phase }, { on := 1, ground := Ground.phase }, { on := 2, ground := Ground.phase }, { on := 3, ground := Ground.phase }, { on := 4, ground := Ground.phase }, { on := 5, ground := Ground.phase }, { on := 6, ground := Ground.phase }], guard := none }) rfl (fun K hK => ?_) (AllReadyH.nil)
        have hS7 := hSS _ hfin.2.2.2.2
        have k9 := c9.cell
        have f9 := c9.frozen
        go_simp
        refine hK.out _ _ hS7 (fun hHeld => ?_)
        clear hK K
        try simp only [Act.put, List.setIfInBounds_toArray, List.set_cons_zero, List.set_cons_succ]
        refine wpAnyH_done (by kernel_rfl) ?_ _
        exact ⟨rfl, z8, z9, nb, nm, za, zp, _, _, rfl, hfin.1, hfin.2.1, hfin.2.2.1, hfin.2.2.2.1, hfin.2.2.2.2, hlb, hlm, hlza, hlzp⟩
    · skip
      go_simp
      have h8_54 := Boxed.new w_44 26 (.pointer none)
      have hg_54 := alloc_grown w_44 (.cells #[.pointer none] 26)
      obtain ⟨z8, hz8⟩ : ∃ z8, w_44.heap.size = z8 := ⟨_, rfl⟩
      have hlz8 : w.heap.size ≤ z8 := by have := hG_44.size; omega
      rw [hz8] at h8_54 ⊢
      clear hz8
      generalize w_44.alloc (.cells #[.pointer none] 26) = w_54 at *
      have h9_54 := box_own h9_44 hg_54 (fun r e => by cases e)
      have hG_54 := grown_trans hG_44 hg_54 (by simp)
      refine hK.out _ _ (hSS _ hG_54) (fun hHeld => ?_)
      clear hK K
      try simp only [Act.put, List.setIfInBounds_toArray, List.set_cons_zero, List.set_cons_succ]
      refine wpAnyH_ready (rs := [0]) (by kernel_rfl) (by simp) ?_
      refine AllReadyH.cons (o := { dst := some 27, op := Op.call { callee := Callee.value (Operand.func 62), args := #[], argTypes := #[] }, type := 26, pos := "disk.go:218", after := #[], guard := none }) rfl (fun K hK => ?_) (AllReadyH.nil)
      go_simp
      go_at_call 62
      refine (empty_ltr w_54).mono ?_
      rintro e w_55 ⟨nb, nm, rfl, hE_55, hg_55, hlb, hlm⟩
      replace hlb := Nat.le_trans hG_54.size hlb
      replace hlm := Nat.le_trans hG_54.size hlm
      try go_simp
      have h8_55 := box_own h8_54 hg_55 (fun r e => by cases e)
      have h9_55 := box_own h9_54 hg_55 (fun r e => by cases e)
      have hG_55 := grown_trans hG_54 hg_55 (by simp)
      refine hK.out _ _ (hSS _ hG_55) (fun hHeld => ?_)
      clear hK K
      try simp only [Act.put, List.setIfInBounds_toArray, List.set_cons_zero, List.set_cons_succ]
      refine wpAnyH_ready (rs := [3]) (by kernel_rfl) (by simp) ?_
      refine AllReadyH.cons (o := { dst := some 30, op := Op.call { callee := Callee.value (Operand.func 63), args := #[Operand.tmp 29], argTypes := #[23] }, type := 113, pos := "disk.go:218", after := #[{ on := 2, ground := Ground.data }, { on := 0, ground := Ground.chain }], guard := none }) rfl (fun K hK => ?_) (AllReadyH.nil)
      go_simp
      go_at_call 63
      refine (picker_ltr po pn pc l (hl.grown hG_55) (fun a e => Nat.lt_of_lt_of_le (hb a e) hG_55.size)).mono ?_
      rintro e w_56 ⟨za, zp, rfl, hP_56, hg_56, hlza, hlzp⟩
      replace hlza := Nat.le_trans hG_55.size hlza
      replace hlzp := Nat.le_trans hG_55.size hlzp
      try go_simp
      have hE_56 := hE_55.grown hg_56
      have h8_56 := box_own h8_55 hg_56 (fun r e => by cases e)
      have h9_56 := box_own h9_55 hg_56 (fun r e => by cases e)
      have hG_56 := grown_trans hG_55 hg_56 (by simp)
      refine hK.out _ _ (hSS _ hG_56) (fun hHeld => ?_)
      clear hK K
      try simp only [Act.put, List.setIfInBounds_toArray, List.set_cons_zero, List.set_cons_succ]
      refine wpAnyH_ready (rs := [6]) (by kernel_rfl) (by simp) ?_
      refine AllReadyH.cons (o := { dst := none, op := Op.store 26 (Operand.tmp 8) (Operand.tmp 27), type := 0, pos := "disk.go:218", after := #[{ on := 4, ground := Ground.data }, { on := 0, ground := Ground.data }, { on := 3, ground := Ground.chain }, { on := 0, ground := Ground.phase }, { on := 1, ground := Ground.textOnly Departure.lateStores }, { on := 2, ground := Ground.textOnly Departure.lateStores }, { on := 3, ground := Ground.textOnly Departure.lateStoresUnsure }, { on := 4, ground := Ground.phase }, { on := 5, ground := Ground.phase }], guard := none }) rfl (fun K hK => ?_) (AllReadyH.nil)
      have c8 := h8_56.cell
      have f8 := h8_56.frozen
      have hlb' := hlb
      have hfin := fin9 hE_56 hP_56 h8_56 h9_56 hG_56 hlz8 hlz9 hb
      have hS6 := hSS _ (store9 hG_56 hlz8 (.pointer (some ⟨nb, 0, none⟩)))
      have c9 := store_other h8_56 h9_56 (.pointer (some ⟨nb, 0, none⟩))
      go_simp
      refine hK.out _ _ hS6 (fun hHeld => ?_)
      clear hK K
      try simp only [Act.put, List.setIfInBounds_toArray, List.set_cons_zero, List.set_cons_succ]
      refine wpAnyH_ready (rs := [7]) (by kernel_rfl) (by simp) ?_
      refine AllReadyH.cons (o := { dst := none, op := Op.store 113 (Operand.tmp 9) (Operand.tmp 30), type := 0, pos := "disk.go:218", after := #[{ on := 5, ground := Ground.data }, { on := 3, ground := Ground.data }, { on := 6, ground := Ground.chain }, { on := 0, ground := Ground.phase }, { on := 1, ground := Ground.phase }, { on := 2, ground := Ground.phase }, { on := 3, ground := Ground.phase }, { on := 4, ground := Ground.phase }, { on := 5, ground := Ground.phase }, { on := 6, ground := Ground.phase }], guard := none }) rfl (fun K hK => ?_) (AllReadyH.nil)
      have hS7 := hSS _ hfin.2.2.2.2
      have k9 := c9.cell
      have f9 := c9.frozen
      go_simp
      refine hK.out _ _ hS7 (fun hHeld => ?_)
      clear hK K
      try simp only [Act.put, List.setIfInBounds_toArray, List.set_cons_zero, List.set_cons_succ]
      refine wpAnyH_done (by kernel_rfl) ?_ _
      exact ⟨rfl, z8, z9, nb, nm, za, zp, _, _, rfl, hfin.1, hfin.2.1, hfin.2.2.1, hfin.2.2.2.1, hfin.2.2.2.2, hlb, hlm, hlza, hlzp⟩
end Go.Proofs.Ytgkeflgfnagnjaa
