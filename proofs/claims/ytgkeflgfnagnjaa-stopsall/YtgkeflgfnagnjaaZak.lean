import Derived.Test.YtgkeflgfnagnjaaZaj
import Derived.Test.YtgkeflgfnagnjaaZah
import Derived.Deep.RegionHeld3
/-
  The keys of a map of files, sorted: the shelf's contracts at this program.
-/
namespace Go.Proofs
open Go.RowKit Go.Maps Go.Sort Go.Shelf


theorem Try.sorts81 (m : Nat) : AnyZ.SortsIn Try.prog Try.sorted81_ren Fence.wide m :=
  ⟨fun blk off cap ss W hH hblk hsz => callsIn_wide.2 (AnyM.slices_Sort_string Try.sort92 blk off cap ss W hH hblk hsz),
   fun p cap W => callsIn_wide.2 (AnyM.slices_Sort_string_none Try.sort92 p cap W)⟩

theorem Try.maps_Keys_82 (mb : Option Nat) (W : World) : CallsIn Fence.wide 5 Try.prog 82 #[.map mb] W fun e w' => e = .returned (.func (.func 93) #[] #[.pointer (some ⟨W.heap.size, 0, none⟩)]) ∧ w' = W.alloc (.cells #[.map mb] 64) :=
  AnyZ.keys_in Try.keys82 Fence.wide 5 trivial rfl mb W

set_option maxHeartbeats 1000000 in
theorem Try.slices_Sorted_keys_81_82 {H : Type} (b nn : Nat) (D0 : DataW H) (R : Value → Option (DataW H × List MemPlace)) (w : World) (hown : w.ownsMap Try.prog 9 R b nn D0) (hmax : Maps.size D0 ≤ maxLen) (hbytes : Maps.size D0 * 16 ≤ 140737488355328) :
    CallsIn Fence.wide 5 Try.prog 81 #[.func (.func 93) #[] #[.pointer (some ⟨w.heap.size, 0, none⟩)]] (w.alloc (.cells #[.map (some b)] 64)) fun e w' => ∃ (v : Value) (ss : List (List UInt8)), e = .returned v ∧ ss.Perm (strKeys D0) ∧
      w'.ownsRow (w.alloc (.cells #[.map (some b)] 64)).heap.size 9 1 v ss.length ((ss.mergeSort (fun x y => decide (x ≤ y))).map encStr) ∧ (v = .slice none 0 0 ↔ ss = []) ∧ Below (w.alloc (.cells #[.map (some b)] 64)).heap.size (w.alloc (.cells #[.map (some b)] 64)) w' := by
  have hbl := hown.lt
  have hseq : SeqGives Fence.wide 2 Try.prog 93 #[.pointer (some ⟨w.heap.size, 0, none⟩)] encStr (fun ss => ss.Perm (strKeys D0)) (Maps.size D0) (w.alloc (.cells #[.map (some b)] 64)) :=
    AnyZ.keys_gives (ρ := Try.keys82_ren) { Try.keys82 with } Fence.wide _ trivial rfl (by omega) w.heap.size b nn D0 _ (by simp) (by simp) (by
      obtain ⟨es, clock, hb, Ft, hs, hD⟩ := hown
      exact ⟨es, clock, (Below.heap_alloc _ _ b hbl).trans hb, Ft, hs, hD⟩)
  exact AnyZ.sorted_in Try.sorted81 Fence.wide 5 trivial trivial trivial trivial rfl (by omega) (Try.sorts81 _) (enters_of Try.func92 (by kernel_rfl) rfl) 93 #[.pointer (some ⟨w.heap.size, 0, none⟩)] trivial (enters_of Try.func93 (by kernel_rfl) rfl) _ _ hmax hbytes _ hseq

end Go.Proofs

/-
  All of a disk: its files in order.
-/
namespace Go.Proofs.Ytgkeflgfnagnjaa
open Go.RowKit Go.Maps Go.Sort Go.Shelf
set_option linter.unusedVariables false
set_option maxRecDepth 100000
set_option linter.unusedSectionVars false
variable [FO : Inhabited (Nat → Prop)]

/-- The files of a disk, by name. -/
def Files (w : World) (D : DataW Unit) (T : List UInt8 → Td) : Prop := ∀ s ∈ strKeys D, (T s).s = ⟨s.toArray⟩ ∧ s.length ≤ 32 ∧ ∃ g bo bc, at? D ⟨s.toArray⟩ (some g) ∧ Fl w g bo (T s).sz bc (T s).la (T s).th (T s).nl
theorem strKeys_len {H : Type} (D : DataW H) : (strKeys D).length ≤ Maps.size D := by cases D <;> simp [strKeys, Maps.size]
section
variable {w w' : World} {b m : Nat} {fs : List (Int × Int)} {st : Int} {n : Nat} {D : DataW Unit}

set_option maxRecDepth 100000 in
set_option maxHeartbeats 4000000 in
theorem all_any (h : Ds w b m fs st n D) (T : List UInt8 → Td) (hF : Files w D T) (hD : Maps.size D ≤ 4096) :
    Calls Try.prog 55 #[.pointer (some ⟨b, 0, none⟩)] w fun e w' => ∃ (ss : List (List UInt8)) (ao : Option Addr) (cap : Nat), ss.Perm (strKeys D) ∧ e = .returned (.func (.func 84) #[] #[.pointer (some ⟨w.heap.size, 0, none⟩)]) ∧ Boxed w' w.heap.size 139 (.slice ao ss.length cap) ∧ Tw w' w.heap.size ao ss.length cap ((ss.mergeSort (fun x y => decide (x ≤ y))).map T) ∧ w.grownBy w' none := by
  have hmf : ∀ (fn : Fn) (first cap : Array Value) (w : World), (Instr.makeFunc fn first cap).run Try.prog w = .ok (.func fn first cap) w := fun _ _ _ _ => rfl
  obtain ⟨fo, fn, fc, hd⟩ := h.dk
  have hbx := Boxed.new w 139 (.slice none 0 0)
  have hg := alloc_grown w (.cells #[.slice none 0 0] 139)
  have hbl := hd.hd.lt
  go_enter Try.func55, Try.ntmps55
  go_wp2_with fail
  have hd1 := hd.hd.grown hg
  have hm1 : Mp _ m n D := hd.mp.kept hg (by simp)
  have hs1 : (w.alloc (.cells #[.slice none 0 0] 139)).heap.size = w.heap.size + 1 := by simp
  generalize w.alloc (.cells #[.slice none 0 0] 139) = w1 at *
  refine (made_yes _ _ _ hd1.c0).mono ?_
  rintro e w1 ⟨rfl, rfl⟩
  have k0 := hd1.c0
  go_wp2_with fail
  refine ((callsIn_wide (n := 5)).1 (Try.maps_Keys_82 (some m) _)).mono ?_
  rintro e w2 ⟨rfl, hw2⟩
  subst hw2
  have hso := (callsIn_wide (n := 5)).1 (Try.slices_Sorted_keys_81_82 m n D fileElem w1 hm1 (by unfold maxLen; omega) (by omega))
  rw [hs1] at hso
  go_wp2_with fail
  refine hso.mono ?_
  clear hso
  rintro e w3 ⟨v, ss, rfl, hperm, hrow, hnil, hB⟩
  have hg3 : w.grownBy w3 none := grown_trans (grown_trans hg (alloc_grown w1 _) (by simp)) (below_grownBy hB) (by simp)
  have hb3 := box_own (box_own hbx (alloc_grown w1 (.cells #[.map (some m)] 64)) (fun r e => by cases e)) (below_grownBy hB) (fun r e => by cases e)
  have hN : ss.length ≤ 4096 := by rw [hperm.length_eq]; exact Nat.le_trans (strKeys_len D) hD
  obtain ⟨ks, hks⟩ : ∃ ks, ss.mergeSort (fun x y => decide (x ≤ y)) = ks := ⟨_, rfl⟩
  have hkl : ks.length = ss.length := by rw [← hks]; simp
  have hkm : ∀ s ∈ ks, s ∈ strKeys D := fun s hs => by
    rw [← hks] at hs
    exact hperm.mem_iff.1 (by simpa using hs)
  rw [hks] at hrow
  obtain ⟨vo, vc, rfl, hcell, hvb⟩ : ∃ vo vc, v = .slice vo ss.length vc ∧ (∀ i s, ks[i]? = some s → ∃ q, vo = some ⟨q, 0, none⟩ ∧ w3.cell? ⟨q, i, none⟩ = some (.string ⟨s.toArray⟩)) ∧ ∀ q, blk vo = some q → w.heap.size < q ∧ q < w3.heap.size := by
    rcases hrow.2 with ⟨hv, h0⟩ | ⟨g, c, cur, hv, hbq, _⟩
    · subst hv
      refine ⟨none, 0, by rw [h0], fun i s hs => ?_, fun q e => by cases e⟩
      have := (List.getElem?_eq_some_iff.1 hs).1
      omega
    · subst hv
      refine ⟨_, c, rfl, fun i s hs => ⟨g, rfl, ?_⟩, fun q e => ?_⟩
      · have h9 := hrow.cells (g := g) rfl i (encStr s) (by rw [List.getElem?_map, hs]; rfl)
        rwa [Addr.add_lit, Nat.zero_add] at h9
      · have h8 := hrow.lt g rfl
        obtain rfl : g = q := by simpa [blk] using e
        rw [World.size_alloc, hs1] at hbq
        exact ⟨by omega, h8.2⟩
  clear hrow hnil hB hm1 hd1 hg hbx
  have hvlen : ∀ k, k < ss.length → ∃ s, ks[k]? = some s := fun k hk => ⟨_, List.getElem?_eq_getElem (by omega)⟩
  go_wp2_with fail
  go_loopw [5, 15] (fun _ i' wr => ∃ (i : Nat) (ro : Option Addr) (rc : Nat), i' = .int .i64 i ∧ i ≤ ss.length ∧ Boxed wr w.heap.size 139 (.slice ro i rc) ∧ Tw wr w3.heap.size ro i rc ((ks.take i).map T) ∧ Chg w3 wr (fun k => k = w.heap.size)) (fun _ i' _ => ss.length - (intOf i').toNat)
  case atStart => exact ⟨0, none, 0, rfl, Nat.zero_le _, hb3, Tw.nil _ _, Chg.refl _ _⟩
  case round =>
    obtain ⟨i, ro, rc, rfl, hi, hbr, hT, hc⟩ := hrel
    by_cases hlt : i < ss.length
    · have hd' : decide ((i : Int) < (ss.length : Int)) = true := by simp; omega
      obtain ⟨s, hs⟩ := hvlen i hlt
      obtain ⟨q, rfl, hq⟩ := hcell i s hs
      obtain ⟨t1, t2, g, bo, bc, t3, t4⟩ := hF s (hkm s (List.mem_of_getElem? hs))
      have hs3 := hg3.size
      have hqv := hvb q rfl
      have hqr := hc.cell hq (by show ¬ q = _; omega)
      have hCw : Chg w wr (fun k => k = w.heap.size) := (Chg.of_grown hg3 _).trans hc
      have hgl := t4.lt
      have hfr := t4.chg hCw (by omega)
      have hml := hd.mp.lt
      have hmr := Mp.chg hd.mp hCw (by omega)
      have k0 := (hd.hd.chg hCw (by omega)).c0
      obtain ⟨g', hg', hlk⟩ := look_any (w := wr.drew) hmr ⟨s.toArray⟩ (by show s.toArray.size ≤ _; simp; unfold maxLen; omega)
      obtain rfl := at_one t3 hg'
      rw [Option.map_some] at hlk
      have kz := hbr.cell
      have fz := hbr.frozen
      have i1 : (0 : Int) ≤ (i : Int) := by omega
      have i2 : (i : Int) < (ss.length : Int) := by omega
      have hto := told_any wr.drew g bo _ bc _ _ _ ⟨s.toArray⟩ (hfr.chg (Chg.of_grown (grown_drew wr none) (fun _ => False)) (fun e => e))
      have htw : T s = ⟨⟨s.toArray⟩, (T s).sz, (T s).la, (T s).th, (T s).nl⟩ := by rw [← t1]
      unfold toldV at hto
      have hrz : blk ro ≠ some w.heap.size := fun e => by have := (hT.from_base _ e).1; omega
      have hks1 : ks.take (i + 1) = ks.take i ++ [s] := by
        rw [List.take_add_one, hs]; rfl
      have hzl := hbr.lt
      have hsr : w3.heap.size ≤ wr.heap.size := hc.size
      generalize (T s).sz = x1 at *
      generalize (T s).la = x2 at *
      generalize (T s).th = x3 at *
      generalize (T s).nl = x4 at *
      obtain ⟨z, hzz⟩ : ∃ z, w.heap.size = z := ⟨_, rfl⟩
      have hz : Hid (w.heap.size = z) := hzz
      have hbz : Boxed wr z 139 (.slice ro i rc) := by rw [← hzz]; exact hbr
      have hSS : ∀ W, Chg w W (fun k => k = w.heap.size ∨ w3.heap.size ≤ k) → W.cell? ⟨b, 0, none⟩ = some (.map (some m)) ∧ (Instr.lookup 64 (.map (some m)) (.string ⟨s.toArray⟩) false).run Try.prog W = .ok (.pointer (some ⟨g, 0, none⟩)) W := fun W hW => by
        refine ⟨(hd.hd.chg hW (by omega)).c0, ?_⟩
        obtain ⟨g', hg', hlk'⟩ := look_any (Mp.chg hd.mp hW (by omega)) ⟨s.toArray⟩ (by show s.toArray.size ≤ _; simp; unfold maxLen; omega)
        obtain rfl := at_one t3 hg'
        exact hlk'
      clear t4 hfr hmr hg' hlk t3 hcell hvlen hd h hF hkm hq hb3
      rw [hzz] at kz fz hrz hzl
      go_wp2_with fail
      have hgd : ∀ W, wr.drew.grownBy W none → W.cell? ⟨z, 0, none⟩ = some (.slice ro i rc) := fun W hW => hW.cell (a := ⟨z, 0, none⟩) kz (by simp)
      have HSp : ∀ W, Chg w W (fun k => k = w.heap.size ∨ w3.heap.size ≤ k) → (fun w' => w'.cell? ⟨b, 0, none⟩ = some (.map (some m)) ∧ (Instr.lookup 64 (.map (some m)) (.string ⟨s.toArray⟩) false).run Try.prog w' = .ok (.pointer (some ⟨g, 0, none⟩)) w') W := hSS
      have HS : Hid _ := HSp
      have hC4' : ∀ W, wr.drew.grownBy W none → Chg w W (fun k => k = w.heap.size ∨ w3.heap.size ≤ k) := fun W hW => ((hCw.mono (fun k _ e => Or.inl e)).trans (Chg.of_grown (grown_drew wr none) _)).trans (Chg.of_grown hW _)
      have hC4 : Hid _ := hC4'
      have hC6' : ∀ W, wr.grownBy W (blk ro) → Chg w W (fun k => k = w.heap.size ∨ w3.heap.size ≤ k) := fun W hW => (hCw.mono (fun k _ e => Or.inl e)).trans ((chg_grown hW).mono (fun k _ e => Or.inr (hT.from_base k e).1))
      have hC6 : Hid _ := hC6'
      have hbx6' : ∀ W, wr.grownBy W (blk ro) → W.cell? ⟨z, 0, none⟩ = some (.slice ro i rc) → ∀ v, Boxed (W.setCell ⟨z, 0, none⟩ v) z 139 v := fun W hW _ v => by
        have h1 : Boxed W z 139 (.slice ro i rc) := (hW.block z hzl (fun e => hrz e.symm)).trans hbz
        exact h1.set v
      have hbx6 : Hid _ := hbx6'
      have hc6' : ∀ W, wr.grownBy W (blk ro) → ∀ v, Chg w3 (W.setCell ⟨z, 0, none⟩ v) (fun k => k = w.heap.size) := fun W hW v => by
        have h1 : Chg w3 W (fun k => k = w.heap.size) := ⟨hW.os.trans hc.os, hW.tape.trans hc.tape, hW.output.trans hc.output, Nat.le_trans hc.size hW.size, fun k hk hne => (hW.block k (Nat.lt_of_lt_of_le hk hc.size) (fun e => by have := (hT.from_base k e.symm).1; omega)).trans (hc.block k hk hne)⟩
        exact h1.trans ((setCell_chg W z 0 v).mono (fun k _ e => e.trans hz.out.symm))
      have hc6 : Hid _ := hc6'
      clear HSp hSS hC4' hC6' hbx6' hc6'
      refine wp_region_held_drew (S := fun w' => w'.cell? ⟨b, 0, none⟩ = some (.map (some m)) ∧ (Instr.lookup 64 (.map (some m)) (.string ⟨s.toArray⟩) false).run Try.prog w' = .ok (.pointer (some ⟨g, 0, none⟩)) w') (by kernel_rfl) (HS.out _ (hC4.out _ (grown_refl _ _))) (fun hHeld => ?_)
      refine wpAnyH_take (i := 1) (oi := { dst := some 20, op := Op.move (Operand.tmp 0), type := 26, pos := "disk.go:188", after := #[], guard := none }) (v := ?_) rfl (by kernel_rfl) (by kernel_rfl) (by kernel_rfl) (fun _ _ _ h => h) (Or.inl ⟨by rfl, ?_⟩) (by assumption) ?_
      rotate_left
      · intro w hSw; (try dsimp only at hSw); go_simp
        try with_reducible rfl
      try simp only [Act.put, List.setIfInBounds_toArray, List.set_cons_zero, List.set_cons_succ]
      refine wpAnyH_take (i := 2) (oi := { dst := some 21, op := Op.nilCheck (Operand.tmp 20), type := 0, pos := "disk.go:188", after := #[{ on := 1, ground := Ground.data }], guard := none }) (v := ?_) rfl (by kernel_rfl) (by kernel_rfl) (by kernel_rfl) (fun _ _ _ h => h) (Or.inl ⟨by rfl, ?_⟩) (by assumption) ?_
      rotate_left
      · intro w hSw; (try dsimp only at hSw); go_simp
        try with_reducible rfl
      try simp only [Act.put, List.setIfInBounds_toArray, List.set_cons_zero, List.set_cons_succ]
      refine wpAnyH_take (i := 3) (oi := { dst := some 22, op := Op.fieldAddr 67 (Operand.tmp 21) 0, type := 0, pos := "disk.go:188", after := #[{ on := 2, ground := Ground.data }], guard := none }) (v := ?_) rfl (by kernel_rfl) (by kernel_rfl) (by kernel_rfl) (fun _ _ _ h => h) (Or.inl ⟨by rfl, ?_⟩) (by assumption) ?_
      rotate_left
      · intro w hSw; (try dsimp only at hSw); go_simp
        try with_reducible rfl
      try simp only [Act.put, List.setIfInBounds_toArray, List.set_cons_zero, List.set_cons_succ]
      refine wpAnyH_take (i := 4) (oi := { dst := some 23, op := Op.load 64 (Operand.tmp 22), type := 64, pos := "disk.go:188", after := #[{ on := 3, ground := Ground.data }], guard := none }) (v := ?_) rfl (by kernel_rfl) (by kernel_rfl) (by kernel_rfl) (fun _ _ _ h => h) (Or.inl ⟨by rfl, ?_⟩) (by assumption) ?_
      rotate_left
      · intro w hSw; (try dsimp only at hSw); go_simp
        try with_reducible rfl
      try simp only [Act.put, List.setIfInBounds_toArray, List.set_cons_zero, List.set_cons_succ]
      refine wpAnyH_take (i := 5) (oi := { dst := some 24, op := Op.move (Operand.tmp 5), type := 9, pos := "disk.go:188", after := #[], guard := none }) (v := ?_) rfl (by kernel_rfl) (by kernel_rfl) (by kernel_rfl) (fun _ _ _ h => h) (Or.inl ⟨by rfl, ?_⟩) (by assumption) ?_
      rotate_left
      · intro w hSw; (try dsimp only at hSw); go_simp
        try with_reducible rfl
      try simp only [Act.put, List.setIfInBounds_toArray, List.set_cons_zero, List.set_cons_succ]
      refine wpAnyH_take (i := 6) (oi := { dst := some 25, op := Op.lookup 64 (Operand.tmp 23) (Operand.tmp 24) false, type := 106, pos := "disk.go:188", after := #[{ on := 4, ground := Ground.data }, { on := 5, ground := Ground.data }], guard := none }) (v := ?_) rfl (by kernel_rfl) (by kernel_rfl) (by kernel_rfl) (fun _ _ _ h => h) (Or.inl ⟨by rfl, ?_⟩) (by assumption) ?_
      rotate_left
      · intro w hSw; (try dsimp only at hSw); go_simp
        try with_reducible rfl
      try simp only [Act.put, List.setIfInBounds_toArray, List.set_cons_zero, List.set_cons_succ]
      refine wpAnyH_take (i := 7) (oi := { dst := some 26, op := Op.move (Operand.tmp 5), type := 9, pos := "disk.go:188", after := #[], guard := none }) (v := ?_) rfl (by kernel_rfl) (by kernel_rfl) (by kernel_rfl) (fun _ _ _ h => h) (Or.inl ⟨by rfl, ?_⟩) (by assumption) ?_
      rotate_left
      · intro w hSw; (try dsimp only at hSw); go_simp
        try with_reducible rfl
      try simp only [Act.put, List.setIfInBounds_toArray, List.set_cons_zero, List.set_cons_succ]
      refine wpAnyH_ready (rs := [0, 8]) (by kernel_rfl) (by simp) ?_
      refine AllReadyH.cons (o := { dst := some 19, op := Op.load 139 (Operand.tmp 3), type := 139, pos := "disk.go:188", after := #[], guard := none }) rfl (fun K hK => ?_) (AllReadyH.cons (o := { dst := some 27, op := Op.call { callee := Callee.value (Operand.func 83), args := #[Operand.tmp 25, Operand.tmp 26], argTypes := #[106, 9] }, type := 102, pos := "disk.go:188", after := #[{ on := 6, ground := Ground.data }, { on := 7, ground := Ground.data }], guard := none }) rfl (fun K hK => ?_) (AllReadyH.nil))
      · skip
        go_simp
        refine hK.out _ _ (HS.out _ (hC4.out _ (grown_refl _ _))) (fun hHeld => ?_)
        clear hK K
        try simp only [Act.put, List.setIfInBounds_toArray, List.set_cons_zero, List.set_cons_succ]
        refine wpAnyH_ready (rs := [8]) (by kernel_rfl) (by simp) ?_
        refine AllReadyH.cons (o := { dst := some 27, op := Op.call { callee := Callee.value (Operand.func 83), args := #[Operand.tmp 25, Operand.tmp 26], argTypes := #[106, 9] }, type := 102, pos := "disk.go:188", after := #[{ on := 6, ground := Ground.data }, { on := 7, ground := Ground.data }], guard := none }) rfl (fun K hK => ?_) (AllReadyH.nil)
        go_simp
        go_at_call 83
        refine hto.mono ?_
        rintro e w4 ⟨rfl, hg4⟩
        have kz4 := hgd _ hg4
        have hg5 := grown_trans hg4 (alloc_grown w4 (.cells #[.string ⟨s.toArray⟩, .int .i64 x1, .int .i64 x2, .bool x3, .bool x4] 102)) (by simp)
        have kz5 := hgd _ hg5
        try go_simp
        refine hK.out _ _ (HS.out _ (hC4.out _ hg4)) (fun hHeld => ?_)
        clear hK K
        try simp only [Act.put, List.setIfInBounds_toArray, List.set_cons_zero, List.set_cons_succ]
        refine wpAnyH_ready (rs := [9]) (by kernel_rfl) (by simp) ?_
        refine AllReadyH.cons (o := { dst := some 28, op := Op.buildSlice 139 1 #[(0, Operand.tmp 27)], type := 139, pos := "disk.go:188", after := #[{ on := 8, ground := Ground.data }], guard := none }) rfl (fun K hK => ?_) (AllReadyH.nil)
        go_simp
        refine hK.out _ _ (HS.out _ (hC4.out _ hg5)) (fun hHeld => ?_)
        clear hK K
        try simp only [Act.put, List.setIfInBounds_toArray, List.set_cons_zero, List.set_cons_succ]
        refine wpAnyH_ready (rs := [10]) (by kernel_rfl) (by simp) ?_
        refine AllReadyH.cons (o := { dst := some 29, op := Op.call { callee := Callee.builtin Builtin.append, args := #[Operand.tmp 19, Operand.tmp 28], argTypes := #[139, 139] }, type := 139, pos := "disk.go:188", after := #[{ on := 0, ground := Ground.data }, { on := 9, ground := Ground.data }, { on := 8, ground := Ground.chain }], guard := none }) rfl (fun K hK => ?_) (AllReadyH.nil)
        refine step_append_td (by rfl) (by rfl) (.tmp 19) (.tmp 28) (by rfl) w3.heap.size ro i rc _ (by rfl) (hT.kept (grown_trans (grown_drew wr none) hg5 (by simp)) (by cases ro <;> simp [blk])) ⟨⟨s.toArray⟩, x1, x2, x3, x4⟩ w4.heap.size (by rfl) (fun j hj => by rw [cell_at (World.alloc_heap_new w4 _)]; simp [Td.cells]) (by omega) (Nat.le_trans hsr hg5.size) ?_
        intro ro' rc' w6 hT6 hg6
        have hg7 : wr.grownBy w6 (blk ro) := grown_trans (grown_any (grown_trans (grown_drew wr none) hg5 (by simp)) (blk ro)) hg6 (fun k hk => Or.inl hk)
        have kz6 := hg7.cell kz (fun e => hrz e.symm)
        have fz6 : w6.frozen? ⟨z, 0, none⟩ = false := (World.frozen?_of_block (w := wr) (a := ⟨z, 0, none⟩) (hg7.block z hzl (fun e => hrz e.symm))).trans fz
        refine hK.out _ _ (HS.out _ (hC6.out _ hg7)) (fun hHeld => ?_)
        clear hK K
        try simp only [Act.put, List.setIfInBounds_toArray, List.set_cons_zero, List.set_cons_succ]
        refine wpAnyH_ready (rs := [11]) (by kernel_rfl) (by simp) ?_
        refine AllReadyH.cons (o := { dst := none, op := Op.store 139 (Operand.tmp 3) (Operand.tmp 29), type := 0, pos := "disk.go:188", after := #[{ on := 10, ground := Ground.data }, { on := 10, ground := Ground.chain }, { on := 0, ground := Ground.phase }, { on := 1, ground := Ground.phase }, { on := 2, ground := Ground.phase }, { on := 3, ground := Ground.phase }, { on := 4, ground := Ground.phase }, { on := 5, ground := Ground.phase }, { on := 6, ground := Ground.phase }, { on := 7, ground := Ground.phase }, { on := 8, ground := Ground.phase }, { on := 9, ground := Ground.phase }, { on := 10, ground := Ground.phase }], guard := none }) rfl (fun K hK => ?_) (AllReadyH.nil)
        go_simp
        refine hK.out _ _ (HS.out _ ((hC6.out _ hg7).trans ((setCell_chg w6 z 0 _).mono (fun k _ e => Or.inl (e.trans hz.out.symm))))) (fun hHeld => ?_)
        clear hK K
        try simp only [Act.put, List.setIfInBounds_toArray, List.set_cons_zero, List.set_cons_succ]
        refine wpAnyH_done (by kernel_rfl) ?_ _
        have hb7 := hbx6.out _ hg7 kz6 (.slice ro' (i + 1) rc')
        have hT7 := hT6.kept (setCell_grown w6 z 0 (.slice ro' (i + 1) rc')) (by cases hq : blk ro' with | none => exact .inl rfl | some q => right; have := (hT6.from_base q hq).1; intro e; cases e; have := hz.out; omega)
        have hc7 := hc6.out _ hg7 (.slice ro' (i + 1) rc')
        clear kz fz kz4 kz5 hto hgd hHeld HS hC4 hC6 hbx6 hc6 hg4 hg5 hg6 hg7 hT6
        clear hzz
        obtain rfl := hz.out
        clear hz
        go_wp2
        go_roundw
        case rel => exact ⟨i + 1, ro', rc', by go_num, by omega, hb7, by rw [hks1, List.map_append, List.map_singleton, htw]; exact hT7, hc7⟩
        case measure => simp [intOf]; omega
      · skip
        go_simp
        go_at_call 83
        refine hto.mono ?_
        rintro e w4 ⟨rfl, hg4⟩
        have kz4 := hgd _ hg4
        have hg5 := grown_trans hg4 (alloc_grown w4 (.cells #[.string ⟨s.toArray⟩, .int .i64 x1, .int .i64 x2, .bool x3, .bool x4] 102)) (by simp)
        have kz5 := hgd _ hg5
        try go_simp
        refine hK.out _ _ (HS.out _ (hC4.out _ hg4)) (fun hHeld => ?_)
        clear hK K
        try simp only [Act.put, List.setIfInBounds_toArray, List.set_cons_zero, List.set_cons_succ]
        refine wpAnyH_ready (rs := [0, 9]) (by kernel_rfl) (by simp) ?_
        refine AllReadyH.cons (o := { dst := some 19, op := Op.load 139 (Operand.tmp 3), type := 139, pos := "disk.go:188", after := #[], guard := none }) rfl (fun K hK => ?_) (AllReadyH.cons (o := { dst := some 28, op := Op.buildSlice 139 1 #[(0, Operand.tmp 27)], type := 139, pos := "disk.go:188", after := #[{ on := 8, ground := Ground.data }], guard := none }) rfl (fun K hK => ?_) (AllReadyH.nil))
        · skip
          go_simp
          refine hK.out _ _ (HS.out _ (hC4.out _ hg4)) (fun hHeld => ?_)
          clear hK K
          try simp only [Act.put, List.setIfInBounds_toArray, List.set_cons_zero, List.set_cons_succ]
          refine wpAnyH_ready (rs := [9]) (by kernel_rfl) (by simp) ?_
          refine AllReadyH.cons (o := { dst := some 28, op := Op.buildSlice 139 1 #[(0, Operand.tmp 27)], type := 139, pos := "disk.go:188", after := #[{ on := 8, ground := Ground.data }], guard := none }) rfl (fun K hK => ?_) (AllReadyH.nil)
          go_simp
          refine hK.out _ _ (HS.out _ (hC4.out _ hg5)) (fun hHeld => ?_)
          clear hK K
          try simp only [Act.put, List.setIfInBounds_toArray, List.set_cons_zero, List.set_cons_succ]
          refine wpAnyH_ready (rs := [10]) (by kernel_rfl) (by simp) ?_
          refine AllReadyH.cons (o := { dst := some 29, op := Op.call { callee := Callee.builtin Builtin.append, args := #[Operand.tmp 19, Operand.tmp 28], argTypes := #[139, 139] }, type := 139, pos := "disk.go:188", after := #[{ on := 0, ground := Ground.data }, { on := 9, ground := Ground.data }, { on := 8, ground := Ground.chain }], guard := none }) rfl (fun K hK => ?_) (AllReadyH.nil)
          refine step_append_td (by rfl) (by rfl) (.tmp 19) (.tmp 28) (by rfl) w3.heap.size ro i rc _ (by rfl) (hT.kept (grown_trans (grown_drew wr none) hg5 (by simp)) (by cases ro <;> simp [blk])) ⟨⟨s.toArray⟩, x1, x2, x3, x4⟩ w4.heap.size (by rfl) (fun j hj => by rw [cell_at (World.alloc_heap_new w4 _)]; simp [Td.cells]) (by omega) (Nat.le_trans hsr hg5.size) ?_
          intro ro' rc' w6 hT6 hg6
          have hg7 : wr.grownBy w6 (blk ro) := grown_trans (grown_any (grown_trans (grown_drew wr none) hg5 (by simp)) (blk ro)) hg6 (fun k hk => Or.inl hk)
          have kz6 := hg7.cell kz (fun e => hrz e.symm)
          have fz6 : w6.frozen? ⟨z, 0, none⟩ = false := (World.frozen?_of_block (w := wr) (a := ⟨z, 0, none⟩) (hg7.block z hzl (fun e => hrz e.symm))).trans fz
          refine hK.out _ _ (HS.out _ (hC6.out _ hg7)) (fun hHeld => ?_)
          clear hK K
          try simp only [Act.put, List.setIfInBounds_toArray, List.set_cons_zero, List.set_cons_succ]
          refine wpAnyH_ready (rs := [11]) (by kernel_rfl) (by simp) ?_
          refine AllReadyH.cons (o := { dst := none, op := Op.store 139 (Operand.tmp 3) (Operand.tmp 29), type := 0, pos := "disk.go:188", after := #[{ on := 10, ground := Ground.data }, { on := 10, ground := Ground.chain }, { on := 0, ground := Ground.phase }, { on := 1, ground := Ground.phase }, { on := 2, ground := Ground.phase }, { on := 3, ground := Ground.phase }, { on := 4, ground := Ground.phase }, { on := 5, ground := Ground.phase }, { on := 6, ground := Ground.phase }, { on := 7, ground := Ground.phase }, { on := 8, ground := Ground.phase }, { on := 9, ground := Ground.phase }, { on := 10, ground := Ground.phase }], guard := none }) rfl (fun K hK => ?_) (AllReadyH.nil)
          go_simp
          refine hK.out _ _ (HS.out _ ((hC6.out _ hg7).trans ((setCell_chg w6 z 0 _).mono (fun k _ e => Or.inl (e.trans hz.out.symm))))) (fun hHeld => ?_)
          clear hK K
          try simp only [Act.put, List.setIfInBounds_toArray, List.set_cons_zero, List.set_cons_succ]
          refine wpAnyH_done (by kernel_rfl) ?_ _
          have hb7 := hbx6.out _ hg7 kz6 (.slice ro' (i + 1) rc')
          have hT7 := hT6.kept (setCell_grown w6 z 0 (.slice ro' (i + 1) rc')) (by cases hq : blk ro' with | none => exact .inl rfl | some q => right; have := (hT6.from_base q hq).1; intro e; cases e; have := hz.out; omega)
          have hc7 := hc6.out _ hg7 (.slice ro' (i + 1) rc')
          clear kz fz kz4 kz5 hto hgd hHeld HS hC4 hC6 hbx6 hc6 hg4 hg5 hg6 hg7 hT6
          clear hzz
          obtain rfl := hz.out
          clear hz
          go_wp2
          go_roundw
          case rel => exact ⟨i + 1, ro', rc', by go_num, by omega, hb7, by rw [hks1, List.map_append, List.map_singleton, htw]; exact hT7, hc7⟩
          case measure => simp [intOf]; omega
        · skip
          go_simp
          refine hK.out _ _ (HS.out _ (hC4.out _ hg5)) (fun hHeld => ?_)
          clear hK K
          try simp only [Act.put, List.setIfInBounds_toArray, List.set_cons_zero, List.set_cons_succ]
          refine wpAnyH_ready (rs := [0]) (by kernel_rfl) (by simp) ?_
          refine AllReadyH.cons (o := { dst := some 19, op := Op.load 139 (Operand.tmp 3), type := 139, pos := "disk.go:188", after := #[], guard := none }) rfl (fun K hK => ?_) (AllReadyH.nil)
          go_simp
          refine hK.out _ _ (HS.out _ (hC4.out _ hg5)) (fun hHeld => ?_)
          clear hK K
          try simp only [Act.put, List.setIfInBounds_toArray, List.set_cons_zero, List.set_cons_succ]
          refine wpAnyH_ready (rs := [10]) (by kernel_rfl) (by simp) ?_
          refine AllReadyH.cons (o := { dst := some 29, op := Op.call { callee := Callee.builtin Builtin.append, args := #[Operand.tmp 19, Operand.tmp 28], argTypes := #[139, 139] }, type := 139, pos := "disk.go:188", after := #[{ on := 0, ground := Ground.data }, { on := 9, ground := Ground.data }, { on := 8, ground := Ground.chain }], guard := none }) rfl (fun K hK => ?_) (AllReadyH.nil)
          refine step_append_td (by rfl) (by rfl) (.tmp 19) (.tmp 28) (by rfl) w3.heap.size ro i rc _ (by rfl) (hT.kept (grown_trans (grown_drew wr none) hg5 (by simp)) (by cases ro <;> simp [blk])) ⟨⟨s.toArray⟩, x1, x2, x3, x4⟩ w4.heap.size (by rfl) (fun j hj => by rw [cell_at (World.alloc_heap_new w4 _)]; simp [Td.cells]) (by omega) (Nat.le_trans hsr hg5.size) ?_
          intro ro' rc' w6 hT6 hg6
          have hg7 : wr.grownBy w6 (blk ro) := grown_trans (grown_any (grown_trans (grown_drew wr none) hg5 (by simp)) (blk ro)) hg6 (fun k hk => Or.inl hk)
          have kz6 := hg7.cell kz (fun e => hrz e.symm)
          have fz6 : w6.frozen? ⟨z, 0, none⟩ = false := (World.frozen?_of_block (w := wr) (a := ⟨z, 0, none⟩) (hg7.block z hzl (fun e => hrz e.symm))).trans fz
          refine hK.out _ _ (HS.out _ (hC6.out _ hg7)) (fun hHeld => ?_)
          clear hK K
          try simp only [Act.put, List.setIfInBounds_toArray, List.set_cons_zero, List.set_cons_succ]
          refine wpAnyH_ready (rs := [11]) (by kernel_rfl) (by simp) ?_
          refine AllReadyH.cons (o := { dst := none, op := Op.store 139 (Operand.tmp 3) (Operand.tmp 29), type := 0, pos := "disk.go:188", after := #[{ on := 10, ground := Ground.data }, { on := 10, ground := Ground.chain }, { on := 0, ground := Ground.phase }, { on := 1, ground := Ground.phase }, { on := 2, ground := Ground.phase }, { on := 3, ground := Ground.phase }, { on := 4, ground := Ground.phase }, { on := 5, ground := Ground.phase }, { on := 6, ground := Ground.phase }, { on := 7, ground := Ground.phase }, { on := 8, ground := Ground.phase }, { on := 9, ground := Ground.phase }, { on := 10, ground := Ground.phase }], guard := none }) rfl (fun K hK => ?_) (AllReadyH.nil)
          go_simp
          refine hK.out _ _ (HS.out _ ((hC6.out _ hg7).trans ((setCell_chg w6 z 0 _).mono (fun k _ e => Or.inl (e.trans hz.out.symm))))) (fun hHeld => ?_)
          clear hK K
          try simp only [Act.put, List.setIfInBounds_toArray, List.set_cons_zero, List.set_cons_succ]
          refine wpAnyH_done (by kernel_rfl) ?_ _
          have hb7 := hbx6.out _ hg7 kz6 (.slice ro' (i + 1) rc')
          have hT7 := hT6.kept (setCell_grown w6 z 0 (.slice ro' (i + 1) rc')) (by cases hq : blk ro' with | none => exact .inl rfl | some q => right; have := (hT6.from_base q hq).1; intro e; cases e; have := hz.out; omega)
          have hc7 := hc6.out _ hg7 (.slice ro' (i + 1) rc')
          clear kz fz kz4 kz5 hto hgd hHeld HS hC4 hC6 hbx6 hc6 hg4 hg5 hg6 hg7 hT6
          clear hzz
          obtain rfl := hz.out
          clear hz
          go_wp2
          go_roundw
          case rel => exact ⟨i + 1, ro', rc', by go_num, by omega, hb7, by rw [hks1, List.map_append, List.map_singleton, htw]; exact hT7, hc7⟩
          case measure => simp [intOf]; omega
    · obtain rfl : i = ss.length := by omega
      have hd' : decide ((ss.length : Int) < (ss.length : Int)) = false := by simp
      rw [List.take_of_length_le (by omega)] at hT
      have hgw : w.grownBy wr none := ((Chg.of_grown hg3 _).trans hc).grown (fun k hk e => by omega)
      have hs3 := hg3.size
      go_wp2
      go_ret
      exact ⟨ss, ro, rc, hperm, rfl, hbr, by rw [hks]; exact ⟨hT.len, hT.row.1, by rcases hT.row.2 with h2 | ⟨g, c, cur, hv, hg, r⟩; exact .inl h2; exact .inr ⟨g, c, cur, hv, by omega, r⟩⟩, hgw⟩
end
end Go.Proofs.Ytgkeflgfnagnjaa

/-
  Crash of any disk that is there.
-/
namespace Go.Proofs.Ytgkeflgfnagnjaa
open Go.RowKit Go.Maps Go.Shelf
set_option linter.unusedVariables false
set_option maxRecDepth 100000
set_option linter.unusedSectionVars false
variable [FO : Inhabited (Nat → Prop)]
attribute [local go_sem] Oper.semAt_some

/-- The files of a disk, by name, with their bytes. -/
def FilesB (w : World) (D : DataW Unit) (T : List UInt8 → Td) (B : ByteArray → List UInt8) : Prop :=
  ∀ s ∈ strKeys D, (T s).s = ⟨s.toArray⟩ ∧ s.length ≤ 32 ∧ (∃ la : Nat, (T s).la = (la : Int) ∧ la ≤ (T s).sz) ∧ (T s).sz ≤ 16777216 ∧ ∃ g bo bc, at? D ⟨s.toArray⟩ (some g) ∧ Fl w g bo (T s).sz bc (T s).la (T s).th (T s).nl ∧ Bs w bo (T s).sz bc (B ⟨s.toArray⟩) ∧ (∀ a, bo = some a → ∃ q i, a = ⟨q, i, none⟩) ∧ ∀ q, blk bo = some q → Ty w q 5
theorem FilesB.files {w : World} {D : DataW Unit} {T : List UInt8 → Td} {B : ByteArray → List UInt8} (h : FilesB w D T B) : Files w D T := fun s hs => by
  obtain ⟨h1, h2, _, _, g, bo, bc, h3, h4, _⟩ := h s hs
  exact ⟨h1, h2, g, bo, bc, h3, h4⟩
theorem FilesB.chg {w w' : World} {D : DataW Unit} {T : List UInt8 → Td} {B : ByteArray → List UInt8} {S : Nat → Prop} (h : FilesB w D T B) (hc : Chg w w' S) (hS : ∀ k, k < w.heap.size → S k → ¬ Ty w k 112 ∧ ¬ Ty w k 5) : FilesB w' D T B := fun s hs => by
  obtain ⟨h1, h2, h3, h4, g, bo, bc, h5, h6, h7, h8, h9⟩ := h s hs
  have hn : ∀ q, blk bo = some q → ¬ S q := fun q e k => (hS q (h9 q e).lt k).2 (h9 q e)
  refine ⟨h1, h2, h3, h4, g, bo, bc, h5, h6.chg hc (fun k => (hS g h6.lt k).1 h6.ty), ⟨h7.len, h7.room, h7.top, h7.nil, fun a ha j u hu => hc.cell (h7.cells a ha j u hu) ?_⟩, h8, fun q e => (h9 q e).chg hc (hn q e)⟩
  rw [add_block]
  obtain ⟨q, i, rfl⟩ := h8 a ha
  exact hn q (by rw [ha]; rfl)
theorem Ds.grown {w w' : World} {b m : Nat} {fs : List (Int × Int)} {st : Int} {n : Nat} {D : DataW Unit} (h : Ds w b m fs st n D) (hg : w.grownBy w' none) : Ds w' b m fs st n D := h.chg (Chg.of_grown hg (fun _ => False)) (fun e => e) (fun e => e) (fun k e => e.elim)
theorem FilesB.grown {w w' : World} {D : DataW Unit} {T : List UInt8 → Td} {B : ByteArray → List UInt8} (h : FilesB w D T B) (hg : w.grownBy w' none) : FilesB w' D T B := h.chg (Chg.of_grown hg (fun _ => False)) (fun k _ e => e.elim)
theorem KeepsFrom.of_chg {B : Nat} {W V : World} {S : Nat → Prop} (hc : Chg W V S) (hS : ∀ k, S k → k < B) : KeepsFrom B W V :=
  ⟨hc.size, fun k o hB hk ho => (hc.block k (lt_of_heap hk) (fun e => by have := hS k e; omega)).trans hk⟩
theorem Chg.ext {w A B : World} {S : Nat → Prop} {row : Option Nat} (h : Chg w A S) (hg : A.grownBy B row) (hr : ∀ q, row = some q → w.heap.size ≤ q) : Chg w B S :=
  ⟨hg.os.trans h.os, hg.tape.trans h.tape, hg.output.trans h.output, Nat.le_trans h.size hg.size, fun k hk hn => (hg.block k (Nat.lt_of_lt_of_le hk h.size) (fun e => by have := hr k e.symm; omega)).trans (h.block k hk hn)⟩
theorem not_cells_ty {w : World} {k : Nat} {t : TypeId} (h : ∃ o : Obj, w.heap[k]? = some o ∧ o.isCells = false) (ht : Ty w k t) : False := by
  obtain ⟨o, h1, h2⟩ := h
  obtain ⟨cs, fr, h3⟩ := ht
  rw [h1] at h3
  cases h3
  cases h2
/-- Between two rounds. -/
def Btw (w6 : World) (za zp : Nat) (o : Option Addr) (pn pc : Nat) (l : List Int) (nm base : Nat) (B : ByteArray → List UInt8) (pre : List Td) (W : World) : Prop :=
  ∃ n' D', Pk W za zp (crashF l pn pre).2 o pn pc l ∧ Mp W nm n' D' ∧ n' ≤ pre.length ∧ Kept W base D' (crashF l pn pre).1 B ∧ Chg w6 W (fun q => q = za ∨ q = nm)
theorem Btw.own {w6 : World} {za zp : Nat} {o : Option Addr} {pn pc : Nat} {l : List Int} {nm : Nat} {B : ByteArray → List UInt8} (ho : ∀ a, o = some a → a.block < w6.heap.size) (hn : nm < w6.heap.size) : OwnFrom w6.heap.size (Btw w6 za zp o pn pc l nm w6.heap.size B) := by
  rintro s A V row ⟨n', D', h1, h2, h3, h4, h5⟩ hg hr
  refine ⟨n', D', ⟨box_own h1.b0 hg (fun r e => (hr r e).2), box_own h1.b1 hg (fun r e => (hr r e).2), ⟨h1.sl.len, h1.sl.room, h1.sl.top, h1.sl.pl, h1.sl.nil, fun b i e j x hx => hg.cell (h1.sl.k b i e j x hx) (fun e9 => by have := (hr _ e9.symm).1; have := ho _ e; simp only at *; omega)⟩, h1.le, h1.ne, h1.na⟩, h2.chg (chg_grown hg) (fun e => by have := (hr _ e).1; omega), h3, h4.chg (chg_grown hg) (fun k t e _ ht => not_cells_ty (hr k e).2 ht), h5.ext hg (fun q e => (hr q e).1)⟩
section
variable {w w' : World} {b m : Nat} {fs : List (Int × Int)} {st : Int} {n : Nat} {D : DataW Unit}

set_option maxRecDepth 100000 in
set_option maxHeartbeats 4000000 in
theorem crash_any (h : Ds w b m fs st n D) (T : List UInt8 → Td) (B : ByteArray → List UInt8) (hF : FilesB w D T B) (hD : Maps.size D ≤ 4096) (o : Option Addr) (pn pc : Nat) (l : List Int) (hl : Is' w o pn pc l) (hb : ∀ a, o = some a → a.block < w.heap.size) (hpos : ∀ x ∈ l, 0 ≤ x ∧ x < 9223372036854775808) (hpn : pn ≤ 4611686018427387904) :
    Calls Try.prog 27 #[.pointer (some ⟨b, 0, none⟩), .agg #[.slice o pn pc]] w fun e w' => ∃ (ss : List (List UInt8)) (nb nm n' base : Nat) (D' : DataW Unit), ss.Perm (strKeys D) ∧ e = .returned (.tuple #[.pointer (some ⟨nb, 0, none⟩), .int .i64 0]) ∧ Ds w' nb nm [] 0 n' D' ∧ n' ≤ ss.length ∧ Kept w' base D' (crashF l pn ((ss.mergeSort (fun x y => decide (x ≤ y))).map T)).1 B ∧ w.heap.size ≤ nb ∧ w.heap.size ≤ base ∧ nb < base ∧ (nm < base ∧ w.heap.size ≤ nm) ∧ w.grownBy w' none := by
  obtain ⟨fo, fn, fc, hd⟩ := h.dk
  have h0 := hd.hd.c0
  have hg1 := alloc_grown w (.cells #[.pointer (some ⟨b, 0, none⟩)] 26)
  have hg2 := alloc_grown (w.alloc (.cells #[.pointer (some ⟨b, 0, none⟩)] 26)) (.cells #[.slice o pn pc] 35)
  have hG2 := grown_trans hg1 hg2 (by simp)
  have b2 := box_own (Boxed.new w 26 (.pointer (some ⟨b, 0, none⟩))) hg2 (fun r e => by cases e)
  have b3 := Boxed.new (w.alloc (.cells #[.pointer (some ⟨b, 0, none⟩)] 26)) 35 (.slice o pn pc)
  rw [World.size_alloc] at b3
  have k2 := b2.cell
  have k3 := b3.cell
  have h02 := hG2.cell h0 (by simp)
  refine (callsIn_wide (n := 5)).1 ?_
  refine callsIn_of_wp_marks Try.func27 rfl trivial ?_
  simp only [Try.ntmps27, List.size_toArray, List.length_cons, List.length_nil, Nat.reduceAdd, Nat.reduceSub, Array.replicate_succ, Array.replicate_zero, List.push_toArray, List.append_toArray, List.nil_append, List.cons_append]
  gi_wp2_with fail
  generalize (w.alloc (.cells #[.pointer (some ⟨b, 0, none⟩)] 26)).alloc (.cells #[.slice o pn pc] 35) = w2 at *
  clear hg1 hg2
  refine ⟨trivial, callsIn_wide.2 ((made_yes _ _ _ h02).mono ?_)⟩
  rintro e w2 ⟨rfl, rfl⟩
  have hl2 := hl.grown hG2
  have hcell : ∀ i x, l[i]? = some x → ∃ q f, o = some ⟨q, f, none⟩ ∧ w2.cell? ⟨q, f + i, none⟩ = some (.int .i64 x) := fun i x hx => by
    have hi := (List.getElem?_eq_some_iff.1 hx).1
    cases o with
    | none => have := hl2.nil rfl; have := hl2.len; omega
    | some a => obtain ⟨q, f, rfl⟩ := hl2.pl a rfl; exact ⟨q, f, rfl, hl2.k q f rfl i x hx⟩
  have hlen := hl2.len
  gi_wp2_with fail
  gi_loopw [7, 20] (fun _ i wr => ∃ k : Nat, i = .int .i64 k ∧ k ≤ pn ∧ wr = w2) (fun _ i _ => pn - (intOf i).toNat)
  case atStart => exact ⟨0, rfl, Nat.zero_le _, rfl⟩
  case round =>
    obtain ⟨k, rfl, hk, rfl⟩ := hrel
    by_cases hlt : k < pn
    · have hdd : decide ((k : Int) < (pn : Int)) = true := by simp; omega
      obtain ⟨x, hx⟩ : ∃ x, l[k]? = some x := ⟨_, List.getElem?_eq_getElem (by omega)⟩
      obtain ⟨q, f, rfl, hq⟩ := hcell k x hx
      have hx0 := (hpos x (List.mem_of_getElem? hx)).1
      have i1 : (0 : Int) ≤ (k : Int) := by omega
      have i2 : (k : Int) < (pn : Int) := by omega
      have hdx : decide (x < 0) = false := by simp; omega
      gi_wp2
      go_roundw
      case rel => exact ⟨k + 1, by go_num, by omega, trivial⟩
      case measure => simp [intOf]; omega
    · obtain rfl : k = pn := by omega
      have hdd : decide ((k : Int) < (k : Int)) = false := by simp
      clear hcell
      have hb2 : ∀ a, o = some a → a.block < wr.heap.size := fun a e => Nat.lt_of_lt_of_le (hb a e) hG2.size
      gi_wp2_with fail
      refine wpIn_mono (wpIn_wide.2 (reg9 _ o k pc l hl2 hb2 k3 _ _ _ _ _ _ _ _ _ _ _ _ _ _ _ _ _ _ _ _ _ _ _ _ _ _ _ _ _ _ _ _ _ _ _ _ _ _ _ _ _ _ _ _ _ _ _ _ _ _ _ _ _ _ _ _ _ _ _ _ _ _ _ _ _)) ?_
      rintro e a' w5 ⟨rfl, z8, z9, nb, nm, za, zp, u28, u29, rfl, hE, hP, h8, h9, hg5, lb, lm, lza, lzp⟩
      have hG5 : w.grownBy w5 none := grown_trans hG2 hg5 (by simp)
      have b25 := box_own b2 hg5 (fun r e => by cases e)
      have k25 := b25.cell
      have hal := all_any (h.grown hG5) T (hF.grown hG5).files hD
      have y2l := b2.lt
      have hs5 := hg5.size
      have hml : m < w.heap.size := hd.mp.lt
      have hbl : b < w.heap.size := hd.hd.lt
      clear k2 k3 h02 b3
      gi_wp2_with fail
      refine ⟨trivial, callsIn_wide.2 (hal.mono ?_)⟩
      clear hal
      rintro e w6 ⟨ss, ao, cap, hperm, rfl, hbz, hTw, hg6⟩
      obtain ⟨z, hz⟩ : ∃ z, w5.heap.size = z := ⟨_, rfl⟩
      rw [hz] at hbz hTw ⊢
      have hs6 := hg6.size
      have hG6 : w.grownBy w6 none := grown_trans hG5 hg6 (by simp)
      have hE6 := hE.grown hg6
      have hP6 := hP.grown hg6
      have h86 := box_own h8 hg6 (fun r e => by cases e)
      have h96 := box_own h9 hg6 (fun r e => by cases e)
      have b26 := box_own b25 hg6 (fun r e => by cases e)
      have hDs6 := h.grown hG6
      have hF6 := hF.grown hG6
      have hN : ss.length ≤ 4096 := by rw [hperm.length_eq]; exact Nat.le_trans (strKeys_len D) hD
      have hmem : ∀ (i : Nat) (t : Td), ((ss.mergeSort (fun x y => decide (x ≤ y))).map T)[i]? = some t → ∃ s ∈ strKeys D, T s = t := fun i t ht => by
        have h1 := List.mem_of_getElem? ht
        obtain ⟨s, h2, h3⟩ := List.mem_map.1 h1
        exact ⟨s, hperm.mem_iff.1 (by simpa using h2), h3⟩
      have hfl : ((ss.mergeSort (fun x y => decide (x ≤ y))).map T).length = ss.length := by simp
      have hfe0 : ∃ files, Hid ((ss.mergeSort (fun x y => decide (x ≤ y))).map T = files) := ⟨_, rfl⟩
      obtain ⟨files, hfe⟩ := hfe0
      rw [hfe.out] at hTw hmem hfl
      have hel := hE6.hd.lt
      have hnl := hE6.mp.lt
      have hzal := hP6.b0.lt
      have lz5 : za < w5.heap.size := hP.b0.lt
      have ln5 : nm < w5.heap.size := hE.mp.lt
      have hzl : z < w6.heap.size := hbz.lt
      have tza := boxed_ty hP6.b0
      have ho6 : ∀ a, o = some a → a.block < w6.heap.size := fun a e => Nat.lt_of_lt_of_le (hb2 a e) (by omega)
      have hKl : ∀ q, (q = z ∨ blk ao = some q) → q < w6.heap.size := fun q e => by
        rcases e with rfl | e
        · exact hzl
        · exact (hTw.from_base q e).2
      have hKn : ∀ q, (q = z ∨ blk ao = some q) → ¬ (q = za ∨ q = nm) := fun q e => by
        have : z ≤ q := by
          rcases e with rfl | e
          · exact Nat.le_refl _
          · exact (hTw.from_base q e).1
        omega
      clear b2 b25 k25 hE hP h8 h9 hdd hl2 hlen
      gi_wp2_with fail
      apply wpIn_rangeFunc_told (α := Td) (encs := fun t => #[t.val]) (Kp := Stay (fun q => q = z ∨ blk ao = some q)) (w0 := w6) rfl (by decide) (gf := 84) (lb := #[.pointer (some ⟨z, 0, none⟩)]) rfl trivial (enters_of Try.func84 (by kernel_rfl) rfl)
        (all1_stay 4 (by decide) w6 z z _ ao ss.length cap files hbz hTw (Or.inl rfl) (fun q e => Or.inr e) hKl (by omega)) (fun h1 h2 => h1.trans h2)
        (fun W q o1 o2 hq h1 h2 h3 => ⟨by simp, fun i hi => World.putObj_heap_other (by have := hKl i hi; omega)⟩) (Below.refl _ _) (fun t => rfl)
        (Btw w6 za zp o k pc l nm w6.heap.size B)
        (fun _ _ _ => False)
        (Btw.own ho6 hnl)
        (fun cd s A V row hs hg hr => hs.elim)
        ⟨0, .map [], hP6, hE6.mp, Nat.le_refl _, Kept.no _ _ _, Chg.refl _ _⟩
        (fun pre t a' W => files[pre.length]? = some t ∧ ∃ zf, W.heap[zf]? = some (.cells #[.string t.s, .int .i64 t.sz, .int .i64 t.la, .bool t.th, .bool t.nl] 102) ∧ ∃ v0 v1 v3 v4 v5 v6 v7 v11 v12 v13 v14 v15 v16 v17 v18 v19 v20 v21 v22 v23 v24 v25 v26 v27 v28 v29 v30 v31 v32 v33 v34 v35 v36 v37 v38 v39 v40 v41 v42 v43 v44 v45 v46 v47 v48 v49 v50 v51 v52 v53 v54 v55 v56 v57 v58 v59 v60 v61 v62 v63 v64 : Value, a' = { tmps := #[v0, v1, .pointer (some ⟨w.heap.size, 0, none⟩), v3, v4, v5, v6, v7, .pointer (some ⟨z8, 0, none⟩), .pointer (some ⟨z9, 0, none⟩), .pointer (some ⟨zf, 0, none⟩), v11, v12, v13, v14, v15, v16, v17, v18, v19, v20, v21, v22, v23, v24, v25, v26, v27, v28, v29, v30, v31, v32, v33, v34, v35, v36, v37, v38, v39, v40, v41, v42, v43, v44, v45, v46, v47, v48, v49, v50, v51, v52, v53, v54, v55, v56, v57, v58, v59, v60, v61, v62, v63, v64], defers := [] })
      case hAx =>
        rintro pre t a' _ A V row ⟨t1, zf, t2, t3⟩ hg hr
        exact ⟨t1, zf, heap_kept hg t2 (fun e => not_cells_ty (hr zf e.symm).2 ⟨_, _, t2⟩), t3⟩
      case hassign =>
        intro pre t W K hI hT hK
        simp only [Td.val, toldV]
        have ga := alloc_grown W (.cells #[.string t.s, .int .i64 t.sz, .int .i64 t.la, .bool t.th, .bool t.nl] 102)
        have kf := World.alloc_heap_new W (.cells #[.string t.s, .int .i64 t.sz, .int .i64 t.la, .bool t.th, .bool t.nl] 102)
        have hI2 := Btw.own ho6 hnl pre _ _ none hI ga (fun q e => by cases e)
        have hst : Stay (fun q => q = z ∨ blk ao = some q) W (W.alloc (.cells #[.string t.s, .int .i64 t.sz, .int .i64 t.la, .bool t.th, .bool t.nl] 102)) := Stay.grown ga (fun q hq => by obtain ⟨_, _, _, _, _, _, hc⟩ := hI; exact Nat.lt_of_lt_of_le (hKl q hq) hc.size)
        clear hI
        gi_wp2
        exact hK _ _ ((KeepsOthers.alloc W _).from _) hst hI2 ⟨hT, _, kf, _, _, _, _, _, _, _, _, _, _, _, _, _, _, _, _, _, _, _, _, _, _, _, _, _, _, _, _, _, _, _, _, _, _, _, _, _, _, _, _, _, _, _, _, _, _, _, _, _, _, _, _, _, _, _, _, _, _, _, _, _, rfl⟩
      case hbody =>
        rintro pre t a' W hq ⟨n', D', j1, j2, j3, j4, j5⟩ ⟨t1, zf, t2, v0, v1, v3, v4, v5, v6, v7, v11, v12, v13, v14, v15, v16, v17, v18, v19, v20, v21, v22, v23, v24, v25, v26, v27, v28, v29, v30, v31, v32, v33, v34, v35, v36, v37, v38, v39, v40, v41, v42, v43, v44, v45, v46, v47, v48, v49, v50, v51, v52, v53, v54, v55, v56, v57, v58, v59, v60, v61, v62, v63, v64, rfl⟩
        obtain ⟨s, s1, rfl⟩ := hmem _ _ t1
        have hpl : pre.length < files.length := (List.getElem?_eq_some_iff.1 t1).1
        have hFW := hF6.chg j5 (fun q _ e => by
          rcases e with rfl | rfl
          · exact ⟨fun h9 => h9.ne tza (by decide) rfl, fun h9 => h9.ne tza (by decide) rfl⟩
          · exact ⟨fun h9 => hE6.mp.row h9 rfl, fun h9 => hE6.mp.row h9 rfl⟩)
        obtain ⟨f1, f2, ⟨la, f3, f4⟩, f5, g, bo, bc, f6, f7, f8, f9, f10⟩ := hFW s s1
        rw [← f1] at f6 f8
        have hn8 : ¬ (z8 = za ∨ z8 = nm) := fun e => by
          rcases e with e | e
          · exact (boxed_ty h86).ne tza (by decide) e
          · exact hE6.mp.row (boxed_ty h86) e
        have hn9 : ¬ (z9 = za ∨ z9 = nm) := fun e => by
          rcases e with e | e
          · exact (boxed_ty h96).ne tza (by decide) e
          · exact hE6.mp.row (boxed_ty h96) e
        have hnn : ¬ (nb = za ∨ nb = nm) := fun e => by
          rcases e with e | e
          · exact hE6.ty.ne tza (by decide) e
          · exact hE6.mp.row hE6.ty e
        have hn2 : ¬ (w.heap.size = za ∨ w.heap.size = nm) := by omega
        have hnb : ¬ (b = za ∨ b = nm) := by omega
        have hnm : ¬ (m = za ∨ m = nm) := by omega
        obtain ⟨fo6, fn6, fc6, hd6⟩ := hDs6.dk
        have hne : za ≠ nm := fun e => hE6.mp.row tza e
        refine wpIn_mono (round33 (by kernel_rfl) _ W w.heap.size z8 z9 zf b m n nb nm n' za zp _ w6.heap.size g la D D' o k pc l (T s) _ B bo bc
          ((j5.block _ b26.lt hn2).trans b26) (hd6.hd.chg j5 hnb).c0 (fun e => hnb (Or.inl e)) (hd6.mp.chg j5 hnm)
          ((j5.block _ h86.lt hn8).trans h86) (hE6.hd.chg j5 hnn).c0 (hE6.ty.chg j5 hnn) j2 (by unfold maxLen; omega)
          ((j5.block _ h96.lt hn9).trans h96) j1 hpos hpn (fun a e => by have := hb2 a e; constructor <;> omega)
          t2 f3 f4 f5 (by rw [f1]; show s.toArray.size ≤ 32; simpa using f2) f6 f7 f8 f9 f10 j4 ⟨hzal, hnl⟩ hne j5.size _ _ _ _ _ _ _ _ _ _ _ _ _ _ _ _ _ _ _ _ _ _ _ _ _ _ _ _ _ _ _ _ _ _ _ _ _ _ _ _ _ _ _ _ _ _ _ _ _ _ _ _ _ _ _ _ _ _ _ _ _) ?_
        rintro e a'' V ⟨rfl, n'', D'', r1, r2, r3, r4, r5⟩
        refine ⟨KeepsFrom.of_chg r5 (fun q e => by omega), Stay.chg r5 (fun q e => Nat.lt_of_lt_of_le (hKl q e) j5.size) hKn, n'', D'', ?_, r2, by simp; omega, ?_, j5.trans r5⟩
        · rw [crashF_snoc]; exact r1
        · rw [crashF_snoc]; exact r4
      case hdone =>
        rintro Dd xs W hDd hxs ⟨n', D', j1, j2, j3, j4, j5⟩ hK
        have hn8 : ¬ (z8 = za ∨ z8 = nm) := fun e => by
          rcases e with e | e
          · exact (boxed_ty h86).ne tza (by decide) e
          · exact hE6.mp.row (boxed_ty h86) e
        have hnn : ¬ (nb = za ∨ nb = nm) := fun e => by
          rcases e with e | e
          · exact hE6.ty.ne tza (by decide) e
          · exact hE6.mp.row hE6.ty e
        have k8 := j5.cell h86.cell hn8
        have hpo := grownBy_putObj' W Dd (.deferred none)
        have hC := j5.ext hpo (fun q e => by cases e; omega)
        have hDn : ∀ t, ¬ Ty W Dd t := fun t ht => not_cells_ty ⟨_, hK, rfl⟩ ht
        have hM' := j2.chg (chg_grown hpo) (fun e => by cases e; omega)
        have hK' := j4.chg (chg_grown hpo) (fun q t e _ ht => by cases e; exact hDn t ht)
        have hE' := hE6.hd.chg hC hnn
        have hGf : w.grownBy _ none := ((Chg.of_grown hG6 _).trans hC).grown (fun q hq e => by omega)
        gi_wp2_with fail
        refine ⟨by simp, .inl ⟨_, _, rfl, run_takeDeferred hK, ?_⟩⟩
        exact ⟨_, results_tmp2 rfl _ _ _, ss, nb, nm, n', w6.heap.size, D', hperm, rfl, ⟨⟨none, 0, 0, hE', ⟨rfl, Nat.le_refl _, Nat.zero_le _, (fun a e => nomatch e), (fun _ => rfl), (fun b i e => nomatch e)⟩, fun a e => by cases e⟩, hM'⟩, by rw [hxs, hfl] at j3; exact j3, by rw [hfe.out, ← hxs]; exact hK', by omega, hG6.size, hel, ⟨hnl, by omega⟩, hGf⟩
      case hstop =>
        intro Dd c pre W _ _ hf
        exact hf.elim
end
end Go.Proofs.Ytgkeflgfnagnjaa

/-
  What a crash and All ask of a disk's files, out of what calls keep.
-/
namespace Go.Proofs.Ytgkeflgfnagnjaa
open Go.RowKit Go.Maps Go.WideMaps Go.Sort Go.Shelf
set_option linter.unusedVariables false
set_option maxRecDepth 100000
set_option linter.unusedSectionVars false
variable [FO : Inhabited (Nat → Prop)]

/-- A name's block, 0 if there is none. -/
noncomputable def blkOf (D : DataW Unit) (s : ByteArray) : Nat := by
  classical
  exact if h : ∃ g, at? D s (some g) then h.choose else 0
theorem blkOf_at {D : DataW Unit} {s : ByteArray} {g : Nat} (h : at? D s (some g)) : blkOf D s = g := by
  have hx : ∃ g, at? D s (some g) := ⟨g, h⟩
  unfold blkOf
  rw [dif_pos hx]
  simpa using at_one hx.choose_spec h
/-- The files as they are told, by name. -/
noncomputable def toldX (D : DataW Unit) (X : Nat → Fm) (s : List UInt8) : Td := ⟨⟨s.toArray⟩, (X (blkOf D ⟨s.toArray⟩)).bn, (X (blkOf D ⟨s.toArray⟩)).la, (X (blkOf D ⟨s.toArray⟩)).th, (X (blkOf D ⟨s.toArray⟩)).nl⟩
theorem keys_at {D : DataW Unit} (hz : Nz D) {s : List UInt8} (h : s ∈ strKeys D) (hk : Maps.has D (.string s) = true) : ∃ g, at? D ⟨s.toArray⟩ (some g) := by
  obtain ⟨g, hg⟩ := hz (.string s) (D.atKey (.string s) .nil) (fun zd => atKey_indep hk zd .nil)
  exact ⟨g, by unfold at?; simpa using hg⟩
theorem keys_has {w : World} {m n : Nat} {D : DataW Unit} (h : Mp w m n D) : ∀ s ∈ strKeys D, Maps.has D (.string s) = true := by
  intro s hs
  obtain ⟨es, rfl, hap, hkeys⟩ := h.entries (string_keyed Try.underlying9)
  obtain ⟨es', hD', hko⟩ := h.keysOf
  obtain rfl : es = es' := by simpa using hD'
  obtain ⟨p, hp, hps⟩ := List.mem_map.1 hs
  obtain ⟨v, hv⟩ := hko p hp
  obtain ⟨x, _, hx, _⟩ := Maps.keyOf_str Try.underlying9 hv
  have : p.1 = .string s := by rw [hx] at hps ⊢; simpa [strOf] using hps
  exact mem_has hkeys (List.mem_map.2 ⟨p, hp, this⟩)
theorem Iv.filesB {w : World} {b m base : Nat} {fs : List (Int × Int)} {st : Int} {n i : Nat} {D : DataW Unit} {X : Nat → Fm} {B : Nat → List UInt8} (h : Iv w b m base fs st n D X B i) (hi : i ≤ 5000):
    FilesB w D (toldX D X) (fun s => B (blkOf D s)) := by
  intro s hs
  obtain ⟨g, hg⟩ := keys_at h.nz hs (keys_has h.ds.mp s hs)
  have e : blkOf D ⟨s.toArray⟩ = g := blkOf_at hg
  obtain ⟨a, h1, h2, h3⟩ := h.la _ g hg
  have how := h.ow _ g hg
  have hn := name_32 (h.nm _ g hg)
  refine ⟨rfl, by simpa [ByteArray.size] using hn, ⟨a, by simpa [toldX, e] using h1, by simpa [toldX, e] using h2⟩, by simp only [toldX, e]; omega, g, (X g).bo, (X g).bc, hg, by simpa [toldX, e] using h.fl _ g hg, ?_, ?_, how.ty⟩
  · simpa [toldX, e] using how.shows
  · intro a ha
    rcases how.row.2 with ⟨h4, _⟩ | ⟨q, c, cs, h4, _⟩
    · rw [ha] at h4; cases h4
    · rw [ha] at h4; cases h4; exact ⟨q, 0, rfl⟩
end Go.Proofs.Ytgkeflgfnagnjaa
