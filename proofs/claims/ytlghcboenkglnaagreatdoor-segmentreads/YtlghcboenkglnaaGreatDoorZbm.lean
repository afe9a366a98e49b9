import Derived.Test.YtlghcboenkglnaaGreatDoorZbl
import Derived.Test.YtlghcboenkglnaaGreatDoorZbj
import Derived.Deep.RegionHeld3
/-
  The keys of a map of files, sorted: the shelf's contracts at this program.
-/
namespace Go.Proofs
open Go.RowKit Go.Maps Go.Sort Go.Shelf


theorem Tryz.sorts115 (m : Nat) : AnyZ.SortsIn Tryz.prog Tryz.sorted115_ren Fence.wide m :=
  ⟨fun blk off cap ss W hH hblk hsz => callsIn_wide.2 (AnyM.slices_Sort_string Tryz.sort148 blk off cap ss W hH hblk hsz),
   fun p cap W => callsIn_wide.2 (AnyM.slices_Sort_string_none Tryz.sort148 p cap W)⟩

theorem Tryz.maps_Keys_116 (mb : Option Nat) (W : World) : CallsIn Fence.wide 5 Tryz.prog 116 #[.map mb] W fun e w' => e = .returned (.func (.func 149) #[] #[.pointer (some ⟨W.heap.size, 0, none⟩)]) ∧ w' = W.alloc (.cells #[.map mb] 168) :=
  AnyZ.keys_in Tryz.keys116 Fence.wide 5 trivial rfl mb W

set_option maxHeartbeats 1000000 in
theorem Tryz.slices_Sorted_keys_115_116 {H : Type} (b nn : Nat) (D0 : DataW H) (R : Value → Option (DataW H × List MemPlace)) (w : World) (hown : w.ownsMap Tryz.prog 9 R b nn D0) (hmax : Maps.size D0 ≤ maxLen) (hbytes : Maps.size D0 * 16 ≤ 140737488355328) :
    CallsIn Fence.wide 5 Tryz.prog 115 #[.func (.func 149) #[] #[.pointer (some ⟨w.heap.size, 0, none⟩)]] (w.alloc (.cells #[.map (some b)] 168)) fun e w' => ∃ (v : Value) (ss : List (List UInt8)), e = .returned v ∧ ss.Perm (strKeys D0) ∧
      w'.ownsRow (w.alloc (.cells #[.map (some b)] 168)).heap.size 9 1 v ss.length ((ss.mergeSort (fun x y => decide (x ≤ y))).map encStr) ∧ (v = .slice none 0 0 ↔ ss = []) ∧ Below (w.alloc (.cells #[.map (some b)] 168)).heap.size (w.alloc (.cells #[.map (some b)] 168)) w' := by
  have hbl := hown.lt
  have hseq : SeqGives Fence.wide 2 Tryz.prog 149 #[.pointer (some ⟨w.heap.size, 0, none⟩)] encStr (fun ss => ss.Perm (strKeys D0)) (Maps.size D0) (w.alloc (.cells #[.map (some b)] 168)) :=
    AnyZ.keys_gives (ρ := Tryz.keys116_ren) { Tryz.keys116 with } Fence.wide _ trivial rfl (by omega) w.heap.size b nn D0 _ (by simp) (by simp) (by
      obtain ⟨es, clock, hb, Ft, hs, hD⟩ := hown
      exact ⟨es, clock, (Below.heap_alloc _ _ b hbl).trans hb, Ft, hs, hD⟩)
  exact AnyZ.sorted_in Tryz.sorted115 Fence.wide 5 trivial trivial trivial trivial rfl (by omega) (Tryz.sorts115 _) (enters_of Tryz.func148 (by kernel_rfl) rfl) 149 #[.pointer (some ⟨w.heap.size, 0, none⟩)] trivial (enters_of Tryz.func149 (by kernel_rfl) rfl) _ _ hmax hbytes _ hseq

end Go.Proofs

/-
  All of a disk: its files in order.
-/
namespace Go.Proofs.YtlghcboenkglnaaGreatDoor.Dsk
open Go.Proofs.YtlghcboenkglnaaGreatDoor
open Go.RowKit Go.Maps Go.Sort Go.Shelf
set_option linter.unusedVariables false
set_option linter.unusedSectionVars false
variable [FO : Inhabited (Nat → Prop)]

/-- The files of a disk, by name. -/
def Files (w : World) (D : DataW Unit) (T : List UInt8 → Td) : Prop := ∀ s ∈ strKeys D, (T s).s = ⟨s.toArray⟩ ∧ s.length ≤ 32 ∧ ∃ g bo bc, at? D ⟨s.toArray⟩ (some g) ∧ Fl w g bo (T s).sz bc (T s).la (T s).th (T s).nl
theorem strKeys_len {H : Type} (D : DataW H) : (strKeys D).length ≤ Maps.size D := by cases D <;> simp [strKeys, Maps.size]
section
variable {w w' : World} {b m : Nat} {fs : List (Int × Int)} {st : Int} {n : Nat} {D : DataW Unit}

set_option maxRecDepth 100000 in
set_option maxHeartbeats 4000000 in
theorem all_any (h : Ds w b m fs st n D) (T : List UInt8 → Td) (hF : Files w D T) (hD : Maps.size D ≤ 4096) :
    Calls Tryz.prog 81 #[.pointer (some ⟨b, 0, none⟩)] w fun e w' => ∃ (ss : List (List UInt8)) (ao : Option Addr) (cap : Nat), ss.Perm (strKeys D) ∧ e = .returned (.func (.func 117) #[] #[.pointer (some ⟨w.heap.size, 0, none⟩)]) ∧ Boxed w' w.heap.size 211 (.slice ao ss.length cap) ∧ Tw w' w.heap.size ao ss.length cap ((ss.mergeSort (fun x y => decide (x ≤ y))).map T) ∧ w.grownBy w' none := by
  have hmf : ∀ (fn : Fn) (first cap : Array Value) (w : World), (Instr.makeFunc fn first cap).run Tryz.prog w = .ok (.func fn first cap) w := fun _ _ _ _ => rfl
  obtain ⟨fo, fn, fc, hd⟩ := h.dk
  have hbx := Boxed.new w 211 (.slice none 0 0)
  have hg := alloc_grown w (.cells #[.slice none 0 0] 211)
  have hbl := hd.hd.lt
  go_enter Tryz.func81, Tryz.ntmps81
  go_wp2_with fail
  have hd1 := hd.hd.grown hg
  have hm1 : Mp _ m n D := hd.mp.kept hg (by simp)
  have hs1 : (w.alloc (.cells #[.slice none 0 0] 211)).heap.size = w.heap.size + 1 := by simp
  generalize w.alloc (.cells #[.slice none 0 0] 211) = w1 at *
  refine (made_yes _ _ _ hd1.c0).mono ?_
  rintro e w1 ⟨rfl, rfl⟩
  have k0 := hd1.c0
  go_wp2_with fail
  refine ((callsIn_wide (n := 5)).1 (Tryz.maps_Keys_116 (some m) _)).mono ?_
  rintro e w2 ⟨rfl, hw2⟩
  subst hw2
  have hso := (callsIn_wide (n := 5)).1 (Tryz.slices_Sorted_keys_115_116 m n D fileElem w1 hm1 (by unfold maxLen; omega) (by omega))
  rw [hs1] at hso
  go_wp2_with fail
  refine hso.mono ?_
  clear hso
  rintro e w3 ⟨v, ss, rfl, hperm, hrow, hnil, hB⟩
  have hg3 : w.grownBy w3 none := grown_trans (grown_trans hg (alloc_grown w1 _) (by simp)) (below_grownBy hB) (by simp)
  have hb3 := box_own (box_own hbx (alloc_grown w1 (.cells #[.map (some m)] 168)) (fun r e => by cases e)) (below_grownBy hB) (fun r e => by cases e)
  have hN : ss.length ≤ 4096 := by rw [hperm.length_eq]; exact Nat.le_trans (strKeys_len D) hD
  obtain ⟨ks, hks⟩ : ∃ ks, ss.mergeSort (fun x y => decide (x ≤ y)) = ks := ⟨_, rfl⟩
  have hkl : ks.length = ss.length := by rw [← hks]; simp
  have hkm : ∀ s ∈ ks, s ∈ strKeys D := fun s hs => by
    rw [← hks] at hs
    exact hperm.mem_iff.1 (by simpa using hs)
  rw [hks] at hrow
  obtain ⟨vo, vc, rfl, hcell, hvb⟩ : ∃ vo vc, v = .slice vo ss.length vc ∧ (∀ i s, ks[i]? = some s → ∃ q, vo = some ⟨q, 0, none⟩ ∧ w3.cell? ⟨q, i, none⟩ = some (.string ⟨s.toArray⟩)) ∧ ∀ q, blk vo = some q → w.heap.size < q ∧ q < w3.heap.size := by
    rcases hrow.2 with ⟨hv, h0⟩ | ⟨g, c, cur, hv, hbq, _⟩
    · subst hv
      refine ⟨none, 0, by rw [h0], fun i s hs => ?_, fun q e => by cases e⟩
      have := (List.getElem?_eq_some_iff.1 hs).1
      omega
    · subst hv
      refine ⟨_, c, rfl, fun i s hs => ⟨g, rfl, ?_⟩, fun q e => ?_⟩
      · have h9 := hrow.cells (g := g) rfl i (encStr s) (by rw [List.getElem?_map, hs]; rfl)
        rwa [Addr.add_lit, Nat.zero_add] at h9
      · have h8 := hrow.lt g rfl
        obtain rfl : g = q := by simpa [blk] using e
        rw [World.size_alloc, hs1] at hbq
        exact ⟨by omega, h8.2⟩
  clear hrow hnil hB hm1 hd1 hg hbx
  have hvlen : ∀ k, k < ss.length → ∃ s, ks[k]? = some s := fun k hk => ⟨_, List.getElem?_eq_getElem (by omega)⟩
  go_wp2_with fail
  go_loopw [5, 15] (fun _ i' wr => ∃ (i : Nat) (ro : Option Addr) (rc : Nat), i' = .int .i64 i ∧ i ≤ ss.length ∧ Boxed wr w.heap.size 211 (.slice ro i rc) ∧ Tw wr w3.heap.size ro i rc ((ks.take i).map T) ∧ Chg w3 wr (fun k => k = w.heap.size)) (fun _ i' _ => ss.length - (intOf i').toNat)
  case atStart => exact ⟨0, none, 0, rfl, Nat.zero_le _, hb3, Tw.nil _ _, Chg.refl _ _⟩
  case round =>
    obtain ⟨i, ro, rc, rfl, hi, hbr, hT, hc⟩ := hrel
    by_cases hlt : i < ss.length
    · have hd' : decide ((i : Int) < (ss.length : Int)) = true := by simp; omega
      obtain ⟨s, hs⟩ := hvlen i hlt
      obtain ⟨q, rfl, hq⟩ := hcell i s hs
      obtain ⟨t1, t2, g, bo, bc, t3, t4⟩ := hF s (hkm s (List.mem_of_getElem? hs))
      have hs3 := hg3.size
      have hqv := hvb q rfl
      have hqr := hc.cell hq (by show ¬ q = _; omega)
      have hCw : Chg w wr (fun k => k = w.heap.size) := (Chg.of_grown hg3 _).trans hc
      have hgl := t4.lt
      have hfr := t4.chg hCw (by omega)
      have hml := hd.mp.lt
      have hmr := Mp.chg hd.mp hCw (by omega)
      have k0 := (hd.hd.chg hCw (by omega)).c0
      obtain ⟨g', hg', hlk⟩ := look_any (w := wr.drew) hmr ⟨s.toArray⟩ (by show s.toArray.size ≤ _; simp; unfold maxLen; omega)
      obtain rfl := at_one t3 hg'
      rw [Option.map_some] at hlk
      have kz := hbr.cell
      have fz := hbr.frozen
      have i1 : (0 : Int) ≤ (i : Int) := by omega
      have i2 : (i : Int) < (ss.length : Int) := by omega
      have hto := told_any wr.drew g bo _ bc _ _ _ ⟨s.toArray⟩ (hfr.chg (Chg.of_grown (grown_drew wr none) (fun _ => False)) (fun e => e))
      have htw : T s = ⟨⟨s.toArray⟩, (T s).sz, (T s).la, (T s).th, (T s).nl⟩ := by rw [← t1]
      unfold toldV at hto
      have hrz : blk ro ≠ some w.heap.size := fun e => by have := (hT.from_base _ e).1; omega
      have hks1 : ks.take (i + 1) = ks.take i ++ [s] := by
        rw [List.take_add_one, hs]; rfl
      have hzl := hbr.lt
      have hsr : w3.heap.size ≤ wr.heap.size := hc.size
      generalize (T s).sz = x1 at *
      generalize (T s).la = x2 at *
      generalize (T s).th = x3 at *
      generalize (T s).nl = x4 at *
      obtain ⟨z, hzz⟩ : ∃ z, w.heap.size = z := ⟨_, rfl⟩
      have hz : Hid (w.heap.size = z) := hzz
      have hbz : Boxed wr z 211 (.slice ro i rc) := by rw [← hzz]; exact hbr
      have hSS : ∀ W, Chg w W (fun k => k = w.heap.size ∨ w3.heap.size ≤ k) → W.cell? ⟨b, 0, none⟩ = some (.map (some m)) ∧ (Instr.lookup 168 (.map (some m)) (.string ⟨s.toArray⟩) false).run Tryz.prog W = .ok (.pointer (some ⟨g, 0, none⟩)) W := fun W hW => by
        refine ⟨(hd.hd.chg hW (by omega)).c0, ?_⟩
        obtain ⟨g', hg', hlk'⟩ := look_any (Mp.chg hd.mp hW (by omega)) ⟨s.toArray⟩ (by show s.toArray.size ≤ _; simp; unfold maxLen; omega)
        obtain rfl := at_one t3 hg'
        exact hlk'
      clear t4 hfr hmr hg' hlk t3 hcell hvlen hd h hF hkm hq hb3
      rw [hzz] at kz fz hrz hzl
      go_wp2_with fail
      have hgd : ∀ W, wr.drew.grownBy W none → W.cell? ⟨z, 0, none⟩ = some (.slice ro i rc) := fun W hW => hW.cell (a := ⟨z, 0, none⟩) kz (by simp)
      have HSp : ∀ W, Chg w W (fun k => k = w.heap.size ∨ w3.heap.size ≤ k) → (fun w' => w'.cell? ⟨b, 0, none⟩ = some (.map (some m)) ∧ (Instr.lookup 168 (.map (some m)) (.string ⟨s.toArray⟩) false).run Tryz.prog w' = .ok (.pointer (some ⟨g, 0, none⟩)) w') W := hSS
      have HS : Hid _ := HSp
      have hC4' : ∀ W, wr.drew.grownBy W none → Chg w W (fun k => k = w.heap.size ∨ w3.heap.size ≤ k) := fun W hW => ((hCw.mono (fun k _ e => Or.inl e)).trans (Chg.of_grown (grown_drew wr none) _)).trans (Chg.of_grown hW _)
      have hC4 : Hid _ := hC4'
      have hC6' : ∀ W, wr.grownBy W (blk ro) → Chg w W (fun k => k = w.heap.size ∨ w3.heap.size ≤ k) := fun W hW => (hCw.mono (fun k _ e => Or.inl e)).trans ((chg_grown hW).mono (fun k _ e => Or.inr (hT.from_base k e).1))
      have hC6 : Hid _ := hC6'
      have hbx6' : ∀ W, wr.grownBy W (blk ro) → W.cell? ⟨z, 0, none⟩ = some (.slice ro i rc) → ∀ v, Boxed (W.setCell ⟨z, 0, none⟩ v) z 211 v := fun W hW _ v => by
        have h1 : Boxed W z 211 (.slice ro i rc) := (hW.block z hzl (fun e => hrz e.symm)).trans hbz
        exact h1.set v
      have hbx6 : Hid _ := hbx6'
      have hc6' : ∀ W, wr.grownBy W (blk ro) → ∀ v, Chg w3 (W.setCell ⟨z, 0, none⟩ v) (fun k => k = w.heap.size) := fun W hW v => by
        have h1 : Chg w3 W (fun k => k = w.heap.size) := ⟨hW.os.trans hc.os, hW.tape.trans hc.tape, hW.output.trans hc.output, Nat.le_trans hc.size hW.size, fun k hk hne => (hW.block k (Nat.lt_of_lt_of_le hk hc.size) (fun e => by have := (hT.from_base k e.symm).1; omega)).trans (hc.block k hk hne)⟩
        exact h1.trans ((setCell_chg W z 0 v).mono (fun k _ e => e.trans hz.out.symm))
      have hc6 : Hid _ := hc6'
      clear HSp hSS hC4' hC6' hbx6' hc6'
      refine wp_region_held_drew (S := fun w' => w'.cell? ⟨b, 0, none⟩ = some (.map (some m)) ∧ (Instr.lookup 168 (.map (some m)) (.string ⟨s.toArray⟩) false).run Tryz.prog w' = .ok (.pointer (some ⟨g, 0, none⟩)) w') (by kernel_rfl) (HS.out _ (hC4.out _ (grown_refl _ _))) (fun hHeld => ?_)
      refine wpAnyH_take (i := 1) (oi := { dst := some 20, op := Op.move (Operand.tmp 0), type := 29, pos := "disk.go:188", after := #[], guard := none }) (v := ?_) rfl (by kernel_rfl) (by kernel_rfl) (by kernel_rfl) (fun _ _ _ h => h) (Or.inl ⟨by rfl, ?_⟩) (by assumption) ?_
      rotate_left
      · intro w hSw; (try dsimp only at hSw); go_simp
        try with_reducible rfl
      try simp only [Act.put, List.setIfInBounds_toArray, List.set_cons_zero, List.set_cons_succ]
      refine wpAnyH_take (i := 2) (oi := { dst := some 21, op := Op.nilCheck (Operand.tmp 20), type := 0, pos := "disk.go:188", after := #[{ on := 1, ground := Ground.data }], guard := none }) (v := ?_) rfl (by kernel_rfl) (by kernel_rfl) (by kernel_rfl) (fun _ _ _ h => h) (Or.inl ⟨by rfl, ?_⟩) (by assumption) ?_
      rotate_left
      · intro w hSw; (try dsimp only at hSw); go_simp
        try with_reducible rfl
      try simp only [Act.put, List.setIfInBounds_toArray, List.set_cons_zero, List.set_cons_succ]
      refine wpAnyH_take (i := 3) (oi := { dst := some 22, op := Op.fieldAddr 170 (Operand.tmp 21) 0, type := 0, pos := "disk.go:188", after := #[{ on := 2, ground := Ground.data }], guard := none }) (v := ?_) rfl (by kernel_rfl) (by kernel_rfl) (by kernel_rfl) (fun _ _ _ h => h) (Or.inl ⟨by rfl, ?_⟩) (by assumption) ?_
      rotate_left
      · intro w hSw; (try dsimp only at hSw); go_simp
        try with_reducible rfl
      try simp only [Act.put, List.setIfInBounds_toArray, List.set_cons_zero, List.set_cons_succ]
      refine wpAnyH_take (i := 4) (oi := { dst := some 23, op := Op.load 168 (Operand.tmp 22), type := 168, pos := "disk.go:188", after := #[{ on := 3, ground := Ground.data }], guard := none }) (v := ?_) rfl (by kernel_rfl) (by kernel_rfl) (by kernel_rfl) (fun _ _ _ h => h) (Or.inl ⟨by rfl, ?_⟩) (by assumption) ?_
      rotate_left
      · intro w hSw; (try dsimp only at hSw); go_simp
        try with_reducible rfl
      try simp only [Act.put, List.setIfInBounds_toArray, List.set_cons_zero, List.set_cons_succ]
      refine wpAnyH_take (i := 5) (oi := { dst := some 24, op := Op.move (Operand.tmp 5), type := 9, pos := "disk.go:188", after := #[], guard := none }) (v := ?_) rfl (by kernel_rfl) (by kernel_rfl) (by kernel_rfl) (fun _ _ _ h => h) (Or.inl ⟨by rfl, ?_⟩) (by assumption) ?_
      rotate_left
      · intro w hSw; (try dsimp only at hSw); go_simp
        try with_reducible rfl
      try simp only [Act.put, List.setIfInBounds_toArray, List.set_cons_zero, List.set_cons_succ]
      refine wpAnyH_take (i := 6) (oi := { dst := some 25, op := Op.lookup 168 (Operand.tmp 23) (Operand.tmp 24) false, type := 153, pos := "disk.go:188", after := #[{ on := 4, ground := Ground.data }, { on := 5, ground := Ground.data }], guard := none }) (v := ?_) rfl (by kernel_rfl) (by kernel_rfl) (by kernel_rfl) (fun _ _ _ h => h) (Or.inl ⟨by rfl, ?_⟩) (by assumption) ?_
      rotate_left
      · intro w hSw; (try dsimp only at hSw); go_simp
        try with_reducible rfl
      try simp only [Act.put, List.setIfInBounds_toArray, List.set_cons_zero, List.set_cons_succ]
      refine wpAnyH_take (i := 7) (oi := { dst := some 26, op := Op.move (Operand.tmp 5), type := 9, pos := "disk.go:188", after := #[], guard := none }) (v := ?_) rfl (by kernel_rfl) (by kernel_rfl) (by kernel_rfl) (fun _ _ _ h => h) (Or.inl ⟨by rfl, ?_⟩) (by assumption) ?_
      rotate_left
      · intro w hSw; (try dsimp only at hSw); go_simp
        try with_reducible rfl
      try simp only [Act.put, List.setIfInBounds_toArray, List.set_cons_zero, List.set_cons_succ]
      refine wpAnyH_ready (rs := [0, 8]) (by kernel_rfl) (by simp) ?_
      refine AllReadyH.cons (o := { dst := some 19, op := Op.load 211 (Operand.tmp 3), type := 211, pos := "disk.go:188", after := #[], guard := none }) rfl (fun K hK => ?_) (AllReadyH.cons (o := { dst := some 27, op := Op.call { callee := Callee.value (Operand.func 86), args := #[Operand.tmp 25, Operand.tmp 26], argTypes := #[153, 9] }, type := 82, pos := "disk.go:188", after := #[{ on := 6, ground := Ground.data }, { on := 7, ground := Ground.data }], guard := none }) rfl (fun K hK => ?_) (AllReadyH.nil))
      · skip
        go_simp
        refine hK.out _ _ (HS.out _ (hC4.out _ (grown_refl _ _))) (fun hHeld => ?_)
        clear hK K
        try simp only [Act.put, List.setIfInBounds_toArray, List.set_cons_zero, List.set_cons_succ]
        refine wpAnyH_ready (rs := [8]) (by kernel_rfl) (by simp) ?_
        refine AllReadyH.cons (o := { dst := some 27, op := Op.call { callee := Callee.value (Operand.func 86), args := #[Operand.tmp 25, Operand.tmp 26], argTypes := #[153, 9] }, type := 82, pos := "disk.go:188", after := #[{ on := 6, ground := Ground.data }, { on := 7, ground := Ground.data }], guard := none }) rfl (fun K hK => ?_) (AllReadyH.nil)
        go_simp
        go_at_call 86
        refine hto.mono ?_
        rintro e w4 ⟨rfl, hg4⟩
        have kz4 := hgd _ hg4
        have hg5 := grown_trans hg4 (alloc_grown w4 (.cells #[.string ⟨s.toArray⟩, .int .i64 x1, .int .i64 x2, .bool x3, .bool x4] 82)) (by simp)
        have kz5 := hgd _ hg5
        try go_simp
        refine hK.out _ _ (HS.out _ (hC4.out _ hg4)) (fun hHeld => ?_)
        clear hK K
        try simp only [Act.put, List.setIfInBounds_toArray, List.set_cons_zero, List.set_cons_succ]
        refine wpAnyH_ready (rs := [9]) (by kernel_rfl) (by simp) ?_
        refine AllReadyH.cons (o := { dst := some 28, op := Op.buildSlice 211 1 #[(0, Operand.tmp 27)], type := 211, pos := "disk.go:188", after := #[{ on := 8, ground := Ground.data }], guard := none }) rfl (fun K hK => ?_) (AllReadyH.nil)
        go_simp
        refine hK.out _ _ (HS.out _ (hC4.out _ hg5)) (fun hHeld => ?_)
        clear hK K
        try simp only [Act.put, List.setIfInBounds_toArray, List.set_cons_zero, List.set_cons_succ]
        refine wpAnyH_ready (rs := [10]) (by kernel_rfl) (by simp) ?_
        refine AllReadyH.cons (o := { dst := some 29, op := Op.call { callee := Callee.builtin Builtin.append, args := #[Operand.tmp 19, Operand.tmp 28], argTypes := #[211, 211] }, type := 211, pos := "disk.go:188", after := #[{ on := 0, ground := Ground.data }, { on := 9, ground := Ground.data }, { on := 8, ground := Ground.chain }], guard := none }) rfl (fun K hK => ?_) (AllReadyH.nil)
        refine step_append_td (by rfl) (by rfl) (.tmp 19) (.tmp 28) (by rfl) w3.heap.size ro i rc _ (by rfl) (hT.kept (grown_trans (grown_drew wr none) hg5 (by simp)) (by cases ro <;> simp [blk])) ⟨⟨s.toArray⟩, x1, x2, x3, x4⟩ w4.heap.size (by rfl) (fun j hj => by rw [cell_at (World.alloc_heap_new w4 _)]; simp [Td.cells]) (by omega) (Nat.le_trans hsr hg5.size) ?_
        intro ro' rc' w6 hT6 hg6
        have hg7 : wr.grownBy w6 (blk ro) := grown_trans (grown_any (grown_trans (grown_drew wr none) hg5 (by simp)) (blk ro)) hg6 (fun k hk => Or.inl hk)
        have kz6 := hg7.cell kz (fun e => hrz e.symm)
        have fz6 : w6.frozen? ⟨z, 0, none⟩ = false := (World.frozen?_of_block (w := wr) (a := ⟨z, 0, none⟩) (hg7.block z hzl (fun e => hrz e.symm))).trans fz
        refine hK.out _ _ (HS.out _ (hC6.out _ hg7)) (fun hHeld => ?_)
        clear hK K
        try simp only [Act.put, List.setIfInBounds_toArray, List.set_cons_zero, List.set_cons_succ]
        refine wpAnyH_ready (rs := [11]) (by kernel_rfl) (by simp) ?_
        refine AllReadyH.cons (o := { dst := none, op := Op.store 211 (Operand.tmp 3) (Operand.tmp 29), type := 0, pos := "disk.go:188", after := #[{ on := 10, ground := Ground.data }, { on := 10, ground := Ground.chain }, { on := 0, ground := Ground.phase }, { on := 1, ground := Ground.phase }, { on := 2, ground := Ground.phase }, { on := 3, ground := Ground.phase }, { on := 4, ground := Ground.phase }, { on := 5, ground := Ground.phase }, { on := 6, ground := Ground.phase }, { on := 7, ground := Ground.phase }, { on := 8, ground := Ground.phase }, { on := 9, ground := Ground.phase }, { on := 10, ground := Ground.phase }], guard := none }) rfl (fun K hK => ?_) (AllReadyH.nil)
        go_simp
        refine hK.out _ _ (HS.out _ ((hC6.out _ hg7).trans ((setCell_chg w6 z 0 _).mono (fun k _ e => Or.inl (e.trans hz.out.symm))))) (fun hHeld => ?_)
        clear hK K
        try simp only [Act.put, List.setIfInBounds_toArray, List.set_cons_zero, List.set_cons_succ]
        refine wpAnyH_done (by kernel_rfl) ?_ _
        have hb7 := hbx6.out _ hg7 kz6 (.slice ro' (i + 1) rc')
        have hT7 := hT6.kept (setCell_grown w6 z 0 (.slice ro' (i + 1) rc')) (by cases hq : blk ro' with | none => exact .inl rfl | some q => right; have := (hT6.from_base q hq).1; intro e; cases e; have := hz.out; omega)
        have hc7 := hc6.out _ hg7 (.slice ro' (i + 1) rc')
        clear kz fz kz4 kz5 hto hgd hHeld HS hC4 hC6 hbx6 hc6 hg4 hg5 hg6 hg7 hT6
        clear hzz
        obtain rfl := hz.out
        clear hz
        go_wp2
        go_roundw
        case rel => exact ⟨i + 1, ro', rc', by go_num, by omega, hb7, by rw [hks1, List.map_append, List.map_singleton, htw]; exact hT7, hc7⟩
        case measure => simp [intOf]; omega
      · skip
        go_simp
        go_at_call 86
        refine hto.mono ?_
        rintro e w4 ⟨rfl, hg4⟩
        have kz4 := hgd _ hg4
        have hg5 := grown_trans hg4 (alloc_grown w4 (.cells #[.string ⟨s.toArray⟩, .int .i64 x1, .int .i64 x2, .bool x3, .bool x4] 82)) (by simp)
        have kz5 := hgd _ hg5
        try go_simp
        refine hK.out _ _ (HS.out _ (hC4.out _ hg4)) (fun hHeld => ?_)
        clear hK K
        try simp only [Act.put, List.setIfInBounds_toArray, List.set_cons_zero, List.set_cons_succ]
        refine wpAnyH_ready (rs := [0, 9]) (by kernel_rfl) (by simp) ?_
        refine AllReadyH.cons (o := { dst := some 19, op := Op.load 211 (Operand.tmp 3), type := 211, pos := "disk.go:188", after := #[], guard := none }) rfl (fun K hK => ?_) (AllReadyH.cons (o := { dst := some 28, op := Op.buildSlice 211 1 #[(0, Operand.tmp 27)], type := 211, pos := "disk.go:188", after := #[{ on := 8, ground := Ground.data }], guard := none }) rfl (fun K hK => ?_) (AllReadyH.nil))
        · skip
          go_simp
          refine hK.out _ _ (HS.out _ (hC4.out _ hg4)) (fun hHeld => ?_)
          clear hK K
          try simp only [Act.put, List.setIfInBounds_toArray, List.set_cons_zero, List.set_cons_succ]
          refine wpAnyH_ready (rs := [9]) (by kernel_rfl) (by simp) ?_
          refine AllReadyH.cons (o := { dst := some 28, op := Op.buildSlice 211 1 #[(0, Operand.tmp 27)], type := 211, pos := "disk.go:188", after := #[{ on := 8, ground := Ground.data }], guard := none }) rfl (fun K hK => ?_) (AllReadyH.nil)
          go_simp
          refine hK.out _ _ (HS.out _ (hC4.out _ hg5)) (fun hHeld => ?_)
          clear hK K
          try simp only [Act.put, List.setIfInBounds_toArray, List.set_cons_zero, List.set_cons_succ]
          refine wpAnyH_ready (rs := [10]) (by kernel_rfl) (by simp) ?_
          refine AllReadyH.cons (o := { dst := some 29, op := Op.call { callee := Callee.builtin Builtin.append, args := #[Operand.tmp 19, Operand.tmp 28], argTypes := #[211, 211] }, type := 211, pos := "disk.go:188", after := #[{ on := 0, ground := Ground.data }, { on := 9, ground := Ground.data }, { on := 8, ground := Ground.chain }], guard := none }) rfl (fun K hK => ?_) (AllReadyH.nil)
          refine step_append_td (by rfl) (by rfl) (.tmp 19) (.tmp 28) (by rfl) w3.heap.size ro i rc _ (by rfl) (hT.kept (grown_trans (grown_drew wr none) hg5 (by simp)) (by cases ro <;> simp [blk])) ⟨⟨s.toArray⟩, x1, x2, x3, x4⟩ w4.heap.size (by rfl) (fun j hj => by rw [cell_at (World.alloc_heap_new w4 _)]; simp [Td.cells]) (by omega) (Nat.le_trans hsr hg5.size) ?_
          intro ro' rc' w6 hT6 hg6
          have hg7 : wr.grownBy w6 (blk ro) := grown_trans (grown_any (grown_trans (grown_drew wr none) hg5 (by simp)) (blk ro)) hg6 (fun k hk => Or.inl hk)
          have kz6 := hg7.cell kz (fun e => hrz e.symm)
          have fz6 : w6.frozen? ⟨z, 0, none⟩ = false := (World.frozen?_of_block (w := wr) (a := ⟨z, 0, none⟩) (hg7.block z hzl (fun e => hrz e.symm))).trans fz
          refine hK.out _ _ (HS.out _ (hC6.out _ hg7)) (fun hHeld => ?_)
          clear hK K
          try simp only [Act.put, List.setIfInBounds_toArray, List.set_cons_zero, List.set_cons_succ]
          refine wpAnyH_ready (rs := [11]) (by kernel_rfl) (by simp) ?_
          refine AllReadyH.cons (o := { dst := none, op := Op.store 211 (Operand.tmp 3) (Operand.tmp 29), type := 0, pos := "disk.go:188", after := #[{ on := 10, ground := Ground.data }, { on := 10, ground := Ground.chain }, { on := 0, ground := Ground.phase }, { on := 1, ground := Ground.phase }, { on := 2, ground := Ground.phase }, { on := 3, ground := Ground.phase }, { on := 4, ground := Ground.phase }, { on := 5, ground := Ground.phase }, { on := 6, ground := Ground.phase }, { on := 7, ground := Ground.phase }, { on := 8, ground := Ground.phase }, { on := 9, ground := Ground.phase }, { on := 10, ground := Ground.phase }], guard := none }) rfl (fun K hK => ?_) (AllReadyH.nil)
          go_simp
          refine hK.out _ _ (HS.out _ ((hC6.out _ hg7).trans ((setCell_chg w6 z 0 _).mono (fun k _ e => Or.inl (e.trans hz.out.symm))))) (fun hHeld => ?_)
          clear hK K
          try simp only [Act.put, List.setIfInBounds_toArray, List.set_cons_zero, List.set_cons_succ]
          refine wpAnyH_done (by kernel_rfl) ?_ _
          have hb7 := hbx6.out _ hg7 kz6 (.slice ro' (i + 1) rc')
          have hT7 := hT6.kept (setCell_grown w6 z 0 (.slice ro' (i + 1) rc')) (by cases hq : blk ro' with | none => exact .inl rfl | some q => right; have := (hT6.from_base q hq).1; intro e; cases e; have := hz.out; omega)
          have hc7 := hc6.out _ hg7 (.slice ro' (i + 1) rc')
          clear kz fz kz4 kz5 hto hgd hHeld HS hC4 hC6 hbx6 hc6 hg4 hg5 hg6 hg7 hT6
          clear hzz
          obtain rfl := hz.out
          clear hz
          go_wp2
          go_roundw
          case rel => exact ⟨i + 1, ro', rc', by go_num, by omega, hb7, by rw [hks1, List.map_append, List.map_singleton, htw]; exact hT7, hc7⟩
          case measure => simp [intOf]; omega
        · skip
          go_simp
          refine hK.out _ _ (HS.out _ (hC4.out _ hg5)) (fun hHeld => ?_)
          clear hK K
          try simp only [Act.put, List.setIfInBounds_toArray, List.set_cons_zero, List.set_cons_succ]
          refine wpAnyH_ready (rs := [0]) (by kernel_rfl) (by simp) ?_
          refine AllReadyH.cons (o := { dst := some 19, op := Op.load 211 (Operand.tmp 3), type := 211, pos := "disk.go:188", after := #[], guard := none }) rfl (fun K hK => ?_) (AllReadyH.nil)
          go_simp
          refine hK.out _ _ (HS.out _ (hC4.out _ hg5)) (fun hHeld => ?_)
          clear hK K
          try simp only [Act.put, List.setIfInBounds_toArray, List.set_cons_zero, List.set_cons_succ]
          refine wpAnyH_ready (rs := [10]) (by kernel_rfl) (by simp) ?_
          refine AllReadyH.cons (o := { dst := some 29, op := Op.call { callee := Callee.builtin Builtin.append, args := #[Operand.tmp 19, Operand.tmp 28], argTypes := #[211, 211] }, type := 211, pos := "disk.go:188", after := #[{ on := 0, ground := Ground.data }, { on := 9, ground := Ground.data }, { on := 8, ground := Ground.chain }], guard := none }) rfl (fun K hK => ?_) (AllReadyH.nil)
          refine step_append_td (by rfl) (by rfl) (.tmp 19) (.tmp 28) (by rfl) w3.heap.size ro i rc _ (by rfl) (hT.kept (grown_trans (grown_drew wr none) hg5 (by simp)) (by cases ro <;> simp [blk])) ⟨⟨s.toArray⟩, x1, x2, x3, x4⟩ w4.heap.size (by rfl) (fun j hj => by rw [cell_at (World.alloc_heap_new w4 _)]; simp [Td.cells]) (by omega) (Nat.le_trans hsr hg5.size) ?_
          intro ro' rc' w6 hT6 hg6
          have hg7 : wr.grownBy w6 (blk ro) := grown_trans (grown_any (grown_trans (grown_drew wr none) hg5 (by simp)) (blk ro)) hg6 (fun k hk => Or.inl hk)
          have kz6 := hg7.cell kz (fun e => hrz e.symm)
          have fz6 : w6.frozen? ⟨z, 0, none⟩ = false := (World.frozen?_of_block (w := wr) (a := ⟨z, 0, none⟩) (hg7.block z hzl (fun e => hrz e.symm))).trans fz
          refine hK.out _ _ (HS.out _ (hC6.out _ hg7)) (fun hHeld => ?_)
          clear hK K
          try simp only [Act.put, List.setIfInBounds_toArray, List.set_cons_zero, List.set_cons_succ]
          refine wpAnyH_ready (rs := [11]) (by kernel_rfl) (by simp) ?_
          refine AllReadyH.cons (o := { dst := none, op := Op.store 211 (Operand.tmp 3) (Operand.tmp 29), type := 0, pos := "disk.go:188", after := #[{ on := 10, ground := Ground.data }, { on := 10, ground := Ground.chain }, { on := 0, ground := Ground.phase }, { on := 1, ground := Ground.phase }, { on := 2, ground := Ground.phase }, { on := 3, ground := Ground.phase }, { on := 4, ground := Ground.phase }, { on := 5, ground := Ground.phase }, { on := 6, ground := Ground.phase }, { on := 7, ground := Ground.phase }, { on := 8, ground := Ground.phase }, { on := 9, ground := Ground.phase }, { on := 10, ground := Ground.phase }], guard := none }) rfl (fun K hK => ?_) (AllReadyH.nil)
          go_simp
          refine hK.out _ _ (HS.out _ ((hC6.out _ hg7).trans ((setCell_chg w6 z 0 _).mono (fun k _ e => Or.inl (e.trans hz.out.symm))))) (fun hHeld => ?_)
          clear hK K
          try simp only [Act.put, List.setIfInBounds_toArray, List.set_cons_zero, List.set_cons_succ]
          refine wpAnyH_done (by kernel_rfl) ?_ _
          have hb7 := hbx6.out _ hg7 kz6 (.slice ro' (i + 1) rc')
          have hT7 := hT6.kept (setCell_grown w6 z 0 (.slice ro' (i + 1) rc')) (by cases hq : blk ro' with | none => exact .inl rfl | some q => right; have := (hT6.from_base q hq).1; intro e; cases e; have := hz.out; omega)
          have hc7 := hc6.out _ hg7 (.slice ro' (i + 1) rc')
          clear kz fz kz4 kz5 hto hgd hHeld HS hC4 hC6 hbx6 hc6 hg4 hg5 hg6 hg7 hT6
          clear hzz
          obtain rfl := hz.out
          clear hz
          go_wp2
          go_roundw
          case rel => exact ⟨i + 1, ro', rc', by go_num, by omega, hb7, by rw [hks1, List.map_append, List.map_singleton, htw]; exact hT7, hc7⟩
          case measure => simp [intOf]; omega
    · obtain rfl : i = ss.length := by omega
      have hd' : decide ((ss.length : Int) < (ss.length : Int)) = false := by simp
      rw [List.take_of_length_le (by omega)] at hT
      have hgw : w.grownBy wr none := ((Chg.of_grown hg3 _).trans hc).grown (fun k hk e => by omega)
      have hs3 := hg3.size
      go_wp2
      go_ret
      exact ⟨ss, ro, rc, hperm, rfl, hbr, by rw [hks]; exact ⟨hT.len, hT.row.1, by rcases hT.row.2 with h2 | ⟨g, c, cur, hv, hg, r⟩; exact .inl h2; exact .inr ⟨g, c, cur, hv, by omega, r⟩⟩, hgw⟩
end
end Go.Proofs.YtlghcboenkglnaaGreatDoor.Dsk
