/-
  Open.
-/
import Derived.Test.YtmnfdiffneobpaaR1
import Derived.Test.YtmnfdiffneobpaaP2
namespace Go.Proofs.Ytmnfdiffneobpaa
open Go.RowKit Go.Shelf
set_option linter.unusedVariables false


set_option maxRecDepth 100000 in
theorem left_any (w : World) (b g o n cap : Nat) (l : List UInt8) (at' : Nat) (h : Rd w b g o n cap l at') :
    Calls Try.prog 35 #[.pointer (some ⟨b, 0, none⟩)] w fun r w' => r = .returned (.int .i64 n) ∧ w' = w := by
  have h1 := h.c0
  go_enter Try.func35, Try.ntmps35
  go_wp2_with fail
  refine (there_any _ _ h.c2).mono ?_
  rintro e w1 ⟨rfl, rfl⟩
  go_wp2
  go_ret
  exact ⟨rfl, rfl⟩
theorem Rd.kept {w w' : World} {b g o n cap : Nat} {l : List UInt8} {at' : Nat} {S : Nat → Prop} (h : Rd w b g o n cap l at') (hc : Chg w w' S) (hb : ¬ S b) (hg : ¬ S g) : Rd w' b g o n cap l at' :=
  ⟨hc.cell h.c0 hb, hc.cell h.c1 hb, hc.cell h.c2 hb, fun i => by
    rw [World.frozen?_of_block (w := w) (a := ⟨b, i, none⟩) (hc.block b (World.block_lt_of_cell? w _ h.c0) hb)]; exact h.fz i, ⟨h.bs.len, h.bs.room, h.bs.top, h.bs.nil, fun a ha j u hu => hc.cell (h.bs.cells a ha j u hu) (by rw [add_block]; cases ha; exact hg)⟩, h.ap, Nat.lt_of_lt_of_le h.gl hc.size, h.bd⟩

/-- The number in the eight bytes at a place; how many rises are told; a rise; the first rises. -/
def n8 (bl : List UInt8) (k : Nat) : Int := wrap64 (val ((bl.drop k).take 8) : Nat)
def cntB (bl : List UInt8) : Nat := val ((bl.drop 16).take 4)
def riseAt (bl : List UInt8) (k : Nat) : Sd := ⟨n8 bl (20 + 16 * k), n8 bl (20 + 16 * k + 8)⟩
def scanL (bl : List UInt8) (n : Nat) : List Sd := (List.range n).map (riseAt bl)
theorem scanL_succ (bl : List UInt8) (k : Nat) : scanL bl (k + 1) = scanL bl k ++ [riseAt bl k] := by simp [scanL, List.range_succ]
theorem scanL_len (bl : List UInt8) (k : Nat) : (scanL bl k).length = k := by simp [scanL]
/-- Bytes that want more; the bytes of an index. -/
def openMore (bl : List UInt8) : Prop := bl.length < 20 ∨ (cntB bl ≤ 65536 ∧ bl.length < 20 + 16 * cntB bl)
structure openOk (bl : List UInt8) : Prop where
  few : cntB bl ≤ 65536
  len : bl.length = 20 + 16 * cntB bl
  lo : 0 ≤ n8 bl 0
  hi : n8 bl 0 ≤ 9007199254740992
  ok : OkI (n8 bl 0) (n8 bl 8) (scanL bl (cntB bl))
/-- What Open answers. -/
def OpenPost (bl : List UInt8) (w : World) (e : Ending) (w' : World) : Prop :=
  w.grownBy w' none ∧ ((openMore bl ∧ e = .returned (.tuple #[.pointer none, .int .i64 111])) ∨ (¬ openMore bl ∧ ¬ openOk bl ∧ e = .returned (.tuple #[.pointer none, .int .i64 220])) ∨
    (openOk bl ∧ ∃ b ro rc, e = .returned (.tuple #[.pointer (some ⟨b, 0, none⟩), .int .i64 0]) ∧ Xd w' b ro rc (n8 bl 0) (n8 bl 8) (scanL bl (cntB bl)) ∧ w.heap.size ≤ b ∧ ∀ k, blk ro = some k → w.heap.size ≤ k))
theorem grown_one {w w' w'' : World} {b : Nat} (h : w.grownBy w' none) (h2 : w'.grownBy w'' (some b)) (hb : w.heap.size ≤ b) : w.grownBy w'' none := grown_trans h h2 (fun k e => Or.inr (by cases e; exact hb))

set_option maxRecDepth 100000 in
set_option maxHeartbeats 4000000 in
theorem open_any (w : World) (bo : Option Addr) (n bc : Nat) (bl : List UInt8) (hb : Bs w bo n bc bl) (hn : n ≤ 1000000) :
    Calls Try.prog 11 #[.slice bo n bc] w fun e w' => OpenPost bl w e w' := by
  have hlen := hb.len
  by_cases h20 : n < 20
  · have d : decide ((n : Int) < 20) = true := by simp; omega
    have hp : OpenPost bl w (.returned (.tuple #[.pointer none, .int .i64 111])) w := ⟨grown_refl _ _, .inl ⟨.inl (by omega), rfl⟩⟩
    clear hlen
    go_enter Try.func11, Try.ntmps11
    go_wp2
    go_ret2
    exact hp
  · have d : decide ((n : Int) < 20) = false := by simp; omega
    have hnw := new_far w bo n bc bl hb (by omega)
    go_enter Try.func11, Try.ntmps11
    go_wp2_with fail
    refine hnw.mono ?_
    clear hnw
    rintro e w1 ⟨br, gr, rfl, hR1, hbr, hgr, hg1⟩
    have hi1 := i64_yes w1 br gr 0 n n _ 0 hR1 (by omega)
    go_wp2_with fail
    refine hi1.mono ?_
    clear hi1
    rintro e w2 ⟨rfl, o2, cap2, hR2, hg2⟩
    have hG2 := grown_one hg1 hg2 hbr
    have hi2 := i64_yes w2 br gr o2 _ cap2 _ _ hR2 (by omega)
    go_wp2_with fail
    refine hi2.mono ?_
    clear hi2
    rintro e w3 ⟨rfl, o3, cap3, hR3, hg3⟩
    have hG3 := grown_one hG2 hg3 hbr
    have hi3 := u32_yes w3 br gr o3 _ cap3 _ _ hR3 (by omega)
    go_wp2_with fail
    refine hi3.mono ?_
    clear hi3
    rintro e w4 ⟨rfl, o4, cap4, hR4, hg4⟩
    have hG4 := grown_one hG3 hg4 hbr
    rw [show n - 8 - 8 - 4 = n - 20 by omega, show 0 + 8 + 8 + 4 = 20 from rfl, List.drop_drop, List.drop_drop] at hR4
    have hc : val ((List.drop 8 (List.drop 8 bl)).take 4) = cntB bl := by rw [List.drop_drop]; rfl
    have hb8 : wrap64 (val (bl.take 8) : Nat) = n8 bl 0 := by simp [n8]
    have he8 : wrap64 (val ((bl.drop 8).take 8) : Nat) = n8 bl 8 := rfl
    rw [hc, hb8, he8]
    have hcl : cntB bl < 4294967296 := by
      have h3 := val_lt ((bl.drop 16).take 4)
      rw [List.length_take, List.length_drop, hlen, Nat.min_eq_left (by omega)] at h3
      exact h3
    obtain ⟨c, hcc⟩ : ∃ c, cntB bl = c := ⟨_, rfl⟩
    obtain ⟨bs, hbs⟩ : ∃ z, n8 bl 0 = z := ⟨_, rfl⟩
    obtain ⟨en, hen⟩ : ∃ z, n8 bl 8 = z := ⟨_, rfl⟩
    rw [hcc] at hcl ⊢
    rw [hbs, hen]
    have hbrl : br < w4.heap.size := World.block_lt_of_cell? w4 _ hR4.c0
    have hgrl := hR4.gl
    clear hR1 hR2 hR3 hg1 hg2 hg3 hg4 hG2 hG3 hc hb8 he8
    by_cases hbig : 65536 < c
    · have d1 : decide ((65536 : Int) < (c : Int)) = true := by simp; omega
      have hp : OpenPost bl w (.returned (.tuple #[.pointer none, .int .i64 220])) w4 := ⟨hG4, .inr (.inl ⟨fun e => by rcases e with e | e; omega; have := e.1; omega, fun e => by have := e.few; omega, rfl⟩)⟩
      clear hbig hcc hbs hen
      go_wp2
      go_ret2
      exact hp
    · have d1 : decide ((65536 : Int) < (c : Int)) = false := by simp; omega
      have hle := left_any w4 br gr o4 _ cap4 _ _ hR4
      have hwc : IntKind.i64.wrap (c : Int) = (c : Int) := by rw [IntWalk.i64_in _ (by omega)]
      have hwm : IntKind.i64.wrap (16 * (c : Int)) = 16 * (c : Int) := by rw [IntWalk.i64_in _ (by omega)]
      obtain ⟨m, hm⟩ : ∃ m, n - 20 = m := ⟨_, rfl⟩
      rw [hm] at hR4 hle
      by_cases hsh : m < 16 * c
      · have d2 : decide ((m : Int) < 16 * (c : Int)) = true := by simp; omega
        have hp : OpenPost bl w (.returned (.tuple #[.pointer none, .int .i64 111])) w4 := ⟨hG4, .inl ⟨.inr (by omega), rfl⟩⟩
        clear hsh hbig hcc hbs hen hm
        go_wp2_with fail
        refine hle.mono ?_
        rintro e w5 ⟨rfl, rfl⟩
        go_wp2
        go_ret2
        exact hp
      · have d2 : decide ((m : Int) < 16 * (c : Int)) = false := by simp; omega
        have hnm : ¬ openMore bl := fun e => by rcases e with e | ⟨e, e2⟩; omega; omega
        have hnmH : Hid _ := hnm
        clear hnm
        by_cases hbad : bs < 0 ∨ 9007199254740992 < bs
        · have hp : OpenPost bl w (.returned (.tuple #[.pointer none, .int .i64 220])) w4 := ⟨hG4, .inr (.inl ⟨hnmH.out, fun e => by have := e.lo; have := e.hi; omega, rfl⟩)⟩
          have hne := new_bad w4 bs hbad
          clear hsh hbig hcc hbs hen hm hbad
          go_wp2_with fail
          refine hle.mono ?_
          rintro e w5 ⟨rfl, rfl⟩
          go_wp2_with fail
          refine hne.mono ?_
          rintro e w5 ⟨rfl, rfl⟩
          go_wp2
          go_ret2
          exact hp
        · have hne := new_ok w4 bs (by omega) (by omega)
          by_cases hlo : 16 * c < m
          · have d3 : decide (16 * (c : Int) < (m : Int)) = true := by simp; omega
            have hno : ¬ openOk bl := fun e => by have := e.len; omega
            have hnoH : Hid _ := hno
            clear hsh hbig hcc hbs hen hm hbad hno
            go_wp2_with fail
            refine hle.mono ?_
            rintro e w5 ⟨rfl, rfl⟩
            go_wp2_with fail
            refine hne.mono ?_
            rintro e w6 ⟨rfl, hX6, hg6⟩
            have hR6 := hR4.kept (Chg.of_grown hg6 (fun _ => False)) (fun e => e) (fun e => e)
            have hle2 := left_any w6 br gr o4 _ cap4 _ _ hR6
            have hp : OpenPost bl w (.returned (.tuple #[.pointer none, .int .i64 220])) w6 := ⟨grown_trans hG4 hg6 (by simp), .inr (.inl ⟨hnmH.out, hnoH.out, rfl⟩)⟩
            clear hne hle
            go_wp2_with fail
            refine hle2.mono ?_
            rintro e w7 ⟨rfl, rfl⟩
            go_wp2
            go_ret2
            exact hp
          · obtain rfl : m = 16 * c := by omega
            have d3 : decide (16 * (c : Int) < ((16 * c : Nat) : Int)) = false := by simp
            have hokl : bl.length = 20 + 16 * cntB bl := by omega
            have hokf : cntB bl ≤ 65536 := by omega
            have hn20 : n = 20 + 16 * c := by omega
            have hokH : Hid (OkI bs en (scanL bl c) → openOk bl) := fun e => ⟨hokf, hokl, by omega, by omega, by rw [hbs, hen, hcc]; exact e⟩
            have hokN : Hid (openOk bl → OkI bs en (scanL bl c)) := fun e => by have := e.ok; rw [hbs, hen, hcc] at this; exact this
            have hbs0 : 0 ≤ bs := by omega
            have hbs1 : bs ≤ 9007199254740992 := by omega
            have hcf : c ≤ 65536 := by omega
            have hbsH : Hid _ := hbs
            have henH : Hid _ := hen
            have hccH : Hid _ := hcc
            have hlenH : Hid (bl.length = 20 + 16 * c) := by show _ = _; omega
            clear hsh hbig hcc hbs hen hm hbad hlo hokl hokf hn20 hlen hb hn h20 d d1
            go_wp2_with fail
            refine hle.mono ?_
            rintro e w5 ⟨rfl, rfl⟩
            go_wp2_with fail
            refine hne.mono ?_
            rintro e w6 ⟨rfl, hX6, hg6⟩
            have hR6 := hR4.kept (Chg.of_grown hg6 (fun _ => False)) (fun e => e) (fun e => e)
            have hle2 := left_any w6 br gr o4 _ cap4 _ _ hR6
            have hG6 := grown_trans hG4 hg6 (by simp)
            obtain ⟨bx, hbx⟩ : ∃ z, w5.heap.size = z := ⟨_, rfl⟩
            rw [hbx] at hX6 hbrl hgrl ⊢
            have hwx : w.heap.size ≤ bx := by have := hG4.size; omega
            have hxl := hX6.lt
            clear hne hle hR4 hG4 hg6 hbx
            go_wp2_with fail
            refine hle2.mono ?_
            clear hle2
            rintro e w7 ⟨rfl, rfl⟩
            go_wp2_with fail
            clear hwc hwm d2 d3
            go_loopw [13, 14, 15, 16, 61] (fun _ _ _ _ v61 wr => ∃ (k o cap : Nat) (po : Option Addr) (pc : Nat), v61 = .int .u32 k ∧ k ≤ c ∧ Rd wr br gr o (16 * (c - k)) cap (bl.drop (20 + 16 * k)) (20 + 16 * k) ∧ Xd wr bx po pc bs bs (scanL bl k) ∧ (∀ q, blk po = some q → w7.heap.size ≤ q) ∧ Chg w7 wr (fun q => q = br ∨ q = bx)) (fun _ _ _ _ v61 _ => c - (intOf v61).toNat)
            case atStart => exact ⟨0, o4, cap4, none, 0, rfl, Nat.zero_le _, by simpa using hR6, hX6, (fun q e => by cases e), Chg.refl _ _⟩
            case round =>
              obtain ⟨k, o, cap, po, pc, rfl, hk, hR, hX, hpo, hC⟩ := hrel
              have hGr : w.grownBy wr none := ((Chg.of_grown hG6 _).trans hC).grown (fun q hq e => by omega)
              by_cases hlt : k < c
              · have d1 : decide ((k : Int) < (c : Int)) = true := by simp; omega
                have hwk : IntKind.u32.wrap ((k : Int) + 1) = ((k + 1 : Nat) : Int) := by rw [IntWalk.u32_in _ (by omega)]; omega
                have hi8 := i64_yes wr br gr o _ cap _ _ hR (by omega)
                have hr8 : wrap64 (val ((bl.drop (20 + 16 * k)).take 8) : Nat) = (riseAt bl k).o := rfl
                rw [hr8, List.drop_drop] at hi8
                go_wp2_with fail
                refine hi8.mono ?_
                clear hi8 hr8
                rintro e w8 ⟨rfl, o8, cap8, hR8, hg8⟩
                have hi9 := i64_yes w8 br gr o8 _ cap8 _ _ hR8 (by omega)
                have hr9 : wrap64 (val ((bl.drop (20 + 16 * k + 8)).take 8) : Nat) = (riseAt bl k).p := rfl
                rw [hr9, List.drop_drop] at hi9
                go_wp2_with fail
                refine hi9.mono ?_
                clear hi9 hr9
                rintro e w9 ⟨rfl, o9, cap9, hR9, hg9⟩
                have hc8 : Chg wr w8 (fun q => q = br) := ⟨hg8.os, hg8.tape, hg8.output, hg8.size, fun q hq hn => hg8.block q hq (fun e => hn (by simpa using e))⟩
                have hc9 : Chg w8 w9 (fun q => q = br) := ⟨hg9.os, hg9.tape, hg9.output, hg9.size, fun q hq hn => hg9.block q hq (fun e => hn (by simpa using e))⟩
                have hC9 := (hC.trans (hc8.mono (fun q _ e => Or.inl e))).trans (hc9.mono (fun q _ e => Or.inl e))
                have hX9 := (hX.chg hc8 (by omega) (fun q hq e => by have := hpo q hq; omega)).chg hc9 (by omega) (fun q hq e => by have := hpo q hq; omega)
                have hsl := scanL_len bl k
                have hss := scanL_succ bl k
                obtain ⟨t, ht⟩ : ∃ t, riseAt bl k = t := ⟨_, rfl⟩
                rw [ht] at hss ⊢
                obtain ⟨L, hL⟩ : ∃ L, scanL bl k = L := ⟨_, rfl⟩
                rw [hL] at hX9 hsl hss
                have hssH : Hid _ := hss
                have x2 := hX9.ix.c2
                rw [hsl] at x2
                have hsw := hX9.sw
                rw [hsl] at hsw
                have ga := alloc_grown w9 (.cells #[.int .i64 t.o, .int .i64 t.p] 64)
                have kf := (Sb.new w9 t.o t.p).shows
                clear hX hR hR8 hg8 hg9 hc8 hc9 hC ht hL hss
                go_wp2_with (at_builtin; (refine wpList_append_sds rfl rfl _ _ rfl 0 rfl (hsw.grown ga) rfl kf (by simp) (by omega) (by simp) ?_))
                intro po' pc' wa hsa hga hata holda
                have hca : Chg (w9.alloc (.cells #[.int .i64 t.o, .int .i64 t.p] 64)) wa (fun q => blk po = some q) := ⟨hga.os, hga.tape, hga.output, hga.size, fun q hq hn => hga.block q hq (fun e => hn e.symm)⟩
                have hCa : Chg w7 wa (fun q => q = br ∨ q = bx) := (hC9.trans (Chg.of_grown ga _)).then' hca (fun q e => Or.inr (hpo q e))
                have hxa : Ix wa bx bs bs po L.length pc := (hX9.ix.chg (Chg.of_grown ga (fun _ => False)) (fun e => e)).chg hca (fun e => by have := hpo _ e; omega)
                rw [hsl] at hxa
                have y2 := hxa.c2
                have z2 := hxa.fz 2
                have hxb := hxa.set2 po' (k + 1) pc'
                have hcb := setCell_chg wa bx 2 (.slice po' (k + 1) pc')
                have hCb := hCa.trans (hcb.mono (fun q _ e => Or.inr e))
                have hpo2 : ∀ q, blk po' = some q → w7.heap.size ≤ q := fun q e => by
                  rcases hata with ⟨e1, _⟩ | e1
                  · rw [e1] at e; exact hpo q e
                  · rw [e1] at e
                    cases e
                    exact Nat.le_succ_of_le hC9.size
                have hsb := hsa.chg hcb (fun q hq e => by have := hpo2 q hq; omega)
                have hRb := ((hR9.kept (Chg.of_grown ga (fun _ => False)) (fun e => e) (fun e => e)).kept hca (fun e => by have := hpo _ e; omega) (fun e => by have := hpo _ e; omega)).kept hcb (by omega) (by omega)
                have hll : (L ++ [t]).length = k + 1 := by simp [hsl]
                have hXb : Xd (wa.setCell ⟨bx, 2, none⟩ (.slice po' (k + 1) pc')) bx po' pc' bs bs (L ++ [t]) := ⟨by rw [hll]; exact hxb, by rw [hll]; exact hsb, by omega⟩
                clear hca hCa hxa hcb hsa hga hata holda hX9 hR9 hsw kf ga hsb hxb x2
                go_wp2
                go_roundw
                case rel =>
                  refine ⟨k + 1, o9, cap9, po', pc', by simp, by omega, ?_, by rw [hssH.out]; exact hXb, hpo2, hCb⟩
                  rw [show 16 * (c - (k + 1)) = 16 * (c - k) - 8 - 8 by omega, show 20 + 16 * (k + 1) = 20 + 16 * k + 8 + 8 by omega]
                  exact hRb
                case measure => simp [intOf]; omega
              · obtain rfl : k = c := by omega
                have d1 : decide ((k : Int) < (k : Int)) = false := by simp
                have x1 := hX.ix.c1
                have y1 := hX.ix.fz 1
                have hI2 := hX.ix.set1 en
                have hc2 := setCell_chg wr bx 1 (.int .i64 en)
                have hX2 : Xd (wr.setCell ⟨bx, 1, none⟩ (.int .i64 en)) bx po pc bs en (scanL bl k) := ⟨hI2, hX.sw.chg hc2 (fun q hq e => by have := hpo q hq; omega), hX.few⟩
                have hG2 : w.grownBy (wr.setCell ⟨bx, 1, none⟩ (.int .i64 en)) none := ((Chg.of_grown hGr _).trans hc2).grown (fun q hq e => by omega)
                have hri := right_any hX2 hbs0 hbs1
                go_wp2_with fail
                generalize wr.setCell ⟨bx, 1, none⟩ (.int .i64 en) = wq at *
                refine hri.mono ?_
                rintro e wz ⟨v, rfl, hv, hgz⟩
                have hGz := grown_trans hG2 hgz (by simp)
                have hXz := hX2.grown hgz
                cases v with
                | true =>
                  have hok := hokH.out (hv.1 rfl)
                  have hp : OpenPost bl w (.returned (.tuple #[.pointer (some ⟨bx, 0, none⟩), .int .i64 0])) wz := ⟨hGz, .inr (.inr ⟨hok, bx, po, pc, rfl, by rw [hbsH.out, henH.out, hccH.out]; exact hXz, hwx, fun q e => by have := hpo q e; omega⟩)⟩
                  clear hri hX2 hX
                  go_wp2
                  go_ret2
                  exact hp
                | false =>
                  have hp : OpenPost bl w (.returned (.tuple #[.pointer none, .int .i64 220])) wz := ⟨hGz, .inr (.inl ⟨hnmH.out, (fun e => by have := hv.2 (hokN.out e); cases this), rfl⟩)⟩
                  clear hri hX2 hX
                  go_wp2
                  go_ret2
                  exact hp
end Go.Proofs.Ytmnfdiffneobpaa
