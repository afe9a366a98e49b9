/-
  IndexCuts: the walk.
-/
import Derived.Test.YtbnoemfhcpjdjaaDoorF1
import Derived.Test.YtbnoemfhcpjdjaaDoorE2
import Derived.Test.YtbnoemfhcpjdjaaDoorE3
import Derived.Test.YtbnoemfhcpjdjaaDoorD1
import Derived.Test.YtbnoemfhcpjdjaaDoorF3
import Derived.Test.YtbnoemfhcpjdjaaDoorF4
namespace Go.Proofs.YtbnoemfhcpjdjaaDoor
open Go.RowKit Go.Shelf
set_option linter.unusedVariables false
attribute [local go_sem] Oper.semAt_some

/-- A slice of small numbers: what it shows. -/
structure Us (w : World) (o : Option Addr) (n c : Nat) (l : List Nat) : Prop where
  len : l.length = n
  pl : 0 < n → ∃ b i, o = some ⟨b, i, none⟩ ∧ ∀ j x, l[j]? = some x → w.cell? ⟨b, i + j, none⟩ = some (.int .u16 (x : Nat))
  small : ∀ x ∈ l, x < 65536
theorem Us.grown {w w' : World} {o : Option Addr} {n c : Nat} {l : List Nat} (h : Us w o n c l) (hg : w.grownBy w' none) : Us w' o n c l :=
  ⟨h.len, fun hn => by
    obtain ⟨b, i, h1, h2⟩ := h.pl hn
    exact ⟨b, i, h1, fun j x hx => hg.cell (h2 j x hx) (by simp)⟩, h.small⟩

/-- Between two rounds of the first loop, and of the second. -/
def BtwA (w9 : World) (z9 : Nat) (place : Int) (pre : List Sd) (W : World) : Prop :=
  ∃ ro rc, Boxed W z9 29 (.slice ro (pre.filter (fun s => decide (s.p < place))).length rc) ∧ Sw W w9.heap.size ro (pre.filter (fun s => decide (s.p < place))).length rc (pre.filter (fun s => decide (s.p < place))) ∧ Chg w9 W (fun q => q = z9)
def BtwB (wA : World) (z10 : Nat) (pre : List Sd) (W : World) : Prop := Boxed W z10 3 (.int .i64 (pre.length : Nat)) ∧ Chg wA W (fun q => q = z10)
theorem Chg.ext {w A B : World} {S : Nat → Prop} {row : Option Nat} (h : Chg w A S) (hg : A.grownBy B row) (hr : ∀ q, row = some q → w.heap.size ≤ q) : Chg w B S :=
  ⟨hg.os.trans h.os, hg.tape.trans h.tape, hg.output.trans h.output, Nat.le_trans h.size hg.size, fun k hk hn => (hg.block k (Nat.lt_of_lt_of_le hk h.size) (fun e => by have := hr k e.symm; omega)).trans (h.block k hk hn)⟩
theorem Chg.then' {w A B : World} {S T : Nat → Prop} (h : Chg w A S) (h2 : Chg A B T) (hT : ∀ q, T q → S q ∨ w.heap.size ≤ q) : Chg w B S :=
  ⟨h2.os.trans h.os, h2.tape.trans h.tape, h2.output.trans h.output, Nat.le_trans h.size h2.size, fun k hk hn => (h2.block k (Nat.lt_of_lt_of_le hk h.size) (fun e => by rcases hT k e with e | e; exact hn e; omega)).trans (h.block k hk hn)⟩
theorem Sw.cells {w : World} {base : Nat} {ao : Option Addr} {n cap : Nat} {l : List Sd} (h : Sw w base ao n cap l) (q : Nat) (hq : blk ao = some q) : ∃ cs t fr, w.heap[q]? = some (.cells cs t fr) := by
  rcases h.row.2 with ⟨hv, _⟩ | ⟨g, c, cur, hv, hg, r, r2⟩
  · cases hv; cases hq
  · cases hv
    cases hq
    exact ⟨_, _, _, r⟩
theorem KeepsFrom.of_chg' {B : Nat} {W V : World} {S : Nat → Prop} (hc : Chg W V S) (hS : ∀ k, S k → k < B ∨ ∃ cs t fr, W.heap[k]? = some (.cells cs t fr)) : KeepsFrom B W V :=
  ⟨hc.size, fun k o hB hk ho => (hc.block k (lt_of_heap hk) (fun e => by
    rcases hS k e with h | ⟨cs, t, fr, h⟩
    · omega
    · rw [hk] at h
      cases h
      cases ho)).trans hk⟩
theorem BtwA.own {w9 : World} {z9 : Nat} {place : Int} : OwnFrom w9.heap.size (BtwA w9 z9 place) := by
  rintro s A V row ⟨ro, rc, h1, h2, h3⟩ hg hr
  refine ⟨ro, rc, box_own h1 hg (fun r e => (hr r e).2), h2.chg (S := fun k => row = some k) ⟨hg.os, hg.tape, hg.output, hg.size, fun k hk hn => hg.block k hk (fun e => hn e.symm)⟩ (fun k hk e => ?_), h3.ext hg (fun q e => (hr q e).1)⟩
  obtain ⟨cs, t, fr, h9⟩ := h2.cells k hk
  obtain ⟨o, h8, h7⟩ := (hr k e).2
  rw [h9] at h8
  cases h8
  cases h7
theorem BtwB.own {wA : World} {z10 : Nat} : OwnFrom wA.heap.size (BtwB wA z10) := by
  rintro s A V row ⟨h1, h2⟩ hg hr
  exact ⟨box_own h1 hg (fun r e => (hr r e).2), h2.ext hg (fun q e => (hr q e).1)⟩
theorem Xd.apart {w w5 w6 : World} {base b b2 : Nat} {st : Int} {l : List Sd} (h : Xd w base b st l) (hg : w.grownBy w5 none) (hc : Chg w5 w6 (fun k => k = b2)) (hb : w.heap.size ≤ b2) : Xd w6 base b st l := by
  obtain ⟨⟨ro, rc, h1, h2⟩, h3, h4⟩ := h
  have hC : Chg w w6 (fun k => k = b2) := (Chg.of_grown hg _).trans hc
  exact ⟨⟨ro, rc, h1.chg hC (fun e => by have := h1.lt; omega), h2.chg hC (fun k hk e => by have := (h2.from_base k hk).2; omega)⟩, h3, h4⟩

theorem fin6 {w W : World} {z : Nat} {v : Value} (b : Boxed W z 4 v) (hg : w.grownBy W none) (hz : w.heap.size ≤ z) : (W.setCell ⟨z, 0, none⟩ (.bool true)).cell? ⟨z, 0, none⟩ = some (.bool true) ∧ w.grownBy (W.setCell ⟨z, 0, none⟩ (.bool true)) none :=
  ⟨(b.set (.bool true)).cell, ((Chg.of_grown hg (fun k => k = z)).trans (setCell_chg W z 0 _)).grown (fun k hk e => by omega)⟩

set_option maxRecDepth 100000 in
set_option maxHeartbeats 4000000 in
theorem indexCuts_any (w : World) (hD : Dt w) (st : Int) (so : Option Addr) (n c : Nat) (us : List Nat) (hu : Us w so n c us) (place : Int) : Calls Tryd.prog 7 #[.int .i64 st, .slice so n c, .int .i64 place] w fun e w' => e = .returned (.bool true) ∧ w.grownBy w' none := by
  have hg1 := alloc_grown w (.cells #[.int .i64 place] 3)
  have hg2 := alloc_grown (w.alloc (.cells #[.int .i64 place] 3)) (.cells #[.bool false] 4)
  have hg := grown_trans hg1 hg2 (by simp)
  have b5 := box_own (Boxed.new w 3 (.int .i64 place)) hg2 (fun r e => by cases e)
  have b6 := Boxed.new (w.alloc (.cells #[.int .i64 place] 3)) 4 (.bool false)
  rw [World.size_alloc] at b6
  refine (callsIn_wide (n := 5)).1 ?_
  refine callsIn_of_wp_marks Tryd.func7 rfl trivial ?_
  simp only [Tryd.ntmps7, List.size_toArray, List.length_cons, List.length_nil, Nat.reduceAdd, Nat.reduceSub, Array.replicate_succ, Array.replicate_zero, List.push_toArray, List.append_toArray, List.nil_append, List.cons_append]
  by_cases hn : 300 < n
  · have d1 : decide ((300 : Int) < (n : Int)) = true := by simp; omega
    gi_wp2_with fail
    generalize (w.alloc (.cells #[.int .i64 place] 3)).alloc (.cells #[.bool false] 4) = w2 at *
    refine ⟨trivial, callsIn_wide.2 ((known_any _ (hD.grown hg)).mono ?_)⟩
    rintro e w3 ⟨rfl, hg3⟩
    have b63 := box_own b6 hg3 (fun r e => by cases e)
    have c6 := b63.cell
    have f6 := b63.frozen
    obtain ⟨p1, p2⟩ := fin6 b63 (grown_trans hg hg3 (by simp)) (by omega)
    gi_wp2
    exact ⟨.bool true, results_bool rfl _ _ (w.heap.size + 1) true rfl p1, rfl, p2⟩
  · have d1 : decide ((300 : Int) < (n : Int)) = false := by simp; omega
    by_cases hst : st < 1 ∨ 16777216 < st
    · gi_wp2_with fail
      generalize (w.alloc (.cells #[.int .i64 place] 3)).alloc (.cells #[.bool false] 4) = w2 at *
      refine ⟨trivial, callsIn_wide.2 ((new_bad _ st hst).mono ?_)⟩
      rintro e w3 ⟨rfl, rfl⟩
      gi_wp2_with fail
      refine ⟨trivial, callsIn_wide.2 ((known_any _ (hD.grown hg)).mono ?_)⟩
      rintro e w4 ⟨rfl, hg4⟩
      have b64 := box_own b6 hg4 (fun r e => by cases e)
      have c6 := b64.cell
      have f6 := b64.frozen
      obtain ⟨p1, p2⟩ := fin6 b64 (grown_trans hg hg4 (by simp)) (by omega)
      gi_wp2
      exact ⟨.bool true, results_bool rfl _ _ (w.heap.size + 1) true rfl p1, rfl, p2⟩
    · have hs1 : 1 ≤ st := by omega
      have hs2 : st ≤ 16777216 := by omega
      gi_wp2_with fail
      have hsz2 : ((w.alloc (.cells #[.int .i64 place] 3)).alloc (.cells #[.bool false] 4)).heap.size = w.heap.size + 2 := by simp
      generalize (w.alloc (.cells #[.int .i64 place] 3)).alloc (.cells #[.bool false] 4) = w2 at *
      refine ⟨trivial, callsIn_wide.2 ((new_ok _ st hs1 hs2).mono ?_)⟩
      rintro e w3 ⟨b, rfl, hX3, hg3⟩
      rw [hsz2] at hX3
      have hulen := hu.len
      gi_wp2_with fail
      gi_loopw [9, 10] (fun v9 v10 wr => ∃ (i : Nat) (at' : Nat) (l : List Sd), v9 = .int .i64 at' ∧ v10 = .int .i64 i ∧ i ≤ n ∧ at' ≤ 16777216 + 65536 ∧ Lp l i at' ∧ Xd wr (w.heap.size + 2) b st l ∧ Chg w3 wr (fun k => w.heap.size + 2 ≤ k)) (fun _ v10 _ => n - (intOf v10).toNat)
      case atStart => exact ⟨0, 0, [], rfl, rfl, Nat.zero_le _, by omega, Lp.nil, hX3, Chg.refl _ _⟩
      case round =>
        obtain ⟨i, at', l, rfl, rfl, hi, ha, hL, hX, hC⟩ := hrel
        have hCw : Chg w2 wr (fun k => w.heap.size + 2 ≤ k) := (Chg.of_grown hg3 _).trans hC
        have hGw : w2.grownBy wr none := hCw.grown (fun k hk e => by omega)
        by_cases hlt : i < n ∧ at' ≤ 16777216
        · have e1 : decide ((i : Int) < (n : Int)) = true := by simp; omega
          have e2 : decide ((at' : Int) ≤ 16777216) = true := by simp; omega
          obtain ⟨x, hx⟩ : ∃ x, us[i]? = some x := ⟨_, List.getElem?_eq_getElem (by omega)⟩
          have hx6 := hu.small x (List.mem_of_getElem? hx)
          obtain ⟨q, f, rfl, hcl⟩ := hu.pl (by omega)
          have hq := hGw.cell (hg.cell (hcl i x hx) (by simp)) (by simp)
          obtain ⟨r1, r2⟩ := hL.step st (by omega) (by omega) x (by omega)
          have hlen := hL.few
          have hal := addR_len st l ⟨i, at'⟩
          have hadd := add_any hX (hD.grown (grown_trans hg hGw (by simp))) hL.good hs1 (by omega) ⟨i, at'⟩
          rw [r1] at hadd
          unfold Sd.val at hadd
          have i1 : (0 : Int) ≤ (i : Int) := by omega
          have i2 : (i : Int) < (n : Int) := by omega
          generalize (addR st l ⟨i, at'⟩).2.2 = l2 at *
          generalize (addR st l ⟨i, at'⟩).1 = ab at *
          clear r1
          gi_wp2_with fail
          refine ⟨trivial, callsIn_wide.2 (hadd.mono ?_)⟩
          clear hadd
          rintro e w5 ⟨rfl, hX5, hc5⟩
          have hql : q < w.heap.size := World.block_lt_of_cell? w _ (hcl i x hx)
          have hq5 := hc5.cell hq (by show ¬ (w.heap.size + 2 ≤ q); omega)
          have hC5 := hC.trans hc5
          clear hq hX hC hCw hGw hL hcl
          gi_wp2
          go_roundw
          case rel => exact ⟨i + 1, at' + x + 1, l2, by go_num, by go_num, by omega, by omega, by simpa using r2, hX5, hC5⟩
          case measure => simp [intOf]; omega
        · by_cases hi2 : i < n
          · have e1 : decide ((i : Int) < (n : Int)) = true := by simp; omega
            have e2 : decide ((at' : Int) ≤ 16777216) = false := by simp; omega
            have hG : w.grownBy wr none := grown_trans hg hGw (by simp)
            have b5r := box_own b5 hGw (fun r e => by cases e)
            have b6r := box_own b6 hGw (fun r e => by cases e)
            have hszr : w.heap.size + 2 ≤ wr.heap.size := by have := hGw.size; omega
            have hcp := copy_any hX hs1
            have hfew := hL.few
            have hgood := hL.good
            have hsrt := hL.srt
            have hll : l.length ≤ 300 := by omega
            have hDr := hD.grown hG
            clear hL hC hCw hulen hu
            gi_wp2_with fail
            refine ⟨trivial, callsIn_wide.2 (hcp.mono ?_)⟩
            clear hcp
            rintro e w5 ⟨b2, rfl, hX5, hg5⟩
            have hb2 := hX5.ge
            have k5 := (box_own b5r hg5 (fun r e => by cases e)).cell
            have hcu := cut_any hX5 hs1 hsrt place
            gi_wp2_with fail
            refine ⟨trivial, callsIn_wide.2 (hcu.mono ?_)⟩
            clear hcu k5
            rintro e w6 ⟨rfl, hX6, hc6⟩
            have hX6x := hX.apart hg5 hc6 hb2
            have hG6 : wr.grownBy w6 none := ((Chg.of_grown hg5 _).trans hc6).grown (fun k hk e => by omega)
            have hcl : cutR place l ≤ l.length := cnt_le _ _
            have hfil := cut_filter hsrt place
            obtain ⟨m, hm⟩ : ∃ m, l.take (cutR place l) = m := ⟨_, rfl⟩
            have hml : cutR place l = m.length := by rw [← hm]; simp; omega
            have hmsub : m.Sublist l := by rw [← hm]; exact List.take_sublist _ _
            rw [hm] at hX6 hfil
            rw [hml] at hcl ⊢
            have hfil' : Hid _ := hfil
            clear hm hml hX hX5 hg5 hc6 hfil
            have hal := all_any hX6x hs1
            gi_wp2_with fail
            refine ⟨trivial, callsIn_wide.2 (hal.mono ?_)⟩
            clear hal
            rintro e w7 ⟨ro7, rc7, rfl, hb7, hs7, hg7⟩
            have hao := all_any (hX6.grown hg7) hs1
            gi_wp2_with fail
            refine ⟨trivial, callsIn_wide.2 (hao.mono ?_)⟩
            clear hao
            rintro e w8 ⟨ro8, rc8, rfl, hb8, hs8, hg8⟩
            have hG8 : wr.grownBy w8 none := grown_trans (grown_trans hG6 hg7 (by simp)) hg8 (by simp)
            obtain ⟨z7, hz7⟩ : ∃ z, w6.heap.size = z := ⟨_, rfl⟩
            obtain ⟨z8, hz8⟩ : ∃ z, w7.heap.size = z := ⟨_, rfl⟩
            have hs67 := hg7.size
            rw [hz7] at hb7 hs7 ⊢
            rw [hz8] at hb8 hs8 ⊢
            have hb78 := box_own hb7 hg8 (fun r e => by cases e)
            have hs78 := hs7.chg (Chg.of_grown hg8 (fun _ => False)) (fun _ _ e => e)
            have hX8x := (hX6x.grown hg7).grown hg8
            have hX8 := (hX6.grown hg7).grown hg8
            have heq7 := fun W => run_eql_fn W 62 _ _ _ Tryd.underlying62 (.func 43) #[] #[.pointer (some ⟨z7, 0, none⟩)]
            have heq8 := fun W => run_eql_fn W 62 _ _ _ Tryd.underlying62 (.func 43) #[] #[.pointer (some ⟨z8, 0, none⟩)]
            clear hb7 hs7 hX6 hX6x hg7 hg8 hG6 hz7 hz8
            gi_wp2_with fail
            refine ⟨trivial, callsIn_wide.2 ((len_any hX8x hs1).mono ?_)⟩
            rintro e w8 ⟨rfl, rfl⟩
            gi_wp2_with fail
            refine ⟨trivial, callsIn_wide.2 ((len_any hX8 hs1).mono ?_)⟩
            rintro e w8 ⟨rfl, rfl⟩
            have hwr : IntKind.i64.wrap ((l.length : Int) - (m.length : Int)) = ((l.length - m.length : Nat) : Int) := by rw [IntWalk.i64_in _ (by omega)]; omega
            gi_wp2_with fail
            clear heq7 heq8 hwr
            have hg9 := alloc_grown w8 (.cells #[.slice none 0 0] 29)
            have hb9 := Boxed.new w8 29 (.slice none 0 0)
            obtain ⟨z9, hz9⟩ : ∃ z, w8.heap.size = z := ⟨_, rfl⟩
            have hs89 : (w8.alloc (.cells #[.slice none 0 0] 29)).heap.size = z9 + 1 := by simp [hz9]
            rw [hz9] at hb9 ⊢
            have hb79 := box_own hb78 hg9 (fun r e => by cases e)
            have hs79 := hs78.chg (Chg.of_grown hg9 (fun _ => False)) (fun _ _ e => e)
            have hb89 := box_own hb8 hg9 (fun r e => by cases e)
            have hs89' := hs8.chg (Chg.of_grown hg9 (fun _ => False)) (fun _ _ e => e)
            have hG9 := grown_trans hG8 hg9 (by simp)
            have b59 := box_own b5r hG9 (fun r e => by cases e)
            have b69 := box_own b6r hG9 (fun r e => by cases e)
            have hz7l := hb78.lt
            have hz8l := hb8.lt
            have hr7 : ∀ q, blk ro7 = some q → q < z9 := fun q e => by have := (hs78.from_base q e).2; omega
            have hr8 : ∀ q, blk ro8 = some q → q < z9 := fun q e => by have := (hs8.from_base q e).2; omega
            have h9w : w.heap.size + 2 ≤ z9 := by have := hG8.size; omega
            have h9r : wr.heap.size ≤ z9 := by have := hG8.size; omega
            clear hb78 hs78 hb8 hs8 hX8x hG8
            generalize w8.alloc (.cells #[.slice none 0 0] 29) = w9 at *
            have hKl : ∀ q, (q = z7 ∨ blk ro7 = some q) → q < w9.heap.size := fun q e => by
              rcases e with rfl | e
              · omega
              · have := hr7 q e; omega
            have hKn : ∀ q, (q = z7 ∨ blk ro7 = some q) → q ≠ z9 := fun q e => by
              rcases e with rfl | e
              · omega
              · have := hr7 q e; omega
            apply wpIn_rangeFunc_told (α := Sd) (encs := fun t => #[t.val]) (Kp := Stay (fun q => q = z7 ∨ blk ro7 = some q)) (w0 := w9) rfl (by decide) (gf := 43) (lb := #[.pointer (some ⟨z7, 0, none⟩)]) rfl trivial (enters_of Tryd.func43 (by kernel_rfl) rfl)
              (all1_stay 4 (by decide) w9 z7 z7 _ ro7 l.length rc7 l hb79 hs79 (Or.inl rfl) (fun q e => Or.inr e) hKl (by omega)) (fun h1 h2 => h1.trans h2)
              (fun W q o1 o2 hq h1 h2 h3 => ⟨by simp, fun i hi => World.putObj_heap_other (by have := hKl i hi; omega)⟩) (Below.refl _ _) (fun t => rfl)
              (BtwA w9 z9 place)
              (fun _ _ _ => False)
              BtwA.own
              (fun cd s A V row hs hg hr => hs.elim)
              ⟨none, 0, hb9, Sw.nil _ _, Chg.refl _ _⟩
              (fun pre t a' W => l[pre.length]? = some t ∧ ∃ zf, Sb W zf t.o t.p ∧ ∃ v0 v1 v2 v3 v4 v6 v7 v8 v9 v10 v11 v12 v13 v14 v15 v16 v19 v20 v21 v22 v23 v24 v25 v26 v27 v28 v29 v30 v31 v32 v33 v34 v35 v36 v37 v38 v39 v40 v41 v42 v43 v44 v45 v46 v47 v48 v49 v50 v51 v52 v53 v54 v55 v56 v57 v58 v59 v60 v61 v62 v63 v64 v65 v66 v67 v68 v69 v70 v71 v72 v73 v74 v75 v76 v77 v78 v79 v80 v81 v82 v83 v84 v85 v86 v87 v88 v89 v90 v91 v92 v93 v94 v95 v96 v97 v98 v99 v100 v101 v102 v103 v104 v105 v106 v107 v108 v109 v110 v111 v112 v113 v114 v115 v116 v117 v118 v119 v120 v121 v122 v123 v124 v125 v126 v127 v128 v129 v130 v131 v132 v133 v134 v135 v136 v137 v138 v139 v140 v141 v142 v143 v144 v145 v146 v147 v148 v149 : Value, a' = { tmps := #[v0, v1, v2, v3, v4, .pointer (some ⟨w.heap.size, 0, none⟩), v6, v7, v8, v9, v10, v11, v12, v13, v14, v15, v16, .pointer (some ⟨z9, 0, none⟩), .pointer (some ⟨zf, 0, none⟩), v19, v20, v21, v22, v23, v24, v25, v26, v27, v28, v29, v30, v31, v32, v33, v34, v35, v36, v37, v38, v39, v40, v41, v42, v43, v44, v45, v46, v47, v48, v49, v50, v51, v52, v53, v54, v55, v56, v57, v58, v59, v60, v61, v62, v63, v64, v65, v66, v67, v68, v69, v70, v71, v72, v73, v74, v75, v76, v77, v78, v79, v80, v81, v82, v83, v84, v85, v86, v87, v88, v89, v90, v91, v92, v93, v94, v95, v96, v97, v98, v99, v100, v101, v102, v103, v104, v105, v106, v107, v108, v109, v110, v111, v112, v113, v114, v115, v116, v117, v118, v119, v120, v121, v122, v123, v124, v125, v126, v127, v128, v129, v130, v131, v132, v133, v134, v135, v136, v137, v138, v139, v140, v141, v142, v143, v144, v145, v146, v147, v148, v149], defers := [] })
            case hAx =>
              rintro pre t a' _ A V row ⟨t1, zf, t2, t3⟩ hg hr
              exact ⟨t1, zf, t2.own hg (fun r e => (hr r e).2), t3⟩
            case hassign =>
              intro pre t W K hI hT hK
              simp only [Sd.val]
              have ga := alloc_grown W (.cells #[.int .i64 t.o, .int .i64 t.p] 33)
              have kf := Sb.new W t.o t.p
              have hI2 := BtwA.own pre _ _ none hI ga (fun q e => by cases e)
              have hst : Stay (fun q => q = z7 ∨ blk ro7 = some q) W (W.alloc (.cells #[.int .i64 t.o, .int .i64 t.p] 33)) := Stay.grown ga (fun q hq => by obtain ⟨_, _, _, _, hc⟩ := hI; exact Nat.lt_of_lt_of_le (hKl q hq) hc.size)
              clear hI
              gi_wp2
              exact hK _ _ ((KeepsOthers.alloc W _).from _) hst hI2 ⟨hT, _, kf, _, _, _, _, _, _, _, _, _, _, _, _, _, _, _, _, _, _, _, _, _, _, _, _, _, _, _, _, _, _, _, _, _, _, _, _, _, _, _, _, _, _, _, _, _, _, _, _, _, _, _, _, _, _, _, _, _, _, _, _, _, _, _, _, _, _, _, _, _, _, _, _, _, _, _, _, _, _, _, _, _, _, _, _, _, _, _, _, _, _, _, _, _, _, _, _, _, _, _, _, _, _, _, _, _, _, _, _, _, _, _, _, _, _, _, _, _, _, _, _, _, _, _, _, _, _, _, _, _, _, _, _, _, _, _, _, _, _, _, _, _, _, _, _, _, _, _, rfl⟩
            case hbody =>
              rintro pre t a' W hq ⟨ro, rc, j1, j2, j3⟩ ⟨t1, zf, t2, t3⟩
              have hpl : pre.length < l.length := (List.getElem?_eq_some_iff.1 t1).1
              have hfl : (pre.filter (fun s => decide (s.p < place))).length ≤ pre.length := List.length_filter_le _ _
              refine wpIn_mono (roundA' (by kernel_rfl) _ W w.heap.size z9 zf w9.heap.size place ro rc _ t (j3.cell b59.cell (by show w.heap.size ≠ z9; omega)) j1 j2 t2 (by omega) j3.size (by omega) a' t3) ?_
              rintro e a'' V ⟨rfl, ro', rc', r1, r2, r3⟩
              have hfs : (pre ++ [t]).filter (fun s => decide (s.p < place)) = if t.p < place then pre.filter (fun s => decide (s.p < place)) ++ [t] else pre.filter (fun s => decide (s.p < place)) := by
                rw [List.filter_append]
                by_cases hp : t.p < place <;> simp [hp]
              rw [← hfs] at r1 r2
              refine ⟨KeepsFrom.of_chg' r3 (fun q e => ?_), Stay.chg r3 (fun q e => Nat.lt_of_lt_of_le (hKl q e) j3.size) (fun q e h9 => ?_), ro', rc', r1, r2, j3.then' r3 (fun q e => ?_)⟩
              · rcases e with e | e
                · left; omega
                · right; exact j2.cells q e
              · rcases h9 with h9 | h9
                · exact hKn q e h9
                · have h8 := (j2.from_base q h9).1
                  have := hKl q e
                  omega
              · rcases e with e | e
                · exact Or.inl e
                · exact Or.inr (j2.from_base q e).1
            case hstop =>
              intro Dd c pre W _ _ hf
              exact hf.elim
            case hdone =>
              rintro D1 xs W hD1 hxs ⟨ro, rc, j1, j2, j3⟩ hK1
              subst hxs
              rw [← hfil'.out] at j1 j2
              have j9 := j3.size
              have hD1z : D1 ≠ z9 := fun e => by subst e; omega
              have b5W : Boxed W w.heap.size 3 (.int .i64 place) := (j3.block _ b59.lt (by omega)).trans b59
              have b6W : Boxed W (w.heap.size + 1) 4 (.bool false) := (j3.block _ b69.lt (by omega)).trans b69
              have hb8W : Boxed W z8 29 (.slice ro8 m.length rc8) := (j3.block _ hb89.lt (by omega)).trans hb89
              have hs8W := hs89'.chg j3 (fun q e => by have := hr8 q e; omega)
              have hXW := hX8.apart hg9 j3 (by omega)
              have hGW : wr.grownBy W none := ((Chg.of_grown hG9 _).trans j3).grown (fun k hk e => by omega)
              gi_wp2_with fail
              have hgA := alloc_grown W (.cells #[.int .i64 0] 3)
              have hb10 := Boxed.new W 3 (.int .i64 0)
              obtain ⟨z10, hz10⟩ : ∃ z, W.heap.size = z := ⟨_, rfl⟩
              have hsA : (W.alloc (.cells #[.int .i64 0] 3)).heap.size = z10 + 1 := by simp [hz10]
              rw [hz10] at hb10 ⊢
              have hK1A := heap_kept hgA hK1 (by simp)
              have hD1l : D1 < z10 := by have := lt_of_heap hK1; omega
              have k9A := box_own j1 hgA (fun r e => by cases e)
              have s9A := j2.chg (Chg.of_grown hgA (fun _ => False)) (fun _ _ e => e)
              have b6A := box_own b6W hgA (fun r e => by cases e)
              have hb8A := box_own hb8W hgA (fun r e => by cases e)
              have hs8A := hs8W.chg (Chg.of_grown hgA (fun _ => False)) (fun _ _ e => e)
              have hGA := grown_trans hGW hgA (by simp)
              have hr9 : ∀ q, blk ro = some q → q < z10 := fun q e => by have := (j2.from_base q e).2; omega
              have hb9l := j1.lt
              clear hb9 hb79 hs79 hb89 hs89' hG9 b59 b69 hKl hKn j1 j2 j3 b5W b6W hb8W hs8W hGW hK1 hX8 hg9
              generalize W.alloc (.cells #[.int .i64 0] 3) = wA at *
              have hKl : ∀ q, (q = z8 ∨ blk ro8 = some q) → q < wA.heap.size := fun q e => by
                rcases e with rfl | e
                · omega
                · have := hr8 q e; omega
              have hKn : ∀ q, (q = z8 ∨ blk ro8 = some q) → q ≠ z10 := fun q e => by
                rcases e with rfl | e
                · omega
                · have := hr8 q e; omega
              apply wpIn_rangeFunc_told (α := Sd) (encs := fun t => #[t.val]) (Kp := Stay (fun q => q = z8 ∨ blk ro8 = some q)) (w0 := wA) rfl (by decide) (gf := 43) (lb := #[.pointer (some ⟨z8, 0, none⟩)]) rfl trivial (enters_of Tryd.func43 (by kernel_rfl) rfl)
                (all1_stay 4 (by decide) wA z8 z8 _ ro8 m.length rc8 m hb8A hs8A (Or.inl rfl) (fun q e => Or.inr e) hKl (by omega)) (fun h1 h2 => h1.trans h2)
                (fun W q o1 o2 hq h1 h2 h3 => ⟨by simp, fun i hi => World.putObj_heap_other (by have := hKl i hi; omega)⟩) (Below.refl _ _) (fun t => rfl)
                (BtwB wA z10)
                (fun _ _ _ => False)
                BtwB.own
                (fun cd s A V row hs hg hr => hs.elim)
                ⟨hb10, Chg.refl _ _⟩
                (fun pre t a' W => m[pre.length]? = some t ∧ ∃ zf, Sb W zf t.o t.p ∧ ∃ v0 v1 v2 v3 v4 v5 v6 v7 v8 v9 v10 v11 v12 v13 v14 v15 v16 v18 v21 v22 v23 v24 v25 v26 v27 v28 v29 v30 v31 v32 v33 v34 v35 v36 v37 v38 v39 v40 v41 v42 v43 v44 v45 v46 v47 v48 v49 v50 v51 v52 v53 v54 v55 v56 v57 v58 v59 v60 v61 v62 v63 v64 v65 v66 v67 v68 v69 v70 v71 v72 v73 v74 v75 v76 v77 v78 v79 v80 v81 v82 v83 v84 v85 v86 v87 v88 v89 v90 v91 v92 v93 v94 v95 v96 v97 v98 v99 v100 v101 v102 v103 v104 v105 v106 v107 v108 v109 v110 v111 v112 v113 v114 v115 v116 v117 v118 v119 v120 v121 v122 v123 v124 v125 v126 v127 v128 v129 v130 v131 v132 v133 v134 v135 v136 v137 v138 v139 v140 v141 v142 v143 v144 v145 v146 v147 v148 v149 : Value, a' = { tmps := #[v0, v1, v2, v3, v4, v5, v6, v7, v8, v9, v10, v11, v12, v13, v14, v15, v16, .pointer (some ⟨z9, 0, none⟩), v18, .pointer (some ⟨z10, 0, none⟩), .pointer (some ⟨zf, 0, none⟩), v21, v22, v23, v24, v25, v26, v27, v28, v29, v30, v31, v32, v33, v34, v35, v36, v37, v38, v39, v40, v41, v42, v43, v44, v45, v46, v47, v48, v49, v50, v51, v52, v53, v54, v55, v56, v57, v58, v59, v60, v61, v62, v63, v64, v65, v66, v67, v68, v69, v70, v71, v72, v73, v74, v75, v76, v77, v78, v79, v80, v81, v82, v83, v84, v85, v86, v87, v88, v89, v90, v91, v92, v93, v94, v95, v96, v97, v98, v99, v100, v101, v102, v103, v104, v105, v106, v107, v108, v109, v110, v111, v112, v113, v114, v115, v116, v117, v118, v119, v120, v121, v122, v123, v124, v125, v126, v127, v128, v129, v130, v131, v132, v133, v134, v135, v136, v137, v138, v139, v140, v141, v142, v143, v144, v145, v146, v147, v148, v149], defers := [] })
              case hAx =>
                rintro pre t a' _ A V row ⟨t1, zf, t2, t3⟩ hg hr
                exact ⟨t1, zf, t2.own hg (fun r e => (hr r e).2), t3⟩
              case hassign =>
                intro pre t W K hI hT hK
                simp only [Sd.val]
                have ga := alloc_grown W (.cells #[.int .i64 t.o, .int .i64 t.p] 33)
                have kf := Sb.new W t.o t.p
                have hI2 := BtwB.own pre _ _ none hI ga (fun q e => by cases e)
                have hst : Stay (fun q => q = z8 ∨ blk ro8 = some q) W (W.alloc (.cells #[.int .i64 t.o, .int .i64 t.p] 33)) := Stay.grown ga (fun q hq => Nat.lt_of_lt_of_le (hKl q hq) hI.2.size)
                clear hI
                gi_wp2
                exact hK _ _ ((KeepsOthers.alloc W _).from _) hst hI2 ⟨hT, _, kf, _, _, _, _, _, _, _, _, _, _, _, _, _, _, _, _, _, _, _, _, _, _, _, _, _, _, _, _, _, _, _, _, _, _, _, _, _, _, _, _, _, _, _, _, _, _, _, _, _, _, _, _, _, _, _, _, _, _, _, _, _, _, _, _, _, _, _, _, _, _, _, _, _, _, _, _, _, _, _, _, _, _, _, _, _, _, _, _, _, _, _, _, _, _, _, _, _, _, _, _, _, _, _, _, _, _, _, _, _, _, _, _, _, _, _, _, _, _, _, _, _, _, _, _, _, _, _, _, _, _, _, _, _, _, _, _, _, _, _, _, _, _, _, _, _, _, _, rfl⟩
              case hbody =>
                rintro pre t a' W hq ⟨j1, j2⟩ ⟨t1, zf, t2, t3⟩
                refine wpIn_mono (roundB' (by kernel_rfl) _ W z9 z10 zf w9.heap.size pre.length ro rc m t ((j2.block _ k9A.lt (by omega)).trans k9A) (s9A.chg j2 (fun q e => by have := hr9 q e; omega)) j1 t2 t1 (by omega) a' t3) ?_
                rintro e a'' V ⟨rfl, r1, r2⟩
                refine ⟨KeepsFrom.of_chg' r2 (fun q e => Or.inl (by omega)), Stay.chg r2 (fun q e => Nat.lt_of_lt_of_le (hKl q e) j2.size) (fun q e h9 => hKn q e h9), ?_, j2.trans r2⟩
                rw [show (pre ++ [t]).length = pre.length + 1 by simp]
                exact r1
              case hstop =>
                intro Dd c pre W _ _ hf
                exact hf.elim
              case hdone =>
                rintro D2 xs W hD2 hxs ⟨j1, j2⟩ hK2
                subst hxs
                have hK1W := (j2.block _ (lt_of_heap hK1A) (by omega)).trans hK1A
                have k9W : Boxed W z9 29 (.slice ro xs.length rc) := (j2.block _ k9A.lt (by omega)).trans k9A
                have s9W := s9A.chg j2 (fun q e => by have := hr9 q e; omega)
                have b6W : Boxed W (w.heap.size + 1) 4 (.bool false) := (j2.block _ b6A.lt (by omega)).trans b6A
                have hXV := hXW.apart hgA j2 (by omega)
                have hGW : wr.grownBy W none := ((Chg.of_grown hGA _).trans j2).grown (fun k hk e => by omega)
                have hGww : w.grownBy W none := grown_trans hG hGW (by simp)
                have hfi := find_any hXV (hD.grown hGww) hs1 (hgood.sub hmsub) (hsrt.sub hmsub) 9007199254740992
                rw [find_all (hgood.sub hmsub)] at hfi
                have hD12 : D1 < D2 := by omega
                gi_wp2_with fail
                refine ⟨trivial, callsIn_wide.2 (hfi.mono ?_)⟩
                clear hfi
                rintro e w11 ⟨rfl, hg11⟩
                by_cases h0 : xs.length = 0
                · rw [if_pos h0]
                  simp only [Sd.val]
                  gi_wp2_with fail
                  have hgF := grown_trans hg11 (alloc_grown w11 (.cells #[.int .i64 0, .int .i64 0] 33)) (by simp)
                  have hsb := Sb.new w11 0 0
                  obtain ⟨z21, hz21⟩ : ∃ z, w11.heap.size = z := ⟨_, rfl⟩
                  rw [hz21] at hsb ⊢
                  have hz21l : W.heap.size ≤ z21 := by have := hg11.size; omega
                  have k9F := box_own k9W hgF (fun r e => by cases e)
                  have s9F := s9W.chg (Chg.of_grown hgF (fun _ => False)) (fun _ _ e => e)
                  have b6F := box_own b6W hgF (fun r e => by cases e)
                  have b10F := box_own j1 hgF (fun r e => by cases e)
                  have hK1F := heap_kept hgF hK1W (by simp)
                  have hK2F := heap_kept hgF hK2 (by simp)
                  have hGF := grown_trans hGww hgF (by simp)
                  have hWl := lt_of_heap hK2
                  generalize w11.alloc (.cells #[.int .i64 0, .int .i64 0] 33) = wF at *
                  have hDF := hD.grown hGF
                  have c10 : wF.cell? ⟨z10, 0, none⟩ = some (.int .i64 0) := by have := b10F.cell; rw [h0] at this; exact this
                  have c9 : wF.cell? ⟨z9, 0, none⟩ = some (.slice ro 0 rc) := by have := k9F.cell; rw [h0] at this; exact this
                  refine wpIn_mono (wpIn_wide.2 (reg33_none wF hDF (w.heap.size + 1) z9 z10 z21 ro rc b6F c10 c9 (by omega) (by omega) _ _ _ _ _ _ _ _ _ _ _ _ _ _ _ _ _ _ _ _ _ _ _ _ _ _ _ _ _ _ _ _ _ _ _ _ _ _ _ _ _ _ _ _ _ _ _ _ _ _ _ _ _ _ _ _ _ _ _ _ _ _ _ _ _ _ _ _ _ _ _ _ _ _ _ _ _ _ _ _ _ _ _ _ _ _ _ _ _ _ _ _ _ _ _ _ _ _ _ _ _ _ _ _ _ _ _ _ _ _ _ _ _ _ _ _ _ _ _ _ _ _ _ _ _ _ _ _ _ _ _ _ _ _ _ _ _ _ _ _ _ _ _ _ _ _)) ?_
                  rintro e a'' V ⟨rfl, u124, u125, u126, u127, u128, u129, u130, u131, u132, u133, u134, u135, u136, u137, u138, u139, u140, u141, u142, u143, u144, u145, u146, u147, u148, u149, rfl, r1, r2⟩
                  have hgV : w.grownBy V none := ((Chg.of_grown hGF _).trans r2).grown (fun k hk e => by omega)
                  have q2 : V.heap[D2]? = some (.deferred (some [])) := (r2.block _ (lt_of_heap hK2F) (by omega)).trans hK2F
                  have q1 : V.heap[D1]? = some (.deferred (some [])) := (r2.block _ (lt_of_heap hK1F) (by omega)).trans hK1F
                  clear hK1F hK2F k9F s9F b6F b10F
                  gi_wp2_with fail
                  refine ⟨by simp, .inl ⟨_, _, rfl, run_takeDeferred q2, ?_⟩⟩
                  have po := grownBy_putObj' V D2 (.deferred none)
                  have q1' := heap_kept po q1 (by intro e; cases e; omega)
                  have r1' := box_own r1 po (fun r e => by cases e; exact ⟨_, q2, rfl⟩)
                  have hgV' := grown_trans hgV po (fun k e => Or.inr (by cases e; omega))
                  generalize V.putObj D2 (.deferred none) = V2 at *
                  refine ⟨by simp, .inl ⟨_, _, rfl, run_takeDeferred q1', ?_⟩⟩
                  have po2 := grownBy_putObj' V2 D1 (.deferred none)
                  exact ⟨.bool true, results_bool rfl _ _ (w.heap.size + 1) true rfl (box_own r1' po2 (fun r e => by cases e; exact ⟨_, q1', rfl⟩)).cell, rfl, grown_trans hgV' po2 (fun k e => Or.inr (by cases e; omega))⟩
                · rw [if_neg h0]
                  obtain ⟨t, ht⟩ : ∃ t, ahead xs xs.length = t := ⟨_, rfl⟩
                  rw [ht]
                  simp only [Sd.val]
                  gi_wp2_with fail
                  have hgF := grown_trans hg11 (alloc_grown w11 (.cells #[.int .i64 t.o, .int .i64 t.p] 33)) (by simp)
                  have hsb := Sb.new w11 t.o t.p
                  obtain ⟨z21, hz21⟩ : ∃ z, w11.heap.size = z := ⟨_, rfl⟩
                  rw [hz21] at hsb ⊢
                  have hz21l : W.heap.size ≤ z21 := by have := hg11.size; omega
                  have k9F := box_own k9W hgF (fun r e => by cases e)
                  have s9F := s9W.chg (Chg.of_grown hgF (fun _ => False)) (fun _ _ e => e)
                  have b6F := box_own b6W hgF (fun r e => by cases e)
                  have b10F := box_own j1 hgF (fun r e => by cases e)
                  have hK1F := heap_kept hgF hK1W (by simp)
                  have hK2F := heap_kept hgF hK2 (by simp)
                  have hGF := grown_trans hGww hgF (by simp)
                  have hWl := lt_of_heap hK2
                  generalize w11.alloc (.cells #[.int .i64 t.o, .int .i64 t.p] 33) = wF at *
                  have hDF := hD.grown hGF
                  obtain ⟨g, rfl, hg1', _⟩ := s9F.addr (by omega)
                  obtain ⟨k, hk⟩ : ∃ k, xs.length = k + 1 := ⟨xs.length - 1, by omega⟩
                  have hkt : xs[k]? = some t := by
                    rw [hk] at ht
                    rw [List.getElem?_eq_getElem (by omega)]
                    simp [ahead, show k < xs.length by omega] at ht
                    rw [ht]
                  have e0 := s9F.at hkt 0 (by decide)
                  have e1 := s9F.at hkt 1 (by decide)
                  simp only [Sd.cells, List.getElem?_cons_zero, List.getElem?_cons_succ, Nat.add_zero] at e0 e1
                  have hgz := hr9 g rfl
                  refine wpIn_mono (wpIn_wide.2 (reg33_some wF hDF (w.heap.size + 1) z9 z10 z21 g rc xs.length k t b6F hk (by omega) b10F.cell k9F.cell hsb e0 e1 (by omega) (by omega) (by omega) (by omega) _ _ _ _ _ _ _ _ _ _ _ _ _ _ _ _ _ _ _ _ _ _ _ _ _ _ _ _ _ _ _ _ _ _ _ _ _ _ _ _ _ _ _ _ _ _ _ _ _ _ _ _ _ _ _ _ _ _ _ _ _ _ _ _ _ _ _ _ _ _ _ _ _ _ _ _ _ _ _ _ _ _ _ _ _ _ _ _ _ _ _ _ _ _ _ _ _ _ _ _ _ _ _ _ _ _ _ _ _ _ _ _ _ _ _ _ _ _ _ _ _ _ _ _ _ _ _ _ _ _ _ _ _ _ _ _ _ _ _ _ _ _ _ _ _ _)) ?_
                  rintro e a'' V ⟨rfl, u124, u125, u126, u127, u128, u129, u130, u131, u132, u133, u134, u135, u136, u137, u138, u139, u140, u141, u142, u143, u144, u145, u146, u147, u148, u149, rfl, r1, r2⟩
                  have hgV : w.grownBy V none := ((Chg.of_grown hGF _).trans r2).grown (fun k hk e => by omega)
                  have q2 : V.heap[D2]? = some (.deferred (some [])) := (r2.block _ (lt_of_heap hK2F) (by omega)).trans hK2F
                  have q1 : V.heap[D1]? = some (.deferred (some [])) := (r2.block _ (lt_of_heap hK1F) (by omega)).trans hK1F
                  clear hK1F hK2F k9F s9F b6F b10F
                  gi_wp2_with fail
                  refine ⟨by simp, .inl ⟨_, _, rfl, run_takeDeferred q2, ?_⟩⟩
                  have po := grownBy_putObj' V D2 (.deferred none)
                  have q1' := heap_kept po q1 (by intro e; cases e; omega)
                  have r1' := box_own r1 po (fun r e => by cases e; exact ⟨_, q2, rfl⟩)
                  have hgV' := grown_trans hgV po (fun k e => Or.inr (by cases e; omega))
                  generalize V.putObj D2 (.deferred none) = V2 at *
                  refine ⟨by simp, .inl ⟨_, _, rfl, run_takeDeferred q1', ?_⟩⟩
                  have po2 := grownBy_putObj' V2 D1 (.deferred none)
                  exact ⟨.bool true, results_bool rfl _ _ (w.heap.size + 1) true rfl (box_own r1' po2 (fun r e => by cases e; exact ⟨_, q1', rfl⟩)).cell, rfl, grown_trans hgV' po2 (fun k e => Or.inr (by cases e; omega))⟩
          · have e1 : decide ((i : Int) < (n : Int)) = false := by simp; omega
            have hG : w.grownBy wr none := grown_trans hg hGw (by simp)
            have b5r := box_own b5 hGw (fun r e => by cases e)
            have b6r := box_own b6 hGw (fun r e => by cases e)
            have hszr : w.heap.size + 2 ≤ wr.heap.size := by have := hGw.size; omega
            have hcp := copy_any hX hs1
            have hfew := hL.few
            have hgood := hL.good
            have hsrt := hL.srt
            have hll : l.length ≤ 300 := by omega
            have hDr := hD.grown hG
            clear hL hC hCw hulen hu
            gi_wp2_with fail
            refine ⟨trivial, callsIn_wide.2 (hcp.mono ?_)⟩
            clear hcp
            rintro e w5 ⟨b2, rfl, hX5, hg5⟩
            have hb2 := hX5.ge
            have k5 := (box_own b5r hg5 (fun r e => by cases e)).cell
            have hcu := cut_any hX5 hs1 hsrt place
            gi_wp2_with fail
            refine ⟨trivial, callsIn_wide.2 (hcu.mono ?_)⟩
            clear hcu k5
            rintro e w6 ⟨rfl, hX6, hc6⟩
            have hX6x := hX.apart hg5 hc6 hb2
            have hG6 : wr.grownBy w6 none := ((Chg.of_grown hg5 _).trans hc6).grown (fun k hk e => by omega)
            have hcl : cutR place l ≤ l.length := cnt_le _ _
            have hfil := cut_filter hsrt place
            obtain ⟨m, hm⟩ : ∃ m, l.take (cutR place l) = m := ⟨_, rfl⟩
            have hml : cutR place l = m.length := by rw [← hm]; simp; omega
            have hmsub : m.Sublist l := by rw [← hm]; exact List.take_sublist _ _
            rw [hm] at hX6 hfil
            rw [hml] at hcl ⊢
            have hfil' : Hid _ := hfil
            clear hm hml hX hX5 hg5 hc6 hfil
            have hal := all_any hX6x hs1
            gi_wp2_with fail
            refine ⟨trivial, callsIn_wide.2 (hal.mono ?_)⟩
            clear hal
            rintro e w7 ⟨ro7, rc7, rfl, hb7, hs7, hg7⟩
            have hao := all_any (hX6.grown hg7) hs1
            gi_wp2_with fail
            refine ⟨trivial, callsIn_wide.2 (hao.mono ?_)⟩
            clear hao
            rintro e w8 ⟨ro8, rc8, rfl, hb8, hs8, hg8⟩
            have hG8 : wr.grownBy w8 none := grown_trans (grown_trans hG6 hg7 (by simp)) hg8 (by simp)
            obtain ⟨z7, hz7⟩ : ∃ z, w6.heap.size = z := ⟨_, rfl⟩
            obtain ⟨z8, hz8⟩ : ∃ z, w7.heap.size = z := ⟨_, rfl⟩
            have hs67 := hg7.size
            rw [hz7] at hb7 hs7 ⊢
            rw [hz8] at hb8 hs8 ⊢
            have hb78 := box_own hb7 hg8 (fun r e => by cases e)
            have hs78 := hs7.chg (Chg.of_grown hg8 (fun _ => False)) (fun _ _ e => e)
            have hX8x := (hX6x.grown hg7).grown hg8
            have hX8 := (hX6.grown hg7).grown hg8
            have heq7 := fun W => run_eql_fn W 62 _ _ _ Tryd.underlying62 (.func 43) #[] #[.pointer (some ⟨z7, 0, none⟩)]
            have heq8 := fun W => run_eql_fn W 62 _ _ _ Tryd.underlying62 (.func 43) #[] #[.pointer (some ⟨z8, 0, none⟩)]
            clear hb7 hs7 hX6 hX6x hg7 hg8 hG6 hz7 hz8
            gi_wp2_with fail
            refine ⟨trivial, callsIn_wide.2 ((len_any hX8x hs1).mono ?_)⟩
            rintro e w8 ⟨rfl, rfl⟩
            gi_wp2_with fail
            refine ⟨trivial, callsIn_wide.2 ((len_any hX8 hs1).mono ?_)⟩
            rintro e w8 ⟨rfl, rfl⟩
            have hwr : IntKind.i64.wrap ((l.length : Int) - (m.length : Int)) = ((l.length - m.length : Nat) : Int) := by rw [IntWalk.i64_in _ (by omega)]; omega
            gi_wp2_with fail
            clear heq7 heq8 hwr
            have hg9 := alloc_grown w8 (.cells #[.slice none 0 0] 29)
            have hb9 := Boxed.new w8 29 (.slice none 0 0)
            obtain ⟨z9, hz9⟩ : ∃ z, w8.heap.size = z := ⟨_, rfl⟩
            have hs89 : (w8.alloc (.cells #[.slice none 0 0] 29)).heap.size = z9 + 1 := by simp [hz9]
            rw [hz9] at hb9 ⊢
            have hb79 := box_own hb78 hg9 (fun r e => by cases e)
            have hs79 := hs78.chg (Chg.of_grown hg9 (fun _ => False)) (fun _ _ e => e)
            have hb89 := box_own hb8 hg9 (fun r e => by cases e)
            have hs89' := hs8.chg (Chg.of_grown hg9 (fun _ => False)) (fun _ _ e => e)
            have hG9 := grown_trans hG8 hg9 (by simp)
            have b59 := box_own b5r hG9 (fun r e => by cases e)
            have b69 := box_own b6r hG9 (fun r e => by cases e)
            have hz7l := hb78.lt
            have hz8l := hb8.lt
            have hr7 : ∀ q, blk ro7 = some q → q < z9 := fun q e => by have := (hs78.from_base q e).2; omega
            have hr8 : ∀ q, blk ro8 = some q → q < z9 := fun q e => by have := (hs8.from_base q e).2; omega
            have h9w : w.heap.size + 2 ≤ z9 := by have := hG8.size; omega
            have h9r : wr.heap.size ≤ z9 := by have := hG8.size; omega
            clear hb78 hs78 hb8 hs8 hX8x hG8
            generalize w8.alloc (.cells #[.slice none 0 0] 29) = w9 at *
            have hKl : ∀ q, (q = z7 ∨ blk ro7 = some q) → q < w9.heap.size := fun q e => by
              rcases e with rfl | e
              · omega
              · have := hr7 q e; omega
            have hKn : ∀ q, (q = z7 ∨ blk ro7 = some q) → q ≠ z9 := fun q e => by
              rcases e with rfl | e
              · omega
              · have := hr7 q e; omega
            apply wpIn_rangeFunc_told (α := Sd) (encs := fun t => #[t.val]) (Kp := Stay (fun q => q = z7 ∨ blk ro7 = some q)) (w0 := w9) rfl (by decide) (gf := 43) (lb := #[.pointer (some ⟨z7, 0, none⟩)]) rfl trivial (enters_of Tryd.func43 (by kernel_rfl) rfl)
              (all1_stay 4 (by decide) w9 z7 z7 _ ro7 l.length rc7 l hb79 hs79 (Or.inl rfl) (fun q e => Or.inr e) hKl (by omega)) (fun h1 h2 => h1.trans h2)
              (fun W q o1 o2 hq h1 h2 h3 => ⟨by simp, fun i hi => World.putObj_heap_other (by have := hKl i hi; omega)⟩) (Below.refl _ _) (fun t => rfl)
              (BtwA w9 z9 place)
              (fun _ _ _ => False)
              BtwA.own
              (fun cd s A V row hs hg hr => hs.elim)
              ⟨none, 0, hb9, Sw.nil _ _, Chg.refl _ _⟩
              (fun pre t a' W => l[pre.length]? = some t ∧ ∃ zf, Sb W zf t.o t.p ∧ ∃ v0 v1 v2 v3 v4 v6 v7 v8 v9 v10 v11 v12 v13 v14 v15 v16 v19 v20 v21 v22 v23 v24 v25 v26 v27 v28 v29 v30 v31 v32 v33 v34 v35 v36 v37 v38 v39 v40 v41 v42 v43 v44 v45 v46 v47 v48 v49 v50 v51 v52 v53 v54 v55 v56 v57 v58 v59 v60 v61 v62 v63 v64 v65 v66 v67 v68 v69 v70 v71 v72 v73 v74 v75 v76 v77 v78 v79 v80 v81 v82 v83 v84 v85 v86 v87 v88 v89 v90 v91 v92 v93 v94 v95 v96 v97 v98 v99 v100 v101 v102 v103 v104 v105 v106 v107 v108 v109 v110 v111 v112 v113 v114 v115 v116 v117 v118 v119 v120 v121 v122 v123 v124 v125 v126 v127 v128 v129 v130 v131 v132 v133 v134 v135 v136 v137 v138 v139 v140 v141 v142 v143 v144 v145 v146 v147 v148 v149 : Value, a' = { tmps := #[v0, v1, v2, v3, v4, .pointer (some ⟨w.heap.size, 0, none⟩), v6, v7, v8, v9, v10, v11, v12, v13, v14, v15, v16, .pointer (some ⟨z9, 0, none⟩), .pointer (some ⟨zf, 0, none⟩), v19, v20, v21, v22, v23, v24, v25, v26, v27, v28, v29, v30, v31, v32, v33, v34, v35, v36, v37, v38, v39, v40, v41, v42, v43, v44, v45, v46, v47, v48, v49, v50, v51, v52, v53, v54, v55, v56, v57, v58, v59, v60, v61, v62, v63, v64, v65, v66, v67, v68, v69, v70, v71, v72, v73, v74, v75, v76, v77, v78, v79, v80, v81, v82, v83, v84, v85, v86, v87, v88, v89, v90, v91, v92, v93, v94, v95, v96, v97, v98, v99, v100, v101, v102, v103, v104, v105, v106, v107, v108, v109, v110, v111, v112, v113, v114, v115, v116, v117, v118, v119, v120, v121, v122, v123, v124, v125, v126, v127, v128, v129, v130, v131, v132, v133, v134, v135, v136, v137, v138, v139, v140, v141, v142, v143, v144, v145, v146, v147, v148, v149], defers := [] })
            case hAx =>
              rintro pre t a' _ A V row ⟨t1, zf, t2, t3⟩ hg hr
              exact ⟨t1, zf, t2.own hg (fun r e => (hr r e).2), t3⟩
            case hassign =>
              intro pre t W K hI hT hK
              simp only [Sd.val]
              have ga := alloc_grown W (.cells #[.int .i64 t.o, .int .i64 t.p] 33)
              have kf := Sb.new W t.o t.p
              have hI2 := BtwA.own pre _ _ none hI ga (fun q e => by cases e)
              have hst : Stay (fun q => q = z7 ∨ blk ro7 = some q) W (W.alloc (.cells #[.int .i64 t.o, .int .i64 t.p] 33)) := Stay.grown ga (fun q hq => by obtain ⟨_, _, _, _, hc⟩ := hI; exact Nat.lt_of_lt_of_le (hKl q hq) hc.size)
              clear hI
              gi_wp2
              exact hK _ _ ((KeepsOthers.alloc W _).from _) hst hI2 ⟨hT, _, kf, _, _, _, _, _, _, _, _, _, _, _, _, _, _, _, _, _, _, _, _, _, _, _, _, _, _, _, _, _, _, _, _, _, _, _, _, _, _, _, _, _, _, _, _, _, _, _, _, _, _, _, _, _, _, _, _, _, _, _, _, _, _, _, _, _, _, _, _, _, _, _, _, _, _, _, _, _, _, _, _, _, _, _, _, _, _, _, _, _, _, _, _, _, _, _, _, _, _, _, _, _, _, _, _, _, _, _, _, _, _, _, _, _, _, _, _, _, _, _, _, _, _, _, _, _, _, _, _, _, _, _, _, _, _, _, _, _, _, _, _, _, _, _, _, _, _, _, rfl⟩
            case hbody =>
              rintro pre t a' W hq ⟨ro, rc, j1, j2, j3⟩ ⟨t1, zf, t2, t3⟩
              have hpl : pre.length < l.length := (List.getElem?_eq_some_iff.1 t1).1
              have hfl : (pre.filter (fun s => decide (s.p < place))).length ≤ pre.length := List.length_filter_le _ _
              refine wpIn_mono (roundA' (by kernel_rfl) _ W w.heap.size z9 zf w9.heap.size place ro rc _ t (j3.cell b59.cell (by show w.heap.size ≠ z9; omega)) j1 j2 t2 (by omega) j3.size (by omega) a' t3) ?_
              rintro e a'' V ⟨rfl, ro', rc', r1, r2, r3⟩
              have hfs : (pre ++ [t]).filter (fun s => decide (s.p < place)) = if t.p < place then pre.filter (fun s => decide (s.p < place)) ++ [t] else pre.filter (fun s => decide (s.p < place)) := by
                rw [List.filter_append]
                by_cases hp : t.p < place <;> simp [hp]
              rw [← hfs] at r1 r2
              refine ⟨KeepsFrom.of_chg' r3 (fun q e => ?_), Stay.chg r3 (fun q e => Nat.lt_of_lt_of_le (hKl q e) j3.size) (fun q e h9 => ?_), ro', rc', r1, r2, j3.then' r3 (fun q e => ?_)⟩
              · rcases e with e | e
                · left; omega
                · right; exact j2.cells q e
              · rcases h9 with h9 | h9
                · exact hKn q e h9
                · have h8 := (j2.from_base q h9).1
                  have := hKl q e
                  omega
              · rcases e with e | e
                · exact Or.inl e
                · exact Or.inr (j2.from_base q e).1
            case hstop =>
              intro Dd c pre W _ _ hf
              exact hf.elim
            case hdone =>
              rintro D1 xs W hD1 hxs ⟨ro, rc, j1, j2, j3⟩ hK1
              subst hxs
              rw [← hfil'.out] at j1 j2
              have j9 := j3.size
              have hD1z : D1 ≠ z9 := fun e => by subst e; omega
              have b5W : Boxed W w.heap.size 3 (.int .i64 place) := (j3.block _ b59.lt (by omega)).trans b59
              have b6W : Boxed W (w.heap.size + 1) 4 (.bool false) := (j3.block _ b69.lt (by omega)).trans b69
              have hb8W : Boxed W z8 29 (.slice ro8 m.length rc8) := (j3.block _ hb89.lt (by omega)).trans hb89
              have hs8W := hs89'.chg j3 (fun q e => by have := hr8 q e; omega)
              have hXW := hX8.apart hg9 j3 (by omega)
              have hGW : wr.grownBy W none := ((Chg.of_grown hG9 _).trans j3).grown (fun k hk e => by omega)
              gi_wp2_with fail
              have hgA := alloc_grown W (.cells #[.int .i64 0] 3)
              have hb10 := Boxed.new W 3 (.int .i64 0)
              obtain ⟨z10, hz10⟩ : ∃ z, W.heap.size = z := ⟨_, rfl⟩
              have hsA : (W.alloc (.cells #[.int .i64 0] 3)).heap.size = z10 + 1 := by simp [hz10]
              rw [hz10] at hb10 ⊢
              have hK1A := heap_kept hgA hK1 (by simp)
              have hD1l : D1 < z10 := by have := lt_of_heap hK1; omega
              have k9A := box_own j1 hgA (fun r e => by cases e)
              have s9A := j2.chg (Chg.of_grown hgA (fun _ => False)) (fun _ _ e => e)
              have b6A := box_own b6W hgA (fun r e => by cases e)
              have hb8A := box_own hb8W hgA (fun r e => by cases e)
              have hs8A := hs8W.chg (Chg.of_grown hgA (fun _ => False)) (fun _ _ e => e)
              have hGA := grown_trans hGW hgA (by simp)
              have hr9 : ∀ q, blk ro = some q → q < z10 := fun q e => by have := (j2.from_base q e).2; omega
              have hb9l := j1.lt
              clear hb9 hb79 hs79 hb89 hs89' hG9 b59 b69 hKl hKn j1 j2 j3 b5W b6W hb8W hs8W hGW hK1 hX8 hg9
              generalize W.alloc (.cells #[.int .i64 0] 3) = wA at *
              have hKl : ∀ q, (q = z8 ∨ blk ro8 = some q) → q < wA.heap.size := fun q e => by
                rcases e with rfl | e
                · omega
                · have := hr8 q e; omega
              have hKn : ∀ q, (q = z8 ∨ blk ro8 = some q) → q ≠ z10 := fun q e => by
                rcases e with rfl | e
                · omega
                · have := hr8 q e; omega
              apply wpIn_rangeFunc_told (α := Sd) (encs := fun t => #[t.val]) (Kp := Stay (fun q => q = z8 ∨ blk ro8 = some q)) (w0 := wA) rfl (by decide) (gf := 43) (lb := #[.pointer (some ⟨z8, 0, none⟩)]) rfl trivial (enters_of Tryd.func43 (by kernel_rfl) rfl)
                (all1_stay 4 (by decide) wA z8 z8 _ ro8 m.length rc8 m hb8A hs8A (Or.inl rfl) (fun q e => Or.inr e) hKl (by omega)) (fun h1 h2 => h1.trans h2)
                (fun W q o1 o2 hq h1 h2 h3 => ⟨by simp, fun i hi => World.putObj_heap_other (by have := hKl i hi; omega)⟩) (Below.refl _ _) (fun t => rfl)
                (BtwB wA z10)
                (fun _ _ _ => False)
                BtwB.own
                (fun cd s A V row hs hg hr => hs.elim)
                ⟨hb10, Chg.refl _ _⟩
                (fun pre t a' W => m[pre.length]? = some t ∧ ∃ zf, Sb W zf t.o t.p ∧ ∃ v0 v1 v2 v3 v4 v5 v6 v7 v8 v9 v10 v11 v12 v13 v14 v15 v16 v18 v21 v22 v23 v24 v25 v26 v27 v28 v29 v30 v31 v32 v33 v34 v35 v36 v37 v38 v39 v40 v41 v42 v43 v44 v45 v46 v47 v48 v49 v50 v51 v52 v53 v54 v55 v56 v57 v58 v59 v60 v61 v62 v63 v64 v65 v66 v67 v68 v69 v70 v71 v72 v73 v74 v75 v76 v77 v78 v79 v80 v81 v82 v83 v84 v85 v86 v87 v88 v89 v90 v91 v92 v93 v94 v95 v96 v97 v98 v99 v100 v101 v102 v103 v104 v105 v106 v107 v108 v109 v110 v111 v112 v113 v114 v115 v116 v117 v118 v119 v120 v121 v122 v123 v124 v125 v126 v127 v128 v129 v130 v131 v132 v133 v134 v135 v136 v137 v138 v139 v140 v141 v142 v143 v144 v145 v146 v147 v148 v149 : Value, a' = { tmps := #[v0, v1, v2, v3, v4, v5, v6, v7, v8, v9, v10, v11, v12, v13, v14, v15, v16, .pointer (some ⟨z9, 0, none⟩), v18, .pointer (some ⟨z10, 0, none⟩), .pointer (some ⟨zf, 0, none⟩), v21, v22, v23, v24, v25, v26, v27, v28, v29, v30, v31, v32, v33, v34, v35, v36, v37, v38, v39, v40, v41, v42, v43, v44, v45, v46, v47, v48, v49, v50, v51, v52, v53, v54, v55, v56, v57, v58, v59, v60, v61, v62, v63, v64, v65, v66, v67, v68, v69, v70, v71, v72, v73, v74, v75, v76, v77, v78, v79, v80, v81, v82, v83, v84, v85, v86, v87, v88, v89, v90, v91, v92, v93, v94, v95, v96, v97, v98, v99, v100, v101, v102, v103, v104, v105, v106, v107, v108, v109, v110, v111, v112, v113, v114, v115, v116, v117, v118, v119, v120, v121, v122, v123, v124, v125, v126, v127, v128, v129, v130, v131, v132, v133, v134, v135, v136, v137, v138, v139, v140, v141, v142, v143, v144, v145, v146, v147, v148, v149], defers := [] })
              case hAx =>
                rintro pre t a' _ A V row ⟨t1, zf, t2, t3⟩ hg hr
                exact ⟨t1, zf, t2.own hg (fun r e => (hr r e).2), t3⟩
              case hassign =>
                intro pre t W K hI hT hK
                simp only [Sd.val]
                have ga := alloc_grown W (.cells #[.int .i64 t.o, .int .i64 t.p] 33)
                have kf := Sb.new W t.o t.p
                have hI2 := BtwB.own pre _ _ none hI ga (fun q e => by cases e)
                have hst : Stay (fun q => q = z8 ∨ blk ro8 = some q) W (W.alloc (.cells #[.int .i64 t.o, .int .i64 t.p] 33)) := Stay.grown ga (fun q hq => Nat.lt_of_lt_of_le (hKl q hq) hI.2.size)
                clear hI
                gi_wp2
                exact hK _ _ ((KeepsOthers.alloc W _).from _) hst hI2 ⟨hT, _, kf, _, _, _, _, _, _, _, _, _, _, _, _, _, _, _, _, _, _, _, _, _, _, _, _, _, _, _, _, _, _, _, _, _, _, _, _, _, _, _, _, _, _, _, _, _, _, _, _, _, _, _, _, _, _, _, _, _, _, _, _, _, _, _, _, _, _, _, _, _, _, _, _, _, _, _, _, _, _, _, _, _, _, _, _, _, _, _, _, _, _, _, _, _, _, _, _, _, _, _, _, _, _, _, _, _, _, _, _, _, _, _, _, _, _, _, _, _, _, _, _, _, _, _, _, _, _, _, _, _, _, _, _, _, _, _, _, _, _, _, _, _, _, _, _, _, _, _, rfl⟩
              case hbody =>
                rintro pre t a' W hq ⟨j1, j2⟩ ⟨t1, zf, t2, t3⟩
                refine wpIn_mono (roundB' (by kernel_rfl) _ W z9 z10 zf w9.heap.size pre.length ro rc m t ((j2.block _ k9A.lt (by omega)).trans k9A) (s9A.chg j2 (fun q e => by have := hr9 q e; omega)) j1 t2 t1 (by omega) a' t3) ?_
                rintro e a'' V ⟨rfl, r1, r2⟩
                refine ⟨KeepsFrom.of_chg' r2 (fun q e => Or.inl (by omega)), Stay.chg r2 (fun q e => Nat.lt_of_lt_of_le (hKl q e) j2.size) (fun q e h9 => hKn q e h9), ?_, j2.trans r2⟩
                rw [show (pre ++ [t]).length = pre.length + 1 by simp]
                exact r1
              case hstop =>
                intro Dd c pre W _ _ hf
                exact hf.elim
              case hdone =>
                rintro D2 xs W hD2 hxs ⟨j1, j2⟩ hK2
                subst hxs
                have hK1W := (j2.block _ (lt_of_heap hK1A) (by omega)).trans hK1A
                have k9W : Boxed W z9 29 (.slice ro xs.length rc) := (j2.block _ k9A.lt (by omega)).trans k9A
                have s9W := s9A.chg j2 (fun q e => by have := hr9 q e; omega)
                have b6W : Boxed W (w.heap.size + 1) 4 (.bool false) := (j2.block _ b6A.lt (by omega)).trans b6A
                have hXV := hXW.apart hgA j2 (by omega)
                have hGW : wr.grownBy W none := ((Chg.of_grown hGA _).trans j2).grown (fun k hk e => by omega)
                have hGww : w.grownBy W none := grown_trans hG hGW (by simp)
                have hfi := find_any hXV (hD.grown hGww) hs1 (hgood.sub hmsub) (hsrt.sub hmsub) 9007199254740992
                rw [find_all (hgood.sub hmsub)] at hfi
                have hD12 : D1 < D2 := by omega
                gi_wp2_with fail
                refine ⟨trivial, callsIn_wide.2 (hfi.mono ?_)⟩
                clear hfi
                rintro e w11 ⟨rfl, hg11⟩
                by_cases h0 : xs.length = 0
                · rw [if_pos h0]
                  simp only [Sd.val]
                  gi_wp2_with fail
                  have hgF := grown_trans hg11 (alloc_grown w11 (.cells #[.int .i64 0, .int .i64 0] 33)) (by simp)
                  have hsb := Sb.new w11 0 0
                  obtain ⟨z21, hz21⟩ : ∃ z, w11.heap.size = z := ⟨_, rfl⟩
                  rw [hz21] at hsb ⊢
                  have hz21l : W.heap.size ≤ z21 := by have := hg11.size; omega
                  have k9F := box_own k9W hgF (fun r e => by cases e)
                  have s9F := s9W.chg (Chg.of_grown hgF (fun _ => False)) (fun _ _ e => e)
                  have b6F := box_own b6W hgF (fun r e => by cases e)
                  have b10F := box_own j1 hgF (fun r e => by cases e)
                  have hK1F := heap_kept hgF hK1W (by simp)
                  have hK2F := heap_kept hgF hK2 (by simp)
                  have hGF := grown_trans hGww hgF (by simp)
                  have hWl := lt_of_heap hK2
                  generalize w11.alloc (.cells #[.int .i64 0, .int .i64 0] 33) = wF at *
                  have hDF := hD.grown hGF
                  have c10 : wF.cell? ⟨z10, 0, none⟩ = some (.int .i64 0) := by have := b10F.cell; rw [h0] at this; exact this
                  have c9 : wF.cell? ⟨z9, 0, none⟩ = some (.slice ro 0 rc) := by have := k9F.cell; rw [h0] at this; exact this
                  refine wpIn_mono (wpIn_wide.2 (reg33_none wF hDF (w.heap.size + 1) z9 z10 z21 ro rc b6F c10 c9 (by omega) (by omega) _ _ _ _ _ _ _ _ _ _ _ _ _ _ _ _ _ _ _ _ _ _ _ _ _ _ _ _ _ _ _ _ _ _ _ _ _ _ _ _ _ _ _ _ _ _ _ _ _ _ _ _ _ _ _ _ _ _ _ _ _ _ _ _ _ _ _ _ _ _ _ _ _ _ _ _ _ _ _ _ _ _ _ _ _ _ _ _ _ _ _ _ _ _ _ _ _ _ _ _ _ _ _ _ _ _ _ _ _ _ _ _ _ _ _ _ _ _ _ _ _ _ _ _ _ _ _ _ _ _ _ _ _ _ _ _ _ _ _ _ _ _ _ _ _ _)) ?_
                  rintro e a'' V ⟨rfl, u124, u125, u126, u127, u128, u129, u130, u131, u132, u133, u134, u135, u136, u137, u138, u139, u140, u141, u142, u143, u144, u145, u146, u147, u148, u149, rfl, r1, r2⟩
                  have hgV : w.grownBy V none := ((Chg.of_grown hGF _).trans r2).grown (fun k hk e => by omega)
                  have q2 : V.heap[D2]? = some (.deferred (some [])) := (r2.block _ (lt_of_heap hK2F) (by omega)).trans hK2F
                  have q1 : V.heap[D1]? = some (.deferred (some [])) := (r2.block _ (lt_of_heap hK1F) (by omega)).trans hK1F
                  clear hK1F hK2F k9F s9F b6F b10F
                  gi_wp2_with fail
                  refine ⟨by simp, .inl ⟨_, _, rfl, run_takeDeferred q2, ?_⟩⟩
                  have po := grownBy_putObj' V D2 (.deferred none)
                  have q1' := heap_kept po q1 (by intro e; cases e; omega)
                  have r1' := box_own r1 po (fun r e => by cases e; exact ⟨_, q2, rfl⟩)
                  have hgV' := grown_trans hgV po (fun k e => Or.inr (by cases e; omega))
                  generalize V.putObj D2 (.deferred none) = V2 at *
                  refine ⟨by simp, .inl ⟨_, _, rfl, run_takeDeferred q1', ?_⟩⟩
                  have po2 := grownBy_putObj' V2 D1 (.deferred none)
                  exact ⟨.bool true, results_bool rfl _ _ (w.heap.size + 1) true rfl (box_own r1' po2 (fun r e => by cases e; exact ⟨_, q1', rfl⟩)).cell, rfl, grown_trans hgV' po2 (fun k e => Or.inr (by cases e; omega))⟩
                · rw [if_neg h0]
                  obtain ⟨t, ht⟩ : ∃ t, ahead xs xs.length = t := ⟨_, rfl⟩
                  rw [ht]
                  simp only [Sd.val]
                  gi_wp2_with fail
                  have hgF := grown_trans hg11 (alloc_grown w11 (.cells #[.int .i64 t.o, .int .i64 t.p] 33)) (by simp)
                  have hsb := Sb.new w11 t.o t.p
                  obtain ⟨z21, hz21⟩ : ∃ z, w11.heap.size = z := ⟨_, rfl⟩
                  rw [hz21] at hsb ⊢
                  have hz21l : W.heap.size ≤ z21 := by have := hg11.size; omega
                  have k9F := box_own k9W hgF (fun r e => by cases e)
                  have s9F := s9W.chg (Chg.of_grown hgF (fun _ => False)) (fun _ _ e => e)
                  have b6F := box_own b6W hgF (fun r e => by cases e)
                  have b10F := box_own j1 hgF (fun r e => by cases e)
                  have hK1F := heap_kept hgF hK1W (by simp)
                  have hK2F := heap_kept hgF hK2 (by simp)
                  have hGF := grown_trans hGww hgF (by simp)
                  have hWl := lt_of_heap hK2
                  generalize w11.alloc (.cells #[.int .i64 t.o, .int .i64 t.p] 33) = wF at *
                  have hDF := hD.grown hGF
                  obtain ⟨g, rfl, hg1', _⟩ := s9F.addr (by omega)
                  obtain ⟨k, hk⟩ : ∃ k, xs.length = k + 1 := ⟨xs.length - 1, by omega⟩
                  have hkt : xs[k]? = some t := by
                    rw [hk] at ht
                    rw [List.getElem?_eq_getElem (by omega)]
                    simp [ahead, show k < xs.length by omega] at ht
                    rw [ht]
                  have e0 := s9F.at hkt 0 (by decide)
                  have e1 := s9F.at hkt 1 (by decide)
                  simp only [Sd.cells, List.getElem?_cons_zero, List.getElem?_cons_succ, Nat.add_zero] at e0 e1
                  have hgz := hr9 g rfl
                  refine wpIn_mono (wpIn_wide.2 (reg33_some wF hDF (w.heap.size + 1) z9 z10 z21 g rc xs.length k t b6F hk (by omega) b10F.cell k9F.cell hsb e0 e1 (by omega) (by omega) (by omega) (by omega) _ _ _ _ _ _ _ _ _ _ _ _ _ _ _ _ _ _ _ _ _ _ _ _ _ _ _ _ _ _ _ _ _ _ _ _ _ _ _ _ _ _ _ _ _ _ _ _ _ _ _ _ _ _ _ _ _ _ _ _ _ _ _ _ _ _ _ _ _ _ _ _ _ _ _ _ _ _ _ _ _ _ _ _ _ _ _ _ _ _ _ _ _ _ _ _ _ _ _ _ _ _ _ _ _ _ _ _ _ _ _ _ _ _ _ _ _ _ _ _ _ _ _ _ _ _ _ _ _ _ _ _ _ _ _ _ _ _ _ _ _ _ _ _ _ _)) ?_
                  rintro e a'' V ⟨rfl, u124, u125, u126, u127, u128, u129, u130, u131, u132, u133, u134, u135, u136, u137, u138, u139, u140, u141, u142, u143, u144, u145, u146, u147, u148, u149, rfl, r1, r2⟩
                  have hgV : w.grownBy V none := ((Chg.of_grown hGF _).trans r2).grown (fun k hk e => by omega)
                  have q2 : V.heap[D2]? = some (.deferred (some [])) := (r2.block _ (lt_of_heap hK2F) (by omega)).trans hK2F
                  have q1 : V.heap[D1]? = some (.deferred (some [])) := (r2.block _ (lt_of_heap hK1F) (by omega)).trans hK1F
                  clear hK1F hK2F k9F s9F b6F b10F
                  gi_wp2_with fail
                  refine ⟨by simp, .inl ⟨_, _, rfl, run_takeDeferred q2, ?_⟩⟩
                  have po := grownBy_putObj' V D2 (.deferred none)
                  have q1' := heap_kept po q1 (by intro e; cases e; omega)
                  have r1' := box_own r1 po (fun r e => by cases e; exact ⟨_, q2, rfl⟩)
                  have hgV' := grown_trans hgV po (fun k e => Or.inr (by cases e; omega))
                  generalize V.putObj D2 (.deferred none) = V2 at *
                  refine ⟨by simp, .inl ⟨_, _, rfl, run_takeDeferred q1', ?_⟩⟩
                  have po2 := grownBy_putObj' V2 D1 (.deferred none)
                  exact ⟨.bool true, results_bool rfl _ _ (w.heap.size + 1) true rfl (box_own r1' po2 (fun r e => by cases e; exact ⟨_, q1', rfl⟩)).cell, rfl, grown_trans hgV' po2 (fun k e => Or.inr (by cases e; omega))⟩
end Go.Proofs.YtbnoemfhcpjdjaaDoor
