/-
  StopsAll: the range over all stops, in a turn.
-/
import Derived.Test.YtgkeflgfnagnjaaYQ
namespace Go.Proofs.Ytgkeflgfnagnjaa
open Go.RowKit Go.Shelf
set_option linter.unusedVariables false
set_option maxRecDepth 100000
attribute [local go_sem] Oper.semAt_some

def blksOf : Code → List Code
  | .rangeFunc g ps x y => [.rangeFunc g ps x y]
  | .block _ a => blksOf a
  | .loop a => blksOf a
  | .seq a b => blksOf a ++ blksOf b
  | .cond _ a b => blksOf a ++ blksOf b
  | .scope a => blksOf a
  | _ => []
theorem code_b1 {c1 c2 : Code} {R : Code → Prop} (hcode : Try.f4.body.map blksOf = some [c1, c2]) (h : ∃ d1 d2, Try.f4.body.map blksOf = some [d1, d2] ∧ R d1) : R c1 := by
  obtain ⟨d1, d2, e, hr⟩ := h
  rw [hcode] at e
  cases e
  exact hr
theorem code_b2 {c1 c2 : Code} {R : Code → Prop} (hcode : Try.f4.body.map blksOf = some [c1, c2]) (h : ∃ d1 d2, Try.f4.body.map blksOf = some [d1, d2] ∧ R d2) : R c2 := by
  obtain ⟨d1, d2, e, hr⟩ := h
  rw [hcode] at e
  cases e
  exact hr
/-- Picks that lie apart from what an iterator turns. -/
structure Pl (V : World) (T : Nat → Prop) (po : Option Addr) (l : List Int) : Prop where
  ip : Ip V po l.length l
  nt : l ≠ [] → ∀ q, blk po = some q → ¬ T q
section
variable {V V' : World} {T T' : Nat → Prop} {po : Option Addr} {l : List Int}
theorem ip_blocks (h : Ip V po l.length l) (hb : ∀ q o, l ≠ [] → blk po = some q → V.heap[q]? = some o → o.isCells = true → V'.heap[q]? = some o) : Ip V' po l.length l := ⟨rfl, fun i x hx => by
  obtain ⟨q, f, h1, h2⟩ := h.k i x hx
  have hne : l ≠ [] := fun e => by rw [e] at hx; simp at hx
  obtain ⟨o, h4, h5⟩ := cells_of_cell h2
  have h6 := hb q o hne (by rw [h1]; rfl) h4 h5
  exact ⟨q, f, h1, by rw [← h2]; simp [World.cell?, h4, h6]⟩⟩
theorem Pl.mv {B : Nat} (h : Pl V T po l) (hm : Mv B T V V' T') : Pl V' T' po l :=
  ⟨ip_blocks h.ip (fun q o hne hq ho hc => (hm.block q (Array.getElem?_eq_some_iff.1 ho).1 (h.nt hne q hq) (.inr ⟨o, ho, cells_notRec hc⟩)).trans ho), fun hne q hq ht => by
    rcases hm.tt q ht with h3 | h3
    · exact h.nt hne q hq h3
    · obtain ⟨x, t, rfl⟩ := List.exists_cons_of_ne_nil hne
      obtain ⟨q2, f, h1, h2⟩ := h.ip.k 0 x rfl
      have := World.block_lt_of_cell? V _ h2
      rw [h1] at hq
      cases hq
      exact absurd (Nat.lt_of_lt_of_le this h3) (Nat.lt_irrefl _)⟩
end
theorem Ab.chg {w w' : World} {zl zt n sc : Nat} {so : Option Addr} {U : List (Bool × Nat)} {S : Nat → Prop} (h : Ab w zl zt so n sc U) (hc : Chg w w' S) (h1 : ¬ S zl) (h2 : ¬ S zt) (h3 : ∀ k, blk so = some k → ¬ S k) : Ab w' zl zt so n sc U :=
  ⟨(hc.block zl h.l.lt h1).trans h.l, (hc.block zt h.t.lt h2).trans h.t, h.u.stay (Stay.chg (K := fun k => blk so = some k) hc h.s h3) (fun k hk => hk), fun k hk => Nat.lt_of_lt_of_le (h.s k hk) hc.size⟩
theorem Chg.mv {A A' : World} {W : World} {S T T' : Nat → Prop} (h : Chg W A S) (hm : Mv W.heap.size T A A' T') (hT : ∀ k, T k → W.heap.size ≤ k) : Chg W A' S :=
  ⟨hm.os.trans h.os, hm.tape.trans h.tape, hm.output.trans h.output, Nat.le_trans h.size hm.size, fun k hk hn => (hm.block k (Nat.lt_of_lt_of_le hk h.size) (fun e => by have := hT k e; omega) (.inl hk)).trans (h.block k hk hn)⟩
theorem bx_mv {A A' : World} {B q : Nat} {t : TypeId} {v : Value} {T T' : Nat → Prop} (h : Boxed A q t v) (hm : Mv B T A A' T') (hT : ∀ k, T k → B ≤ k) (hq : q < B) : Boxed A' q t v :=
  (hm.block q h.lt (fun e => by have := hT q e; omega) (.inl hq)).trans h
theorem bx_chg {A A' : World} {q : Nat} {t : TypeId} {v : Value} {S : Nat → Prop} (h : Boxed A q t v) (hc : Chg A A' S) (hq : ¬ S q) : Boxed A' q t v := (hc.block q h.lt hq).trans h


set_option maxHeartbeats 16000000 in
theorem rangeA {c1 c2 : Code} (hcode : Try.f4.body.map blksOf = some [c1, c2]) {W : World} {r zv zo zt zp zm zk rb zl zc sc pc i : Nat} {lv tn st st2 : Int} {L : List Rf} {fs fs2 : List (Int × Int)} {R : Nat → Prop} {so po : Option Addr} (htn : tn = 0 ∨ tn = 1) (hlw : Lw L fs st i) (hi : i ≤ 300) (hgd : Gd L)
    (hr : Boxed W r 4 (.bool false)) (hv : Boxed W zv 3 (.int .i64 lv)) (ho : Boxed W zo 27 (.pointer (some ⟨rb, 0, none⟩))) (ht : Boxed W zt 3 (.int .i64 tn)) (hp : Boxed W zp 23 (.slice po (stpL (unsF L) (atW (unsF L) 0)).length pc)) (hip : Ip W po (stpL (unsF L) (atW (unsF L) 0)).length (stpL (unsF L) (atW (unsF L) 0))) (hm : Boxed W zm 4 (.bool true)) (hk : Boxed W zk 3 (.int .i64 0)) (hR : Rv W R rb L fs2 st2) (hRl : ∀ k, R k → k < zp) (hA : Ab W zl zc so (unsF L).length sc (unsF L)) (hAl : zl < zp ∧ ∀ k, blk so = some k → k < zp) (hlt : r < zp ∧ zv < zp ∧ zo < zp ∧ zt < zp ∧ zp < zm ∧ zm < zk)
    {v0 v1 v2 v5 v7 v8 v9 v10 v11 v12 v13 v14 v15 v16 v17 v18 v20 v22 v23 v26 v27 v28 v29 v30 v31 v32 v33 v34 v35 v36 v37 v38 v39 v40 v41 v42 v43 v44 v45 v46 v47 v48 v49 v50 v51 v52 v53 v54 v55 v56 v57 v58 v59 v60 v61 v62 v63 v64 v65 v66 v67 v68 v69 v70 v71 v72 v73 v74 v75 v76 v77 v78 v79 v80 v81 v82 v83 v84 v85 v86 v87 v88 v89 v90 v91 v92 v93 v94 v95 v96 v97 v98 v99 v100 v101 v102 v103 v104 v105 v106 v107 v108 v110 v111 v112 v113 v114 v115 v116 v117 v118 v119 v120 v121 v122 v123 v124 v125 v126 v127 v128 v129 v130 v131 v132 v133 v134 v135 v136 v137 v138 v139 v140 v141 v142 v143 v144 v145 v146 v147 v148 v149 v150 v151 v152 v153 v154 v155 v156 v157 v158 v159 v160 v161 v162 v163 v164 v165 v166 v167 v168 v169 v170 v171 v172 v173 v174 v175 v176 v177 v178 v179 v180 v181 v182 v183 v184 v185 v186 v187 v188 v189 v190 v191 v192 v193 v194 v195 v196 v197 v198 v199 v200 v201 v202 : Value} (ds : List Deferred) (Q : Exit → Act → World → Prop) (hx : ∀ a V, Q .normal a V → Q (.exit 2) a V)
    (hQ : ∀ (D : Nat) (V : World) (mb : Bool) (kk : Int) (v : Value), W.heap.size ≤ D → V.heap[D]? = some (.deferred (some [])) → Chg W V (fun q => q = zp ∨ q = zm ∨ q = zk) → Boxed V zp 23 v → Boxed V zm 4 (.bool mb) → Boxed V zk 3 (.int .i64 kk) → (mb = true → kk = 300 ∨ tn = 0 ∧ kk = lv) → Q .normal { tmps := #[v0, v1, v2, .pointer (some ⟨zv, 0, none⟩), .pointer (some ⟨r, 0, none⟩), v5, .pointer (some ⟨zo, 0, none⟩), v7, v8, v9, v10, v11, v12, v13, v14, v15, v16, v17, v18, .pointer (some ⟨zt, 0, none⟩), v20, .pointer (some ⟨zp, 0, none⟩), v22, v23, .pointer (some ⟨zm, 0, none⟩), .pointer (some ⟨zk, 0, none⟩), v26, v27, v28, v29, v30, v31, v32, v33, v34, v35, v36, v37, v38, v39, v40, v41, v42, v43, v44, v45, v46, v47, v48, v49, v50, v51, v52, v53, v54, v55, v56, v57, v58, v59, v60, v61, v62, v63, v64, v65, v66, v67, v68, v69, v70, v71, v72, v73, v74, v75, v76, v77, v78, v79, v80, v81, v82, v83, v84, v85, v86, v87, v88, v89, v90, v91, v92, v93, v94, v95, v96, v97, v98, v99, v100, v101, v102, v103, v104, v105, v106, v107, v108, .func (.func 49) #[] #[.pointer (some ⟨zl, 0, none⟩), .pointer (some ⟨zc, 0, none⟩)], v110, v111, v112, v113, v114, v115, v116, v117, v118, v119, v120, v121, v122, v123, v124, v125, v126, v127, v128, v129, v130, v131, v132, v133, v134, v135, v136, v137, v138, v139, v140, v141, v142, v143, v144, v145, v146, v147, v148, v149, v150, v151, v152, v153, v154, v155, v156, v157, v158, v159, v160, v161, v162, v163, v164, v165, v166, v167, v168, v169, v170, v171, v172, v173, v174, v175, v176, v177, v178, v179, v180, v181, v182, v183, v184, v185, v186, v187, v188, v189, v190, v191, v192, v193, v194, v195, v196, v197, v198, v199, v200, v201, v202], defers := { target := .collected D, args := #[] } :: ds } V) :
    c1.wpIn Fence.wide 9 Try.prog Q { tmps := #[v0, v1, v2, .pointer (some ⟨zv, 0, none⟩), .pointer (some ⟨r, 0, none⟩), v5, .pointer (some ⟨zo, 0, none⟩), v7, v8, v9, v10, v11, v12, v13, v14, v15, v16, v17, v18, .pointer (some ⟨zt, 0, none⟩), v20, .pointer (some ⟨zp, 0, none⟩), v22, v23, .pointer (some ⟨zm, 0, none⟩), .pointer (some ⟨zk, 0, none⟩), v26, v27, v28, v29, v30, v31, v32, v33, v34, v35, v36, v37, v38, v39, v40, v41, v42, v43, v44, v45, v46, v47, v48, v49, v50, v51, v52, v53, v54, v55, v56, v57, v58, v59, v60, v61, v62, v63, v64, v65, v66, v67, v68, v69, v70, v71, v72, v73, v74, v75, v76, v77, v78, v79, v80, v81, v82, v83, v84, v85, v86, v87, v88, v89, v90, v91, v92, v93, v94, v95, v96, v97, v98, v99, v100, v101, v102, v103, v104, v105, v106, v107, v108, .func (.func 49) #[] #[.pointer (some ⟨zl, 0, none⟩), .pointer (some ⟨zc, 0, none⟩)], v110, v111, v112, v113, v114, v115, v116, v117, v118, v119, v120, v121, v122, v123, v124, v125, v126, v127, v128, v129, v130, v131, v132, v133, v134, v135, v136, v137, v138, v139, v140, v141, v142, v143, v144, v145, v146, v147, v148, v149, v150, v151, v152, v153, v154, v155, v156, v157, v158, v159, v160, v161, v162, v163, v164, v165, v166, v167, v168, v169, v170, v171, v172, v173, v174, v175, v176, v177, v178, v179, v180, v181, v182, v183, v184, v185, v186, v187, v188, v189, v190, v191, v192, v193, v194, v195, v196, v197, v198, v199, v200, v201, v202], defers := ds } W := by
  refine code_b1 (R := fun c => c.wpIn Fence.wide 9 Try.prog Q _ W) hcode ⟨_, _, rfl, ?_⟩
  show Code.wpIn _ _ _ _ _ _ _
  obtain ⟨p, hpp⟩ : ∃ p, prodW (unsF L) = p := ⟨_, rfl⟩
  have hpos := prodW_pos (unsF L)
  have hul := uns_len hlw
  have HQ : HidO _ := hQ
  have HLT : HidO _ := hlt
  have HXX : HidO _ := hx
  have HW : HidO (zk < W.heap.size) := hk.lt
  have HIP : HidO (Pl W (fun _ => False) po (stpL (unsF L) (atW (unsF L) 0))) := ⟨hip, fun _ _ _ e => e⟩
  have HP : HidO (prodW (unsF L) = p ∧ 0 < p) := ⟨hpp, by omega⟩
  clear hQ hx hlt hip hpos hpp
  gi_wp2_with fail
  apply wpIn_rangeFunc_priv (α := Stp) (encs := stpV) (K := fun k => k = zl ∨ blk so = some k) (w0 := W) rfl (by decide) (gf := 49) (lb := #[.pointer (some ⟨zl, 0, none⟩), .pointer (some ⟨zc, 0, none⟩)]) rfl trivial (enters_of Try.func49 (by kernel_rfl) rfl)
    (sall1_priv 8 (by decide) W zl zc so (unsF L).length sc (unsF L) hA.l hA.t hA.u hA.s (by omega))
    (fun k hk => by have h1 := HLT.out; have h2 := HW.out; rcases hk with hk | hk; omega; have := hAl.2 k hk; omega) (Below.refl _ _) (fun x => rfl)
    (fun T pre V => pre.length < 300 ∧ Chg W V (fun q => q = zp ∨ q = zm ∨ q = zk) ∧ Boxed V zm 4 (.bool (decide (pre.length < p))) ∧ Boxed V zk 3 (.int .i64 (pre.length : Int)) ∧ ∃ po pc l, Boxed V zp 23 (.slice po l.length pc) ∧ Pl V T po l ∧ (pre.length < p → l = stpL (unsF L) (atW (unsF L) pre.length)))
    (fun c T pre V => c = .exit 2 ∧ Chg W V (fun q => q = zp ∨ q = zm ∨ q = zk) ∧ ∃ mb kk v, Boxed V zp 23 v ∧ Boxed V zm 4 (.bool mb) ∧ Boxed V zk 3 (.int .i64 kk) ∧ (kk = 300 ∨ tn = 0 ∧ kk = lv))
    (fun T T' s A A' hs hT hM => by
      obtain ⟨h0, h1, h2, h3, po, pc, l, h4, h5, h6⟩ := hs
      have g1 := HLT.out
      have g2 := HW.out
      exact ⟨h0, h1.mv hM hT, bx_mv h2 hM hT (by omega), bx_mv h3 hM hT (by omega), po, pc, l, bx_mv h4 hM hT (by omega), h5.mv hM, h6⟩)
    (fun c T T' s A A' hs hT hM => by
      obtain ⟨h0, h1, mb, kk, v, h2, h3, h4, h5⟩ := hs
      have g1 := HLT.out
      have g2 := HW.out
      exact ⟨h0, h1.mv hM hT, mb, kk, v, bx_mv h2 hM hT (by omega), bx_mv h3 hM hT (by omega), bx_mv h4 hM hT (by omega), h5⟩)
    ⟨by decide, Chg.refl _ _, by simpa [HP.out.2] using hm, hk, po, pc, _, hp, HIP.out, fun _ => rfl⟩
    (fun T pre x a' V => (allP (unsF L) [])[pre.length]? = some x.l ∧ Is' V x.ao x.l.length x.cap x.l ∧ (∀ k, T k → k < V.heap.size) ∧ ∃ zs, V.heap[zs]? = some (.cells #[.slice x.ao x.l.length x.cap] 35) ∧ ∃ f : Nat → Value, a' = { tmps := #[f 0, f 1, f 2, .pointer (some ⟨zv, 0, none⟩), .pointer (some ⟨r, 0, none⟩), f 5, .pointer (some ⟨zo, 0, none⟩), f 7, f 8, f 9, f 10, f 11, f 12, f 13, f 14, f 15, f 16, f 17, f 18, .pointer (some ⟨zt, 0, none⟩), f 20, .pointer (some ⟨zp, 0, none⟩), f 22, f 23, .pointer (some ⟨zm, 0, none⟩), .pointer (some ⟨zk, 0, none⟩), .pointer (some ⟨zs, 0, none⟩), f 27, f 28, f 29, f 30, f 31, f 32, f 33, f 34, f 35, f 36, f 37, f 38, f 39, f 40, f 41, f 42, f 43, f 44, f 45, f 46, f 47, f 48, f 49, f 50, f 51, f 52, f 53, f 54, f 55, f 56, f 57, f 58, f 59, f 60, f 61, f 62, f 63, f 64, f 65, f 66, f 67, f 68, f 69, f 70, f 71, f 72, f 73, f 74, f 75, f 76, f 77, f 78, f 79, f 80, f 81, f 82, f 83, f 84, f 85, f 86, f 87, f 88, f 89, f 90, f 91, f 92, f 93, f 94, f 95, f 96, f 97, f 98, f 99, f 100, f 101, f 102, f 103, f 104, f 105, f 106, f 107, f 108, .func (.func 49) #[] #[.pointer (some ⟨zl, 0, none⟩), .pointer (some ⟨zc, 0, none⟩)], f 110, f 111, f 112, f 113, f 114, f 115, f 116, f 117, f 118, f 119, f 120, f 121, f 122, f 123, f 124, f 125, f 126, f 127, f 128, f 129, f 130, f 131, f 132, f 133, f 134, f 135, f 136, f 137, f 138, f 139, f 140, f 141, f 142, f 143, f 144, f 145, f 146, f 147, f 148, f 149, f 150, f 151, f 152, f 153, f 154, f 155, f 156, f 157, f 158, f 159, f 160, f 161, f 162, f 163, f 164, f 165, f 166, f 167, f 168, f 169, f 170, f 171, f 172, f 173, f 174, f 175, f 176, f 177, f 178, f 179, f 180, f 181, f 182, f 183, f 184, f 185, f 186, f 187, f 188, f 189, f 190, f 191, f 192, f 193, f 194, f 195, f 196, f 197, f 198, f 199, f 200, f 201, f 202], defers := [] })
  case hAx =>
    rintro T pre x a' A q0 o0 hT ⟨t1, t2, t0, zs, tx, t6⟩ hq0
    have hg := grownBy_putObj' A (W.heap.size + 1) o0
    have hr : ∀ r, (some (W.heap.size + 1) : Option Nat) = some r → ∃ o : Obj, A.heap[r]? = some o ∧ o.isCells = false := fun r e => by cases e; exact ⟨_, hq0, rfl⟩
    exact ⟨t1, t2.own hg hr, fun k hk => Nat.lt_of_lt_of_le (t0 k hk) hg.size, zs, heap_kept hg tx (fun e => not_cells_ty (hr zs e.symm) ⟨_, _, tx⟩), t6⟩
  case hassign =>
    intro T pre x V K' hT hIv hTx hK'
    simp only [stpV]
    have ga := alloc_grown V (.cells #[.slice x.ao x.l.length x.cap] 35)
    have kf := World.alloc_heap_new V (.cells #[.slice x.ao x.l.length x.cap] 35)
    obtain ⟨h0, h1, h2, h3, po, pc, l, h4, h5, h6⟩ := hIv
    obtain ⟨t1, t2, t3⟩ := hTx
    gi_wp2
    exact hK' _ _ ((KeepsOthers.alloc V _).from _) (StayP.grown ga) ⟨h0, h1.trans (Chg.of_grown ga _), box_own h2 ga (fun r e => by cases e), box_own h3 ga (fun r e => by cases e), po, pc, l, box_own h4 ga (fun r e => by cases e), ⟨ip_blocks h5.ip (fun q o _ _ ho _ => (ga.block q (Array.getElem?_eq_some_iff.1 ho).1 (by simp)).trans ho), h5.nt⟩, h6⟩ ⟨t1, t2.grownO ga, (fun k hk => Nat.lt_of_lt_of_le (hT k hk).2 ga.size), _, kf, (fun i => nthU [_, _, _, undef, undef, _, undef, _, _, _, _, _, _, _, _, _, _, _, _, undef, _, undef, _, _, undef, undef, undef, _, _, _, _, _, _, _, _, _, _, _, _, _, _, _, _, _, _, _, _, _, _, _, _, _, _, _, _, _, _, _, _, _, _, _, _, _, _, _, _, _, _, _, _, _, _, _, _, _, _, _, _, _, _, _, _, _, _, _, _, _, _, _, _, _, _, _, _, _, _, _, _, _, _, _, _, _, _, _, _, _, _, undef, _, _, _, _, _, _, _, _, _, _, _, _, _, _, _, _, _, _, _, _, _, _, _, _, _, _, _, _, _, _, _, _, _, _, _, _, _, _, _, _, _, _, _, _, _, _, _, _, _, _, _, _, _, _, _, _, _, _, _, _, _, _, _, _, _, _, _, _, _, _, _, _, _, _, _, _, _, _, _, _, _, _, _, _, _, _, _, _, _, _, _, _, _] i), rfl⟩
  case hbody =>
    rintro T pre x a' V hT ⟨qq, hqq⟩ ⟨h0, h1, h2, h3, po, pc, l, h4, h5, h6⟩ ⟨t1, t2, t0, zs, tx, f, rfl⟩
    have g1 := HLT.out
    have g2 := HW.out
    obtain ⟨hpp, hpos⟩ := HP.out
    have hlen : pre.length < p := by
      have h9 := (List.getElem?_eq_some_iff.1 t1).1
      rw [(allP_at _ _).1] at h9
      omega
    have hxl : x.l = stpL (unsF L) (atW (unsF L) pre.length) := by
      have h9 := (allP_at (unsF L) []).2 pre.length (by omega)
      rw [t1] at h9
      simpa using h9
    have hll := h6 hlen
    subst hll
    have hl600 := stpL_len (unsF L) (atW (unsF L) pre.length)
    have dm : decide (pre.length < p) = true := by simpa using hlen
    rw [dm] at h2
    have sr := bx_chg hr h1 (by omega)
    have sv := bx_chg hv h1 (by omega)
    have s_o := bx_chg ho h1 (by omega)
    have s_t := bx_chg ht h1 (by omega)
    have sR := hR.chg h1 (fun k hk e => by have := hRl k hk; omega)
    have x0 := cellOf (i := 0) (v := .slice x.ao x.l.length x.cap) tx rfl
    have k2 := h2.cell
    have k3 := h3.cell
    have k4 := h4.cell
    have hsm := sames_any V x.ao po x.l.length _ x.cap pc x.l _ t2.ip h5.ip (by rw [hxl]; omega)
    rw [hxl, show decide (stpL (unsF L) (atW (unsF L) pre.length) = stpL (unsF L) (atW (unsF L) pre.length)) = true by simp] at hsm
    rw [hxl] at x0
    have HXL : HidO _ := hxl
    have HT1 : HidO _ := t1
    have H6 : HidO _ := h6
    clear hxl t1 h6 dm
    gi_wp2_with fail
    refine ⟨trivial, callsIn_round (hsm.mono ?_)⟩
    rintro e V2 ⟨rfl, hg2⟩
    clear hsm x0
    have c_o := hg2.cell s_o.cell (by simp)
    have c_p := hg2.cell k4 (by simp)
    have hip2 : Ip V2 po (stpL (unsF L) (atW (unsF L) pre.length)).length (stpL (unsF L) (atW (unsF L) pre.length)) := ip_blocks h5.ip (fun q o _ _ ho _ => (hg2.block q (Array.getElem?_eq_some_iff.1 ho).1 (by simp)).trans ho)
    have hnx := next_r (sR.grown hg2) hlw hi hgd (k := pre.length) (by omega) po _ pc hip2
    clear k2 k3 k4
    gi_wp2_with fail
    refine ⟨trivial, callsIn_round (hnx.mono ?_)⟩
    rintro e V3 ⟨ao, ac, l2, nb, rfl, hn1, hn2, hn3, hn4, hg3⟩
    clear hnx c_o c_p hip2
    have hg23 := grown_trans hg2 hg3 (by simp)
    have y4 := box_own h4 hg23 (fun r e => by cases e)
    have c4 := y4.cell
    have f4 := y4.frozen
    have hc4 := setCell_chg V3 zp 0 (.slice ao l2.length ac)
    have z4 := y4.set (.slice ao l2.length ac)
    obtain ⟨V4, hV4⟩ : ∃ V4, V3.setCell ⟨zp, 0, none⟩ (.slice ao l2.length ac) = V4 := ⟨_, rfl⟩
    rw [hV4] at hc4 z4
    have y2 : Boxed V4 zm 4 (.bool true) := bx_chg (box_own h2 hg23 (fun r e => by cases e)) hc4 (fun e => by have h9 : zm = zp := e; omega)
    have y3 : Boxed V4 zk 3 (.int .i64 (pre.length : Int)) := bx_chg (box_own h3 hg23 (fun r e => by cases e)) hc4 (fun e => by have h9 : zk = zp := e; omega)
    have c2 := y2.cell
    have f2 := y2.frozen
    have hc2 := setCell_chg V4 zm 0 (.bool nb)
    have z2 := y2.set (.bool nb)
    obtain ⟨V5, hV5⟩ : ∃ V5, V4.setCell ⟨zm, 0, none⟩ (.bool nb) = V5 := ⟨_, rfl⟩
    rw [hV5] at hc2 z2
    have w3 : Boxed V5 zk 3 (.int .i64 (pre.length : Int)) := bx_chg y3 hc2 (fun e => by have h9 : zk = zm := e; omega)
    have w4 : Boxed V5 zp 23 (.slice ao l2.length ac) := bx_chg z4 hc2 (fun e => by have h9 : zp = zm := e; omega)
    have c3 := w3.cell
    have f3 := w3.frozen
    have hc3 := setCell_chg V5 zk 0 (.int .i64 ((pre.length : Int) + 1))
    have z3 := w3.set (.int .i64 ((pre.length : Int) + 1))
    obtain ⟨V6, hV6⟩ : ∃ V6, V5.setCell ⟨zk, 0, none⟩ (.int .i64 ((pre.length : Int) + 1)) = V6 := ⟨_, rfl⟩
    rw [hV6] at hc3 z3
    have u4 : Boxed V6 zp 23 (.slice ao l2.length ac) := bx_chg w4 hc3 (fun e => by have h9 : zp = zk := e; omega)
    have u2 : Boxed V6 zm 4 (.bool nb) := bx_chg z2 hc3 (fun e => by have h9 : zm = zk := e; omega)
    have hCh : Chg V V6 (fun q => q = zp ∨ q = zm ∨ q = zk) := (((Chg.of_grown hg23 _).trans (hc4.mono (fun q _ e => .inl e))).trans (hc2.mono (fun q _ e => .inr (.inl e)))).trans (hc3.mono (fun q _ e => .inr (.inr e)))
    have c3' := z3.cell
    have cv := (bx_chg sv hCh (by omega)).cell
    have ct := (bx_chg s_t hCh (by omega)).cell
    have hChW := h1.trans hCh
    have hI6 : Ip V6 ao l2.length l2 := ((hn3.chg hc4 (fun a e => .inr (fun e9 => by
      have h9 : a.block = zp := e9
      have h10 := hn4 a.block (by rw [e]; rfl)
      have := y4.lt
      have := h4.lt
      have := hg2.size
      omega))).chg hc2 (fun a e => .inr (fun e9 => by
      have h9 : a.block = zm := e9
      have h10 := hn4 a.block (by rw [e]; rfl)
      have := h2.lt
      have := hg2.size
      omega))).chg hc3 (fun a e => .inr (fun e9 => by
      have h9 : a.block = zk := e9
      have h10 := hn4 a.block (by rw [e]; rfl)
      have := h3.lt
      have := hg2.size
      omega))
    have hPl : Pl V6 T ao l2 := ⟨hI6, fun _ q hq ht => by
      have h10 := hn4 q hq
      have := t0 q ht
      have := hg2.size
      omega⟩
    have hnb : nb = decide (pre.length + 1 < p) := by
      by_cases h : pre.length + 1 < p
      · rw [(hn1 (by omega)).1]; simpa using h
      · rw [(hn2 (by omega)).1]; simpa using h
    have hl2 : pre.length + 1 < p → l2 = stpL (unsF L) (atW (unsF L) (pre.length + 1)) := fun h => (hn1 (by omega)).2
    have p1 : KeepsFrom W.heap.size V V6 := ⟨hCh.size, fun k o hB hk ho => (hCh.block k (Array.getElem?_eq_some_iff.1 hk).1 (fun e => by omega)).trans hk⟩
    have p2 : StayP (fun k => k = zl ∨ blk so = some k) T V V6 := ⟨hCh.os, hCh.tape, hCh.output, hCh.size, fun k hk hl => hCh.block k hl (fun e => by
      rcases hk with hk | hk
      · omega
      · have := hAl.2 k hk; omega), fun k o hk ho _ => (hCh.block k (Array.getElem?_eq_some_iff.1 ho).1 (fun e => by
      have := hT k hk
      omega)).trans ho⟩
    have hplen : ((pre.length : Int) + 1) = ((pre.length + 1 : Nat) : Int) := by omega
    have H3 : HidO (Boxed V6 zk 3 (.int .i64 ((pre.length + 1 : Nat) : Int))) := by rw [← hplen]; exact z3
    have HV4 : HidO _ := hV4
    have HV5 : HidO _ := hV5
    have HV6 : HidO _ := hV6
    have HNB : HidO _ := hnb
    have HL2 : HidO _ := hl2
    clear hplen hc4 hc2 hc3 hI6 hn1 hn2 hn3 hn4 hCh z2 z4 w4 y2 y3 y4 w3 z3 h2 h3 h4 h5 hg2 hg3 hg23 sv s_t s_o sR sr hnb hl2 h1
    by_cases h300 : pre.length + 1 = 300
    · have d1 : (((pre.length : Int) + 1) == 300) = true := by simp; omega
      gi_wp2_with fail
      exact ⟨p1, rfl, hChW, nb, _, _, u4, u2, H3.out, .inl (by omega)⟩
    · have d1 : (((pre.length : Int) + 1) == 300) = false := by simp; omega
      by_cases ht0 : tn = 0
      · have d2 : (tn == 0) = true := by simpa using ht0
        by_cases hlv : (pre.length : Int) + 1 = lv
        · have d3 : (((pre.length : Int) + 1) == lv) = true := by simpa using hlv
          have HLV : HidO _ := hlv
          have HT0 : HidO _ := ht0
          clear hlv ht0
          gi_wp2_with fail
          exact ⟨p1, rfl, hChW, nb, _, _, u4, u2, H3.out, .inr ⟨HT0.out, by have := HLV.out; omega⟩⟩
        · have d3 : (((pre.length : Int) + 1) == lv) = false := by simpa using hlv
          clear hlv ht0
          gi_wp2_with fail
          exact ⟨p1, p2, by simp; omega, hChW, by simpa [HNB.out] using u2, by simpa using H3.out, ao, ac, l2, u4, hPl, by simpa using HL2.out⟩
      · have d2 : (tn == 0) = false := by simpa using ht0
        gi_wp2_with fail
        exact ⟨p1, p2, by simp; omega, hChW, by simpa [HNB.out] using u2, by simpa using H3.out, ao, ac, l2, u4, hPl, by simpa using HL2.out⟩
  case hdone =>
    rintro D T xs V hD hT hS ⟨h0, h1, h2, h3, po, pc, l, h4, h5, h6⟩ hK
    have hxl : xs.length = p := by
      have h9 := congrArg List.length hS
      rw [List.length_map, (allP_at _ _).1, HP.out.1] at h9
      exact h9
    exact HQ.out D V _ _ _ hD hK h1 h4 h2 h3 (fun e => by simp at e; omega)
  case hstop =>
    rintro D cd T pre V hD hT _ ⟨rfl, h1, mb, kk, v, h2, h3, h4, h5⟩ hK
    gi_wp2
    exact HXX.out _ _ (HQ.out D V mb kk v hD hK h1 h2 h3 h4 (fun _ => h5))
end Go.Proofs.Ytgkeflgfnagnjaa
