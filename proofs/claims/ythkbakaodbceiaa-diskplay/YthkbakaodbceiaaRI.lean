/-
  DiskPlay's regions that feed, and that make bytes.
-/
import Derived.Test.YthkbakaodbceiaaRH
namespace Go.Proofs.Ythkbakaodbceiaa
open Go.RowKit Go.Maps
set_option linter.unusedVariables false

set_option maxRecDepth 100000 in
set_option maxHeartbeats 2000000 in
theorem right_x {w : World} {o : Option Addr} {n c : Nat} {l : List (Int × Int)} (hfx : Fx w o n c l) (hn : n ≤ 4294967296) :
    Calls Try.prog 11 #[.slice o n c] w fun e w' => e = .returned (.bool (fw l)) ∧ w.grownBy w' none := by
  have hlen := hfx.len
  have HX : Hid _ := hfx
  clear hfx
  go_enter Try.func11, Try.ntmps11
  go_wp2_with fail
  go_loopw [3] (fun i' wr => ∃ i : Nat, i' = .int .i64 i ∧ i ≤ n ∧ w.grownBy wr none ∧ Hid (fw (l.take i) = true)) (fun i _ => n - (intOf i).toNat)
  case atStart => exact ⟨0, rfl, Nat.zero_le _, grown_refl _ _, (show fw (l.take 0) = true by simp [fw])⟩
  case round =>
    obtain ⟨i, rfl, hin, hgw, hfi⟩ := hrel
    by_cases hlt : i < n
    · have dl : decide ((i : Int) < (n : Int)) = true := by simp; omega
      have dl2 : decide (i < n) = true := by simpa using hlt
      have hf : Ft w o n c l := by
        rcases HX.out.ft with h | h
        · omega
        · exact h
      cases o with
      | none => exfalso; have := (HX.out.nil rfl).1; omega
      | some a =>
        obtain ⟨ob, oi, rfl⟩ := hf.pl a rfl
        have hil : i < l.length := by omega
        obtain ⟨k0, k1⟩ := hf.k ob oi rfl i l[i] (by simp [hil])
        have k0 := hgw.cell k0 (by simp)
        have k1 := hgw.cell k1 (by simp)
        clear hf
        have htk : l.take (i + 1) = l.take i ++ [l[i]] := by rw [List.take_add_one, List.getElem?_eq_getElem hil]; rfl
        have hmem : l[i] ∈ l := List.getElem_mem hil
        have HT : Hid (fw (l.take (i + 1)) = (decide (0 ≤ l[i].1) && decide (l[i].1 ≤ 2))) := (by show fw (l.take (i + 1)) = _; rw [htk]; have := hfi.out; unfold fw at *; rw [List.all_append, this]; simp)
        have HB : Hid ((decide (0 ≤ l[i].1) && decide (l[i].1 ≤ 2)) = false → fw l = false) := (fun e => by
          unfold fw
          cases hq : l.all (fun x => decide (0 ≤ x.1) && decide (x.1 ≤ 2)) with
          | false => rfl
          | true => rw [List.all_eq_true] at hq; rw [hq _ hmem] at e; cases e)
        clear htk hmem
        generalize l[i] = x at *
        obtain ⟨xk, xp⟩ := x
        have wz : IntKind.i64.wrap ((i : Int) + 1) = ((i + 1 : Nat) : Int) := by rw [IntWalk.i64_in _ (by omega)]; push_cast; rfl
        simp only at k0 k1
        by_cases x0 : xk < 0
        · have e1 : decide (xk < 0) = true := by simpa using x0
          go_wp2
          go_ret
          exact ⟨ret_bool (HB.out (by simp; omega)).symm, hgw⟩
        · have e1 : decide (xk < 0) = false := by simpa using x0
          by_cases x2 : 2 < xk
          · have e2 : decide (2 < xk) = true := by simpa using x2
            go_wp2
            go_ret
            exact ⟨ret_bool (HB.out (by simp; omega)).symm, hgw⟩
          · have e2 : decide (2 < xk) = false := by simpa using x2
            go_wp2
            go_roundw
            case rel => exact ⟨i + 1, by first | rfl | simp, by omega, hgw, (HT.out.trans (by simp; omega))⟩
            case measure => simp [intOf]; omega
    · obtain rfl : i = n := by omega
      have dl : decide ((i : Int) < (i : Int)) = false := by simp
      have hfl : fw l = true := by have := hfi.out; rwa [List.take_of_length_le (by omega)] at this
      have HF : Hid _ := hfl
      clear hfi hfl
      go_wp2
      go_ret
      exact ⟨ret_bool HF.out.symm, hgw⟩

section
variable {w w' : World} {T : Nat → Prop} {rb : Nat} {L : List Rf} {fs : List (Int × Int)} {st : Int}
set_option maxRecDepth 100000 in
set_option maxHeartbeats 2000000 in
theorem feed_rx (h : Rv w T rb L fs st) {o : Option Addr} {k c : Nat} {l : List (Int × Int)} (hf : Fx w o k c l) (hk : k ≤ 1000) (hfs : fs.length ≤ 100000) :
    Calls Try.prog 32 #[.pointer (some ⟨rb, 0, none⟩), .slice o k c] w fun e w' => (fw l = false ∧ e = .returned (.int .i64 2) ∧ w.grownBy w' none) ∨ (fw l = true ∧ e = .returned (.int .i64 0) ∧ Rn w w' T rb L (fs ++ l) st) := by
  have hr := right_x hf (by omega)
  by_cases hw : fw l = true
  rotate_left
  · have hw0 : fw l = false := by simpa using hw
    rw [hw0] at hr
    have HW : Hid _ := hw0
    clear hf h hw hw0
    go_enter Try.func32, Try.ntmps32
    go_wp2_with fail
    refine hr.mono ?_
    rintro e w1 ⟨rfl, hg1⟩
    go_wp2
    go_ret
    exact .inl ⟨HW.out, rfl, hg1⟩
  · rw [hw] at hr
    have HW : Hid _ := hw
    clear hw
    go_enter Try.func32, Try.ntmps32
    go_wp2_with fail
    refine hr.mono ?_
    rintro e w1 ⟨rfl, hg1⟩
    have h1 := h.grown hg1
    have hf1 := hf.grown hg1
    obtain ⟨ao, ac, fo, fn, fc, hh, hrr, hft, ha, h5⟩ := h1.ex
    have c1 : w1.cell? ⟨rb, 1, none⟩ = some (.slice fo fn fc) := by rw [cell_at hh]; rfl
    have hE : Ft w1 none 0 0 [] := ⟨rfl, Nat.le_refl _, Nat.zero_le _, (fun a e => by cases e), (fun _ => rfl), (fun b i e => by cases e)⟩
    have hfl := hft.len
    go_wp2_with (at_builtin; (refine wpList_feed rfl _ _ rfl rfl hE (fun ad e => by cases e) rfl hft (by omega) ?_))
    intro fo2 fc2 w2 hft2 hab2 hc2
    have hg2 : w1.grownBy w2 none := hc2.grown (fun k hk e => e)
    have hf2 := hf1.grown hg2
    have c12 := hg2.cell c1 (by simp)
    have hs2 := hg2.size
    have hfo2 : ∀ ad, fo2 = some ad → w1.heap.size ≤ ad.block := fun ad e => (hab2 ad e).2
    clear c1
    go_wp2_with (at_builtin; (refine wpList_feedx rfl _ _ rfl rfl hft2 (fun ad e => (hab2 ad e).1) rfl hf2 (by omega) ?_))
    intro fo3 fc3 w3 hft3 hab3 hc3
    have hg3 : w1.grownBy w3 none := ((Chg.of_grown hg2 _).trans hc3).grown (fun k hk ⟨fd, e, e2⟩ => by have := hfo2 fd e; omega)
    have hh3 := heap_kept hg3 hh (by simp)
    have c13 : w3.cell? ⟨rb, 1, none⟩ = some (.slice fo fn fc) := by rw [cell_at hh3]; rfl
    have f3 : w3.frozen? ⟨rb, 1, none⟩ = false := by unfold World.frozen?; rw [hh3]; simp
    have hC := setCell_chg w3 rb 1 (.slice fo3 (fn + k) fc3)
    have trb : Ty w3 rb 89 := ⟨_, _, hh3⟩
    have trw : Ty w1 rb 89 := ⟨_, _, hh⟩
    have hCw : Chg w1 (w3.setCell ⟨rb, 1, none⟩ (.slice fo3 (fn + k) fc3)) (fun q => q = rb) := (Chg.of_grown hg3 _).trans hC
    have hs3 := hg3.size
    have hfin : Hid (Rn w (w3.setCell ⟨rb, 1, none⟩ (.slice fo3 (fn + k) fc3)) T rb L (fs ++ l) st) := by
      refine ⟨⟨fun q => T q ∨ (w1.heap.size ≤ q ∧ q < w3.heap.size), ⟨⟨ao, ac, fo3, fn + k, fc3, ?_, hrr.chg hCw (fun q hq e => (hrr.ty q hq).ne trw (by decide) e), hft3.chg hC (fun a e k => (hab3 a e).1.ty.ne trb (by decide) k), fun a e => ⟨?_, (hab3 a e).1.ty.chg hC (fun k => (hab3 a e).1.ty.ne trb (by decide) k)⟩, fun q hq => Or.inl (h5 q hq)⟩, Or.inl h1.tb, fun q hq => ?_⟩, fun q hq => hq.imp id (fun h => by have := hg1.size; omega)⟩, (Chg.of_grown hg1 _).trans (hCw.mono (fun q _ e => e ▸ h1.tb))⟩
      · have := heap_set hh3 1 (.slice fo3 (fn + k) fc3)
        simpa using this
      · have hl3 := (hab3 a e).1.ty.lt
        rcases (hab3 a e).2 with ⟨fd, e1, e2⟩ | h9
        · exact Or.inr ⟨by have := hfo2 fd e1; omega, hl3⟩
        · exact Or.inr ⟨by omega, hl3⟩
      · rcases hq with hq | hq
        · have := h1.lt q hq; simp; omega
        · simpa using hq.2
    clear hft hft2 hft3 hab2 hab3 hc2 hc3 hf hf1 hf2 hE h h1 ha hrr hC hCw hh hh3
    go_wp2
    go_ret
    exact .inr ⟨HW.out, rfl, hfin.out⟩

end

theorem Fx.chg {w w' : World} {o : Option Addr} {n c : Nat} {l : List (Int × Int)} {S : Nat → Prop} (h : Fx w o n c l) (hc : Chg w w' S) (hS : ∀ a, o = some a → n = 0 ∨ ¬ S a.block) : Fx w' o n c l := by
  refine ⟨h.len, h.nil, ?_⟩
  rcases h.ft with h0 | h0
  · exact .inl h0
  · by_cases hn : n = 0
    · exact .inl hn
    · exact .inr (h0.chg hc (fun a e => (hS a e).resolve_left hn))
theorem Ft.fx {w : World} {o : Option Addr} {n c : Nat} {l : List (Int × Int)} (h : Ft w o n c l) : Fx w o n c l := ⟨h.len, fun e => by have h1 := h.nil e; have h2 := h.room; omega, .inr h⟩

/-- 'append(nil, fates...)', as one step of a region that draws. -/
theorem step_append_fx {ops : Array Oper} {o : Oper} {a : Act} {w : World} {K : Act → World → Prop} {Q : Exit → Act → World → Prop} {E : Prop}
    (hg : o.guard = none) (ht : o.type = 22) (s x : Operand) (hop : o.op = Op.call { callee := Callee.builtin Builtin.append, args := #[s, x], argTypes := #[22, 22] })
    {xo : Option Addr} {m xc : Nat} {l : List (Int × Int)} (hs : a.eval s = .slice none 0 0) (hx : a.eval x = .slice xo m xc) (hX : Fx w xo m xc l) (hn : m ≤ 1000000)
    (hK : ∀ ro' rc' w', Ft w' ro' m rc' l → w.grownBy w' none → K (a.put o.dst (.slice ro' m rc')) w') :
    if Region.wanted o (yielded ops a.tmps) = true then Oper.wp Try.prog o a w K Q else E := by
  rcases hX.ft with h0 | hft
  · subst h0
    obtain rfl : l = [] := List.eq_nil_of_length_eq_zero hX.len
    obtain ⟨inf, hi, hz, hz1, hz2⟩ := info28_parts
    have hw : Region.wanted o (yielded ops a.tmps) = true := by simp [Region.wanted, hg]
    rw [if_pos hw]
    have hsrc : Src Try.prog inf.size 22 (.slice xo 0 xc) 0 [] w := by
      cases xo with
      | none => obtain ⟨_, rfl⟩ := hX.nil rfl; exact Src.ofNil w Try.underlying22 0
      | some a => exact Src.ofSlice w Try.underlying22 a 0 xc [] (by simp) (fun j u e => by simp at e) (fun u e => by simp at e)
    have hrun := run_append_nothing (P := Try.prog) w 22 22 22 28 inf Try.underlying22 hi none 0 0 (Nat.le_refl _) (.slice xo 0 xc) hsrc
    unfold Oper.wp
    simp only [execOp, hop, resolve, invoke, builtin, Sem.run_bind, Sem.run_pure, Result.andThen_ok, List.map_toArray, List.map_cons, List.map_nil, hs, hx, ht, hrun]
    exact hK _ _ _ ⟨rfl, Nat.le_refl _, Nat.zero_le _, (fun a e => by cases e), (fun _ => rfl), (fun b i e => by cases e)⟩ (grown_refl _ _)
  · exact step_append_fs hg ht s x hop hs hx hft hn (fun ro rc w' h1 _ h3 => hK ro rc w' h1 h3)

def fedA (L : List Rf) (fs : List (Int × Int)) (st : Int) (l : List (Int × Int)) : An := ⟨if fw l = true then 0 else 2, L, if fw l = true then fs ++ l else fs, st⟩
theorem fed_P {w : World} {T : Nat → Prop} {b i : Nat} {L : List Rf} {fs : List (Int × Int)} {st : Int} (h : Pv w T b L fs st i) (hi : i ≤ 300) {o : Option Addr} {k c : Nat} {l : List (Int × Int)} (hf : Fx w o k c l) (hkc : k ≤ c) (hk : k ≤ 100) : Calls Try.prog 31 #[.pointer (some ⟨b, 0, none⟩), .slice o k c] w (PA w T b i (fedA L fs st l)) := by
  refine (feed_p h hi hf hkc hk).mono ?_
  unfold PA fedA
  rintro e w2 (⟨h0, rfl, hg⟩ | ⟨h0, rfl, hn⟩)
  · simp only [h0]
    exact ⟨rfl, Pn.of_grown h hg⟩
  · simp only [h0, if_true]
    exact ⟨trivial, hn⟩
theorem fed_R {w : World} {U : Nat → Prop} {rb : Nat} {L : List Rf} {fs : List (Int × Int)} {st : Int} (h : Rv w U rb L fs st) {o : Option Addr} {k c : Nat} {l : List (Int × Int)} (hf : Fx w o k c l) (hk : k ≤ 100) (hfs : fs.length ≤ 100000) : Calls Try.prog 32 #[.pointer (some ⟨rb, 0, none⟩), .slice o k c] w (RA' w U rb (fedA L fs st l)) := by
  refine (feed_rx h hf (by omega) hfs).mono ?_
  unfold RA' fedA
  rintro e w2 (⟨h0, rfl, hg⟩ | ⟨h0, rfl, hn⟩)
  · simp only [h0]
    exact ⟨rfl, Rn.of (h.grown hg) (Chg.of_grown hg _)⟩
  · simp only [h0, if_true]
    exact ⟨trivial, hn⟩

theorem Vo.is' {w : World} {base n cap : Nat} {ao : Option Addr} {l : List Int} (h : Vo w base 3 ao n cap (l.map (.int .i64))) : Is' w ao n cap l ∧ ∀ a, ao = some a → base ≤ a.block ∧ a.block < w.heap.size := by
  have hS := h.shows
  refine ⟨⟨by have := h.len; simpa using this, hS.room, hS.top, fun a e => ?_, fun e => ?_, fun b i e j x hx => ?_⟩, fun a e => h.from_base a.block (by rw [e]; rfl)⟩
  · have hp := h.plain
    rcases hp with h9 | ⟨xb, xf, h9⟩
    · rw [h9] at e; cases e
    · rw [h9] at e; cases e; exact ⟨_, _, rfl⟩
  · have := hS.nil e; have := hS.room; omega
  · have h9 := hS.cells _ e j (.int .i64 x) (by simp [hx])
    rwa [Addr.add_lit] at h9
theorem Ip.vs {w : World} {o : Option Addr} {n c : Nat} {l : List Int} (h : Ip w o n l) (h1 : n ≤ c) (h2 : c ≤ maxLen) (h3 : o = none → c = 0) : Vs w o n c (l.map (.int .i64)) := by
  refine ⟨by simpa using h.len, h1, h2, h3, fun u hu => ?_, fun a e j u hu => ?_⟩
  · obtain ⟨x, _, rfl⟩ := List.mem_map.1 hu
    rfl
  · rw [List.getElem?_map] at hu
    obtain ⟨x, hx, rfl⟩ := Option.map_eq_some_iff.1 hu
    obtain ⟨q, f, e1, e2⟩ := h.k j x hx
    rw [e] at e1
    cases e1
    rw [Addr.add_lit]
    exact e2

theorem Po.up {W W1 w' : World} {M : Nat → Prop} {b rb i : Nat} {A : An} (hg : W.grownBy W1 none) (h : Po W1 w' M b rb A i) : Po W w' M b rb A i := by
  obtain ⟨⟨M', h1, h2⟩, h3⟩ := h
  exact ⟨⟨M', h1, fun k hk => (h2 k hk).imp id (fun h => Nat.le_trans hg.size h)⟩, (Chg.of_grown hg M).trans h3⟩
set_option maxRecDepth 100000 in
set_option maxHeartbeats 4000000 in
theorem reg58P (W : World) (zx b rb i : Nat) (T U M : Nat → Prop) (L : List Rf) (fs : List (Int × Int)) (st : Int) (yo : Option Addr) (yn yc : Nat) (l : List (Int × Int)) (c5 : W.cell? ⟨zx, 5, none⟩ = some (.slice yo yn yc)) (hzx : ∀ k, T k ∨ U k → k ≠ zx) (hP : Pv W T b L fs st i) (hR : Rv W U rb L fs st) (hd : ∀ k, T k → ¬ U k) (hM : ∀ k, M k ↔ T k ∨ U k) (hgL : Gd L) (hi : i < 300) (hY : Fx W yo yn yc l) (hyn : yn ≤ 100) (hyT : ∀ a, yo = some a → yn = 0 ∨ ¬ T a.block) (v0 v1 v2 v3 v4 v5 v7 v8 v10 v11 v12 v13 v15 v16 v17 v18 v19 v20 v21 v22 v23 v24 v25 v26 v27 v28 v29 v30 v31 v32 v33 v34 v35 v36 v37 v38 v39 v40 v41 v42 v43 v44 v45 v46 v47 v48 v49 v50 v51 v52 v53 v54 v55 v56 v57 v58 v59 v60 v61 v62 v63 v64 v65 v66 v67 v68 v69 v70 v71 v72 v73 v74 v75 v76 v77 v78 v79 v80 v81 v82 v83 v84 v85 v86 v87 v88 v89 v90 v91 v92 v93 v94 v95 v96 v97 v98 v99 v100 v101 v102 v103 v104 v105 v106 v107 v108 v109 v110 v111 v112 v113 v114 v115 v116 v117 v118 v119 v120 v121 v122 v123 v124 v125 v126 v127 v128 v129 v130 v131 v132 v133 v134 v135 v136 v137 v138 v139 v140 v141 v142 v143 v144 v145 v146 v147 v148 v149 v150 v151 v152 v153 v154 v155 v156 v157 v158 v159 v160 v161 v162 v163 v164 v165 v166 v167 v168 v169 v170 v171 v172 v173 v174 v175 v176 v177 v178 v179 v180 v181 v182 v183 v184 v185 v186 v187 v188 v189 v190 v191 v192 v193 v194 v195 v196 v197 v198 v199 v200 v201 v202 v203 v204 v205 v206 v207 v208 v209 v210 v211 v212 v213 v214 v215 v216 v217 v218 v219 v220 v221 v222 v223 v224 v225 v226 v227 v228 v229 v230 v231 v232 v233 v234 v235 v236 v237 v238 v239 v240 v241 v242 v243 v244 v245 v246 v247 v248 v249 v250 v251 v252 v253 v254 v255 v256 v257 v258 v259 v260 v261 v262 v263 v264 v265 v266 v267 v268 v269 v270 v271 v272 v273 v274 v275 v276 v277 v278 v279 v280 v281 v282 v283 v284 v285 v286 v287 v288 v289 v290 v291 v292 v293 v294 v295 v296 v297 v298 v299 v300 v301 v302 v303 v304 v305 v306 v307 v308 v309 v310 v311 v312 v313 v314 v315 v316 v317 v318 v319 v320 v321 v322 v323 v324 v325 v326 v327 v328 v329 v330 v331 v332 v333 v334 v335 v336 v337 v338 v339 v340 v341 v342 v343 v344 v345 v346 v347 v348 v349 v350 v351 v352 v353 v354 v355 v356 v357 v358 v359 v360 v361 v362 v363 v364 v365 v366 v367 v368 v369 v370 v371 v372 v373 v374 v375 v376 v377 v378 v379 v380 : Value) (dl : List Deferred) :
    (Code.region 58 #[{ dst := some 273, op := Op.move (Operand.tmp 6), type := 29, pos := "law.go:136", after := #[], guard := none }, { dst := some 274, op := Op.fieldAddr 41 (Operand.tmp 14) 5, type := 0, pos := "law.go:136", after := #[], guard := none }, { dst := some 275, op := Op.load 22 (Operand.tmp 274), type := 22, pos := "law.go:136", after := #[{ on := 1, ground := Ground.data }], guard := none }, { dst := some 276, op := Op.call { callee := Callee.builtin Builtin.append, args := #[Operand.const (Value.slice none 0 0), Operand.tmp 275], argTypes := #[22, 22] }, type := 22, pos := "law.go:136", after := #[{ on := 2, ground := Ground.data }], guard := none }, { dst := some 277, op := Op.call { callee := Callee.value (Operand.func 31), args := #[Operand.tmp 273, Operand.tmp 276], argTypes := #[29, 22] }, type := 30, pos := "law.go:136", after := #[{ on := 0, ground := Ground.data }, { on := 3, ground := Ground.data }, { on := 3, ground := Ground.chain }], guard := none }, { dst := some 278, op := Op.move (Operand.tmp 9), type := 34, pos := "law.go:136", after := #[], guard := none }, { dst := some 279, op := Op.fieldAddr 41 (Operand.tmp 14) 5, type := 0, pos := "law.go:136", after := #[], guard := none }, { dst := some 280, op := Op.load 22 (Operand.tmp 279), type := 22, pos := "law.go:136", after := #[{ on := 6, ground := Ground.data }], guard := none }, { dst := some 281, op := Op.call { callee := Callee.value (Operand.func 32), args := #[Operand.tmp 278, Operand.tmp 280], argTypes := #[34, 22] }, type := 3, pos := "law.go:136", after := #[{ on := 5, ground := Ground.data }, { on := 7, ground := Ground.data }, { on := 4, ground := Ground.chain }], guard := none }, { dst := some 15, op := Op.assign (Operand.tmp 277), type := 3, pos := "law.go:136", after := #[{ on := 4, ground := Ground.data }, { on := 8, ground := Ground.chain }, { on := 0, ground := Ground.phase }, { on := 1, ground := Ground.phase }, { on := 2, ground := Ground.phase }, { on := 3, ground := Ground.phase }, { on := 4, ground := Ground.phase }, { on := 5, ground := Ground.textOnly Departure.lateStores }, { on := 6, ground := Ground.textOnly Departure.lateStores }, { on := 7, ground := Ground.textOnly Departure.lateStores }, { on := 8, ground := Ground.textOnly Departure.lateStoresUnsure }], guard := none }, { dst := some 16, op := Op.assign (Operand.tmp 281), type := 3, pos := "law.go:136", after := #[{ on := 8, ground := Ground.data }, { on := 9, ground := Ground.chain }, { on := 0, ground := Ground.phase }, { on := 1, ground := Ground.phase }, { on := 2, ground := Ground.phase }, { on := 3, ground := Ground.phase }, { on := 4, ground := Ground.phase }, { on := 5, ground := Ground.phase }, { on := 6, ground := Ground.phase }, { on := 7, ground := Ground.phase }, { on := 8, ground := Ground.phase }, { on := 9, ground := Ground.phase }], guard := none }] true).wp Try.prog (fun e a' w' => e = .normal ∧ ∃ (u273 u274 u275 u276 u277 u278 u279 u280 u281 : Value), a' = { tmps := #[v0, v1, v2, v3, v4, v5, .pointer (some ⟨b, 0, none⟩), v7, v8, .pointer (some ⟨rb, 0, none⟩), v10, v11, v12, v13, .pointer (some ⟨zx, 0, none⟩), .int .i64 (fedA L fs st l).c, .int .i64 (fedA L fs st l).c, v17, v18, v19, v20, v21, v22, v23, v24, v25, v26, v27, v28, v29, v30, v31, v32, v33, v34, v35, v36, v37, v38, v39, v40, v41, v42, v43, v44, v45, v46, v47, v48, v49, v50, v51, v52, v53, v54, v55, v56, v57, v58, v59, v60, v61, v62, v63, v64, v65, v66, v67, v68, v69, v70, v71, v72, v73, v74, v75, v76, v77, v78, v79, v80, v81, v82, v83, v84, v85, v86, v87, v88, v89, v90, v91, v92, v93, v94, v95, v96, v97, v98, v99, v100, v101, v102, v103, v104, v105, v106, v107, v108, v109, v110, v111, v112, v113, v114, v115, v116, v117, v118, v119, v120, v121, v122, v123, v124, v125, v126, v127, v128, v129, v130, v131, v132, v133, v134, v135, v136, v137, v138, v139, v140, v141, v142, v143, v144, v145, v146, v147, v148, v149, v150, v151, v152, v153, v154, v155, v156, v157, v158, v159, v160, v161, v162, v163, v164, v165, v166, v167, v168, v169, v170, v171, v172, v173, v174, v175, v176, v177, v178, v179, v180, v181, v182, v183, v184, v185, v186, v187, v188, v189, v190, v191, v192, v193, v194, v195, v196, v197, v198, v199, v200, v201, v202, v203, v204, v205, v206, v207, v208, v209, v210, v211, v212, v213, v214, v215, v216, v217, v218, v219, v220, v221, v222, v223, v224, v225, v226, v227, v228, v229, v230, v231, v232, v233, v234, v235, v236, v237, v238, v239, v240, v241, v242, v243, v244, v245, v246, v247, v248, v249, v250, v251, v252, v253, v254, v255, v256, v257, v258, v259, v260, v261, v262, v263, v264, v265, v266, v267, v268, v269, v270, v271, v272, u273, u274, u275, u276, u277, u278, u279, u280, u281, v282, v283, v284, v285, v286, v287, v288, v289, v290, v291, v292, v293, v294, v295, v296, v297, v298, v299, v300, v301, v302, v303, v304, v305, v306, v307, v308, v309, v310, v311, v312, v313, v314, v315, v316, v317, v318, v319, v320, v321, v322, v323, v324, v325, v326, v327, v328, v329, v330, v331, v332, v333, v334, v335, v336, v337, v338, v339, v340, v341, v342, v343, v344, v345, v346, v347, v348, v349, v350, v351, v352, v353, v354, v355, v356, v357, v358, v359, v360, v361, v362, v363, v364, v365, v366, v367, v368, v369, v370, v371, v372, v373, v374, v375, v376, v377, v378, v379, v380], defers := dl } ∧ Po W w' M b rb (fedA L fs st l) i) { tmps := #[v0, v1, v2, v3, v4, v5, .pointer (some ⟨b, 0, none⟩), v7, v8, .pointer (some ⟨rb, 0, none⟩), v10, v11, v12, v13, .pointer (some ⟨zx, 0, none⟩), v15, v16, v17, v18, v19, v20, v21, v22, v23, v24, v25, v26, v27, v28, v29, v30, v31, v32, v33, v34, v35, v36, v37, v38, v39, v40, v41, v42, v43, v44, v45, v46, v47, v48, v49, v50, v51, v52, v53, v54, v55, v56, v57, v58, v59, v60, v61, v62, v63, v64, v65, v66, v67, v68, v69, v70, v71, v72, v73, v74, v75, v76, v77, v78, v79, v80, v81, v82, v83, v84, v85, v86, v87, v88, v89, v90, v91, v92, v93, v94, v95, v96, v97, v98, v99, v100, v101, v102, v103, v104, v105, v106, v107, v108, v109, v110, v111, v112, v113, v114, v115, v116, v117, v118, v119, v120, v121, v122, v123, v124, v125, v126, v127, v128, v129, v130, v131, v132, v133, v134, v135, v136, v137, v138, v139, v140, v141, v142, v143, v144, v145, v146, v147, v148, v149, v150, v151, v152, v153, v154, v155, v156, v157, v158, v159, v160, v161, v162, v163, v164, v165, v166, v167, v168, v169, v170, v171, v172, v173, v174, v175, v176, v177, v178, v179, v180, v181, v182, v183, v184, v185, v186, v187, v188, v189, v190, v191, v192, v193, v194, v195, v196, v197, v198, v199, v200, v201, v202, v203, v204, v205, v206, v207, v208, v209, v210, v211, v212, v213, v214, v215, v216, v217, v218, v219, v220, v221, v222, v223, v224, v225, v226, v227, v228, v229, v230, v231, v232, v233, v234, v235, v236, v237, v238, v239, v240, v241, v242, v243, v244, v245, v246, v247, v248, v249, v250, v251, v252, v253, v254, v255, v256, v257, v258, v259, v260, v261, v262, v263, v264, v265, v266, v267, v268, v269, v270, v271, v272, v273, v274, v275, v276, v277, v278, v279, v280, v281, v282, v283, v284, v285, v286, v287, v288, v289, v290, v291, v292, v293, v294, v295, v296, v297, v298, v299, v300, v301, v302, v303, v304, v305, v306, v307, v308, v309, v310, v311, v312, v313, v314, v315, v316, v317, v318, v319, v320, v321, v322, v323, v324, v325, v326, v327, v328, v329, v330, v331, v332, v333, v334, v335, v336, v337, v338, v339, v340, v341, v342, v343, v344, v345, v346, v347, v348, v349, v350, v351, v352, v353, v354, v355, v356, v357, v358, v359, v360, v361, v362, v363, v364, v365, v366, v367, v368, v369, v370, v371, v372, v373, v374, v375, v376, v377, v378, v379, v380], defers := dl } W := by
  have hgd := grown_drew W none
  have hPd := hP.grown hgd
  have hRd := hR.grown hgd
  have hlw := hP.lw
  have hfl := hlw.fsl
  have c5d : W.drew.cell? ⟨zx, 5, none⟩ = _ := hgd.cell c5 (by simp)
  have hYd := hY.grown hgd
  have kP : ∀ V, Pv V T b L fs st i → ∀ o c, Fx V o yn c l → yn ≤ c → Calls Try.prog 31 #[.pointer (some ⟨b, 0, none⟩), .slice o yn c] V (PA V T b i (fedA L fs st l)) := fun V h o c hf hc => fed_P h (by omega) hf hc hyn
  have kR : ∀ V, Rv V U rb L fs st → Fx V yo yn yc l → Calls Try.prog 32 #[.pointer (some ⟨rb, 0, none⟩), .slice yo yn yc] V (RA' V U rb (fedA L fs st l)) := fun V h hf => fed_R h hf hyn (by omega)
  have hga : Gd (fedA L fs st l).L := hgL
  generalize fedA L fs st l = A at *
  refine wp_region_held_drew (S := fun w' : World => w'.cell? ⟨zx, 5, none⟩ = some (.slice yo yn yc)) (by kernel_rfl) c5d (fun hHeld => ?_)
  refine wpAnyH_take (i := 0) (oi := { dst := some 273, op := Op.move (Operand.tmp 6), type := 29, pos := "law.go:136", after := #[], guard := none }) (v := ?_) rfl (by kernel_rfl) (by kernel_rfl) (by kernel_rfl) (fun _ _ _ h => nomatch h.1) (Or.inl ⟨by rfl, ?_⟩) (by assumption) ?_
  rotate_left
  · intro w hSw; (try dsimp only at hSw); go_simp
    try with_reducible rfl
  try simp only [Act.put, List.setIfInBounds_toArray, List.set_cons_zero, List.set_cons_succ]
  refine wpAnyH_take (i := 1) (oi := { dst := some 274, op := Op.fieldAddr 41 (Operand.tmp 14) 5, type := 0, pos := "law.go:136", after := #[], guard := none }) (v := ?_) rfl (by kernel_rfl) (by kernel_rfl) (by kernel_rfl) (fun _ _ _ h => nomatch h.1) (Or.inl ⟨by rfl, ?_⟩) (by assumption) ?_
  rotate_left
  · intro w hSw; (try dsimp only at hSw); go_simp
    try with_reducible rfl
  try simp only [Act.put, List.setIfInBounds_toArray, List.set_cons_zero, List.set_cons_succ]
  refine wpAnyH_take (i := 2) (oi := { dst := some 275, op := Op.load 22 (Operand.tmp 274), type := 22, pos := "law.go:136", after := #[{ on := 1, ground := Ground.data }], guard := none }) (v := ?_) rfl (by kernel_rfl) (by kernel_rfl) (by kernel_rfl) (fun _ _ _ h => nomatch h.1) (Or.inl ⟨by rfl, ?_⟩) (by assumption) ?_
  rotate_left
  · intro w hSw; (try dsimp only at hSw); go_simp
    try with_reducible rfl
  try simp only [Act.put, List.setIfInBounds_toArray, List.set_cons_zero, List.set_cons_succ]
  refine wpAnyH_take (i := 5) (oi := { dst := some 278, op := Op.move (Operand.tmp 9), type := 34, pos := "law.go:136", after := #[], guard := none }) (v := ?_) rfl (by kernel_rfl) (by kernel_rfl) (by kernel_rfl) (fun _ _ _ h => nomatch h.1) (Or.inl ⟨by rfl, ?_⟩) (by assumption) ?_
  rotate_left
  · intro w hSw; (try dsimp only at hSw); go_simp
    try with_reducible rfl
  try simp only [Act.put, List.setIfInBounds_toArray, List.set_cons_zero, List.set_cons_succ]
  refine wpAnyH_take (i := 6) (oi := { dst := some 279, op := Op.fieldAddr 41 (Operand.tmp 14) 5, type := 0, pos := "law.go:136", after := #[], guard := none }) (v := ?_) rfl (by kernel_rfl) (by kernel_rfl) (by kernel_rfl) (fun _ _ _ h => nomatch h.1) (Or.inl ⟨by rfl, ?_⟩) (by assumption) ?_
  rotate_left
  · intro w hSw; (try dsimp only at hSw); go_simp
    try with_reducible rfl
  try simp only [Act.put, List.setIfInBounds_toArray, List.set_cons_zero, List.set_cons_succ]
  refine wpAnyH_take (i := 7) (oi := { dst := some 280, op := Op.load 22 (Operand.tmp 279), type := 22, pos := "law.go:136", after := #[{ on := 6, ground := Ground.data }], guard := none }) (v := ?_) rfl (by kernel_rfl) (by kernel_rfl) (by kernel_rfl) (fun _ _ _ h => nomatch h.1) (Or.inl ⟨by rfl, ?_⟩) (by assumption) ?_
  rotate_left
  · intro w hSw; (try dsimp only at hSw); go_simp
    try with_reducible rfl
  try simp only [Act.put, List.setIfInBounds_toArray, List.set_cons_zero, List.set_cons_succ]
  refine wpAnyH_ready (rs := [3]) (by kernel_rfl) (by simp) ?_
  refine AllReadyH.cons (o := { dst := some 276, op := Op.call { callee := Callee.builtin Builtin.append, args := #[Operand.const (Value.slice none 0 0), Operand.tmp 275], argTypes := #[22, 22] }, type := 22, pos := "law.go:136", after := #[{ on := 2, ground := Ground.data }], guard := none }) rfl (fun K hK => ?_) (AllReadyH.nil)
  refine step_append_fx rfl rfl (.const (.slice none 0 0)) (.tmp 275) rfl rfl rfl hYd (by omega) ?_
  intro ro rc w1 hF1 hg1
  refine hK.out _ _ (hg1.cell c5d (by simp)) (fun hHeld => ?_)
  clear hK K
  try simp only [Act.put, List.setIfInBounds_toArray, List.set_cons_zero, List.set_cons_succ]
  have hG1 := grown_trans hgd hg1 (by simp)
  have hP1 := hPd.grown hg1
  have hR1 := hRd.grown hg1
  have hY1 := hYd.grown hg1
  have c51 := hg1.cell c5d (by simp)
  refine wpAnyH_ready (rs := [4]) (by kernel_rfl) (by simp) ?_
  refine AllReadyH.cons (o := { dst := some 277, op := Op.call { callee := Callee.value (Operand.func 31), args := #[Operand.tmp 273, Operand.tmp 276], argTypes := #[29, 22] }, type := 30, pos := "law.go:136", after := #[{ on := 0, ground := Ground.data }, { on := 3, ground := Ground.data }, { on := 3, ground := Ground.chain }], guard := none }) rfl (fun K hK => ?_) (AllReadyH.nil)
  go_simp
  go_at_call 31
  refine (kP _ hP1 _ _ hF1.fx hF1.room).mono ?_
  rintro e w2 ⟨rfl, hn2⟩
  have hR2 := hR1.chg hn2.2 (fun k hu ht => hd k ht hu)
  have hY2 := hY1.chg hn2.2 hyT
  have c52 : w2.cell? ⟨zx, 5, none⟩ = _ := hn2.2.cell c51 (fun e => hzx _ (.inl e) rfl)
  try go_simp
  refine hK.out _ _ c52 (fun hHeld => ?_)
  clear hK K
  try simp only [Act.put, List.setIfInBounds_toArray, List.set_cons_zero, List.set_cons_succ]
  refine wpAnyH_ready (rs := [8]) (by kernel_rfl) (by simp) ?_
  refine AllReadyH.cons (o := { dst := some 281, op := Op.call { callee := Callee.value (Operand.func 32), args := #[Operand.tmp 278, Operand.tmp 280], argTypes := #[34, 22] }, type := 3, pos := "law.go:136", after := #[{ on := 5, ground := Ground.data }, { on := 7, ground := Ground.data }, { on := 4, ground := Ground.chain }], guard := none }) rfl (fun K hK => ?_) (AllReadyH.nil)
  go_simp
  go_at_call 32
  refine (kR _ hR2 hY2).mono ?_
  rintro e w3 ⟨rfl, hn3⟩
  try go_simp
  refine hK.out _ _ (hn3.2.cell c52 (fun e => hzx _ (.inr e) rfl)) (fun hHeld => ?_)
  clear hK K
  try simp only [Act.put, List.setIfInBounds_toArray, List.set_cons_zero, List.set_cons_succ]
  refine wpAnyH_take (i := 9) (oi := { dst := some 15, op := Op.assign (Operand.tmp 277), type := 3, pos := "law.go:136", after := #[{ on := 4, ground := Ground.data }, { on := 8, ground := Ground.chain }, { on := 0, ground := Ground.phase }, { on := 1, ground := Ground.phase }, { on := 2, ground := Ground.phase }, { on := 3, ground := Ground.phase }, { on := 4, ground := Ground.phase }, { on := 5, ground := Ground.textOnly Departure.lateStores }, { on := 6, ground := Ground.textOnly Departure.lateStores }, { on := 7, ground := Ground.textOnly Departure.lateStores }, { on := 8, ground := Ground.textOnly Departure.lateStoresUnsure }], guard := none }) (v := ?_) rfl (by kernel_rfl) (by kernel_rfl) (by kernel_rfl) (fun _ _ _ h => nomatch h.1) (Or.inl ⟨by rfl, ?_⟩) (by assumption) ?_
  rotate_left
  · intro w hSw; (try dsimp only at hSw); go_simp
    try with_reducible rfl
  try simp only [Act.put, List.setIfInBounds_toArray, List.set_cons_zero, List.set_cons_succ]
  refine wpAnyH_take (i := 10) (oi := { dst := some 16, op := Op.assign (Operand.tmp 281), type := 3, pos := "law.go:136", after := #[{ on := 8, ground := Ground.data }, { on := 9, ground := Ground.chain }, { on := 0, ground := Ground.phase }, { on := 1, ground := Ground.phase }, { on := 2, ground := Ground.phase }, { on := 3, ground := Ground.phase }, { on := 4, ground := Ground.phase }, { on := 5, ground := Ground.phase }, { on := 6, ground := Ground.phase }, { on := 7, ground := Ground.phase }, { on := 8, ground := Ground.phase }, { on := 9, ground := Ground.phase }], guard := none }) (v := ?_) rfl (by kernel_rfl) (by kernel_rfl) (by kernel_rfl) (fun _ _ _ h => nomatch h.1) (Or.inl ⟨by rfl, ?_⟩) (by assumption) ?_
  rotate_left
  · intro w hSw; (try dsimp only at hSw); go_simp
    try with_reducible rfl
  try simp only [Act.put, List.setIfInBounds_toArray, List.set_cons_zero, List.set_cons_succ]
  refine wpAnyH_done (by kernel_rfl) ?_ _
  exact ⟨rfl, _, _, _, _, _, _, _, _, _, rfl, Po.up hG1 (two_pr hP1 hR1 hd hM hga hn2 hn3)⟩

set_option maxRecDepth 100000 in
set_option maxHeartbeats 4000000 in
theorem reg25P (W : World) (zx : Nat) (yo : Option Addr) (yn yc : Nat) (x : List UInt8) (c4 : W.cell? ⟨zx, 4, none⟩ = some (.slice yo yn yc)) (hY : Bs W yo yn yc x) (hyn : yn ≤ 3000) (v0 v1 v2 v3 v4 v5 v6 v7 v8 v9 v10 v11 v12 v13 v15 v16 v17 v18 v19 v20 v21 v22 v23 v24 v25 v26 v27 v28 v29 v30 v31 v32 v33 v34 v35 v36 v37 v38 v39 v40 v41 v42 v43 v44 v45 v46 v47 v48 v49 v50 v51 v52 v53 v54 v55 v56 v57 v58 v59 v60 v61 v62 v63 v64 v65 v66 v67 v68 v69 v70 v71 v72 v73 v74 v75 v76 v77 v78 v79 v80 v81 v82 v83 v84 v85 v86 v87 v88 v89 v90 v91 v92 v93 v94 v95 v96 v97 v98 v99 v100 v101 v102 v103 v104 v105 v106 v107 v108 v109 v110 v111 v112 v113 v114 v115 v116 v117 v118 v119 v120 v121 v122 v123 v124 v125 v126 v127 v128 v129 v130 v131 v132 v133 v134 v135 v136 v137 v138 v139 v140 v141 v142 v143 v144 v145 v146 v147 v148 v149 v150 v151 v152 v153 v154 v155 v156 v157 v158 v159 v160 v161 v162 v163 v164 v165 v166 v167 v168 v169 v170 v171 v172 v173 v174 v175 v176 v177 v178 v179 v180 v181 v182 v183 v184 v185 v186 v187 v188 v189 v190 v191 v192 v193 v194 v195 v196 v197 v198 v199 v200 v201 v202 v203 v204 v205 v206 v207 v208 v209 v210 v211 v212 v213 v214 v215 v216 v217 v218 v219 v220 v221 v222 v223 v224 v225 v226 v227 v228 v229 v230 v231 v232 v233 v234 v235 v236 v237 v238 v239 v240 v241 v242 v243 v244 v245 v246 v247 v248 v249 v250 v251 v252 v253 v254 v255 v256 v257 v258 v259 v260 v261 v262 v263 v264 v265 v266 v267 v268 v269 v270 v271 v272 v273 v274 v275 v276 v277 v278 v279 v280 v281 v282 v283 v284 v285 v286 v287 v288 v289 v290 v291 v292 v293 v294 v295 v296 v297 v298 v299 v300 v301 v302 v303 v304 v305 v306 v307 v308 v309 v310 v311 v312 v313 v314 v315 v316 v317 v318 v319 v320 v321 v322 v323 v324 v325 v326 v327 v328 v329 v330 v331 v332 v333 v334 v335 v336 v337 v338 v339 v340 v341 v342 v343 v344 v345 v346 v347 v348 v349 v350 v351 v352 v353 v354 v355 v356 v357 v358 v359 v360 v361 v362 v363 v364 v365 v366 v367 v368 v369 v370 v371 v372 v373 v374 v375 v376 v377 v378 v379 v380 : Value) (dl : List Deferred) :
    (Code.region 25 #[{ dst := some 117, op := Op.fieldAddr 41 (Operand.tmp 14) 4, type := 0, pos := "law.go:102", after := #[], guard := none }, { dst := some 118, op := Op.load 38 (Operand.tmp 117), type := 38, pos := "law.go:102", after := #[{ on := 0, ground := Ground.data }], guard := none }, { dst := some 119, op := Op.call { callee := Callee.builtin Builtin.append, args := #[Operand.const (Value.slice none 0 0), Operand.tmp 118], argTypes := #[38, 38] }, type := 38, pos := "law.go:102", after := #[{ on := 1, ground := Ground.data }], guard := none }, { dst := some 120, op := Op.buildSlice 38 1 #[(0, Operand.const (Value.int IntKind.u8 77))], type := 38, pos := "law.go:102", after := #[], guard := none }, { dst := some 121, op := Op.call { callee := Callee.builtin Builtin.append, args := #[Operand.tmp 119, Operand.tmp 120], argTypes := #[38, 38] }, type := 38, pos := "law.go:102", after := #[{ on := 2, ground := Ground.data }, { on := 3, ground := Ground.data }, { on := 2, ground := Ground.chain }], guard := none }, { dst := some 122, op := Op.fieldAddr 41 (Operand.tmp 14) 4, type := 0, pos := "law.go:102", after := #[], guard := none }, { dst := some 123, op := Op.load 38 (Operand.tmp 122), type := 38, pos := "law.go:102", after := #[{ on := 5, ground := Ground.data }], guard := none }, { dst := some 124, op := Op.call { callee := Callee.builtin Builtin.len, args := #[Operand.tmp 123], argTypes := #[38] }, type := 3, pos := "law.go:102", after := #[{ on := 6, ground := Ground.data }], guard := none }, { dst := some 125, op := Op.slice 38 (Operand.tmp 121) none (some (Operand.tmp 124)) none, type := 38, pos := "law.go:102", after := #[{ on := 4, ground := Ground.data }, { on := 7, ground := Ground.data }], guard := none }, { dst := some 17, op := Op.assign (Operand.tmp 125), type := 38, pos := "law.go:102", after := #[{ on := 8, ground := Ground.data }, { on := 4, ground := Ground.chain }, { on := 0, ground := Ground.phase }, { on := 1, ground := Ground.phase }, { on := 2, ground := Ground.phase }, { on := 3, ground := Ground.phase }, { on := 4, ground := Ground.phase }, { on := 5, ground := Ground.phase }, { on := 6, ground := Ground.phase }, { on := 7, ground := Ground.phase }, { on := 8, ground := Ground.phase }], guard := none }] true).wp Try.prog (fun e a' w' => e = .normal ∧ ∃ (zg zc : Nat) (u117 u118 u119 u120 u121 u122 u123 u124 u125 : Value), a' = { tmps := #[v0, v1, v2, v3, v4, v5, v6, v7, v8, v9, v10, v11, v12, v13, .pointer (some ⟨zx, 0, none⟩), v15, v16, .slice (some ⟨zg, 0, none⟩) yn zc, v18, v19, v20, v21, v22, v23, v24, v25, v26, v27, v28, v29, v30, v31, v32, v33, v34, v35, v36, v37, v38, v39, v40, v41, v42, v43, v44, v45, v46, v47, v48, v49, v50, v51, v52, v53, v54, v55, v56, v57, v58, v59, v60, v61, v62, v63, v64, v65, v66, v67, v68, v69, v70, v71, v72, v73, v74, v75, v76, v77, v78, v79, v80, v81, v82, v83, v84, v85, v86, v87, v88, v89, v90, v91, v92, v93, v94, v95, v96, v97, v98, v99, v100, v101, v102, v103, v104, v105, v106, v107, v108, v109, v110, v111, v112, v113, v114, v115, v116, u117, u118, u119, u120, u121, u122, u123, u124, u125, v126, v127, v128, v129, v130, v131, v132, v133, v134, v135, v136, v137, v138, v139, v140, v141, v142, v143, v144, v145, v146, v147, v148, v149, v150, v151, v152, v153, v154, v155, v156, v157, v158, v159, v160, v161, v162, v163, v164, v165, v166, v167, v168, v169, v170, v171, v172, v173, v174, v175, v176, v177, v178, v179, v180, v181, v182, v183, v184, v185, v186, v187, v188, v189, v190, v191, v192, v193, v194, v195, v196, v197, v198, v199, v200, v201, v202, v203, v204, v205, v206, v207, v208, v209, v210, v211, v212, v213, v214, v215, v216, v217, v218, v219, v220, v221, v222, v223, v224, v225, v226, v227, v228, v229, v230, v231, v232, v233, v234, v235, v236, v237, v238, v239, v240, v241, v242, v243, v244, v245, v246, v247, v248, v249, v250, v251, v252, v253, v254, v255, v256, v257, v258, v259, v260, v261, v262, v263, v264, v265, v266, v267, v268, v269, v270, v271, v272, v273, v274, v275, v276, v277, v278, v279, v280, v281, v282, v283, v284, v285, v286, v287, v288, v289, v290, v291, v292, v293, v294, v295, v296, v297, v298, v299, v300, v301, v302, v303, v304, v305, v306, v307, v308, v309, v310, v311, v312, v313, v314, v315, v316, v317, v318, v319, v320, v321, v322, v323, v324, v325, v326, v327, v328, v329, v330, v331, v332, v333, v334, v335, v336, v337, v338, v339, v340, v341, v342, v343, v344, v345, v346, v347, v348, v349, v350, v351, v352, v353, v354, v355, v356, v357, v358, v359, v360, v361, v362, v363, v364, v365, v366, v367, v368, v369, v370, v371, v372, v373, v374, v375, v376, v377, v378, v379, v380], defers := dl } ∧ Ow w' W.heap.size 5 (some ⟨zg, 0, none⟩) (yn + 1) zc (x ++ [77]) ∧ W.grownBy w' none) { tmps := #[v0, v1, v2, v3, v4, v5, v6, v7, v8, v9, v10, v11, v12, v13, .pointer (some ⟨zx, 0, none⟩), v15, v16, v17, v18, v19, v20, v21, v22, v23, v24, v25, v26, v27, v28, v29, v30, v31, v32, v33, v34, v35, v36, v37, v38, v39, v40, v41, v42, v43, v44, v45, v46, v47, v48, v49, v50, v51, v52, v53, v54, v55, v56, v57, v58, v59, v60, v61, v62, v63, v64, v65, v66, v67, v68, v69, v70, v71, v72, v73, v74, v75, v76, v77, v78, v79, v80, v81, v82, v83, v84, v85, v86, v87, v88, v89, v90, v91, v92, v93, v94, v95, v96, v97, v98, v99, v100, v101, v102, v103, v104, v105, v106, v107, v108, v109, v110, v111, v112, v113, v114, v115, v116, v117, v118, v119, v120, v121, v122, v123, v124, v125, v126, v127, v128, v129, v130, v131, v132, v133, v134, v135, v136, v137, v138, v139, v140, v141, v142, v143, v144, v145, v146, v147, v148, v149, v150, v151, v152, v153, v154, v155, v156, v157, v158, v159, v160, v161, v162, v163, v164, v165, v166, v167, v168, v169, v170, v171, v172, v173, v174, v175, v176, v177, v178, v179, v180, v181, v182, v183, v184, v185, v186, v187, v188, v189, v190, v191, v192, v193, v194, v195, v196, v197, v198, v199, v200, v201, v202, v203, v204, v205, v206, v207, v208, v209, v210, v211, v212, v213, v214, v215, v216, v217, v218, v219, v220, v221, v222, v223, v224, v225, v226, v227, v228, v229, v230, v231, v232, v233, v234, v235, v236, v237, v238, v239, v240, v241, v242, v243, v244, v245, v246, v247, v248, v249, v250, v251, v252, v253, v254, v255, v256, v257, v258, v259, v260, v261, v262, v263, v264, v265, v266, v267, v268, v269, v270, v271, v272, v273, v274, v275, v276, v277, v278, v279, v280, v281, v282, v283, v284, v285, v286, v287, v288, v289, v290, v291, v292, v293, v294, v295, v296, v297, v298, v299, v300, v301, v302, v303, v304, v305, v306, v307, v308, v309, v310, v311, v312, v313, v314, v315, v316, v317, v318, v319, v320, v321, v322, v323, v324, v325, v326, v327, v328, v329, v330, v331, v332, v333, v334, v335, v336, v337, v338, v339, v340, v341, v342, v343, v344, v345, v346, v347, v348, v349, v350, v351, v352, v353, v354, v355, v356, v357, v358, v359, v360, v361, v362, v363, v364, v365, v366, v367, v368, v369, v370, v371, v372, v373, v374, v375, v376, v377, v378, v379, v380], defers := dl } W := by
  have hgd := grown_drew W none
  have c4d : W.drew.cell? ⟨zx, 4, none⟩ = _ := hgd.cell c4 (by simp)
  have hYd := hY.grown hgd
  have hlen := hY.len
  refine wp_region_held_drew (S := fun w' : World => w'.cell? ⟨zx, 4, none⟩ = some (.slice yo yn yc)) (by kernel_rfl) c4d (fun hHeld => ?_)
  refine wpAnyH_take (i := 0) (oi := { dst := some 117, op := Op.fieldAddr 41 (Operand.tmp 14) 4, type := 0, pos := "law.go:102", after := #[], guard := none }) (v := ?_) rfl (by kernel_rfl) (by kernel_rfl) (by kernel_rfl) (fun _ _ _ h => nomatch h.1) (Or.inl ⟨by rfl, ?_⟩) (by assumption) ?_
  rotate_left
  · intro w hSw; (try dsimp only at hSw); go_simp
    try with_reducible rfl
  try simp only [Act.put, List.setIfInBounds_toArray, List.set_cons_zero, List.set_cons_succ]
  refine wpAnyH_take (i := 1) (oi := { dst := some 118, op := Op.load 38 (Operand.tmp 117), type := 38, pos := "law.go:102", after := #[{ on := 0, ground := Ground.data }], guard := none }) (v := ?_) rfl (by kernel_rfl) (by kernel_rfl) (by kernel_rfl) (fun _ _ _ h => nomatch h.1) (Or.inl ⟨by rfl, ?_⟩) (by assumption) ?_
  rotate_left
  · intro w hSw; (try dsimp only at hSw); go_simp
    try with_reducible rfl
  try simp only [Act.put, List.setIfInBounds_toArray, List.set_cons_zero, List.set_cons_succ]
  refine wpAnyH_take (i := 5) (oi := { dst := some 122, op := Op.fieldAddr 41 (Operand.tmp 14) 4, type := 0, pos := "law.go:102", after := #[], guard := none }) (v := ?_) rfl (by kernel_rfl) (by kernel_rfl) (by kernel_rfl) (fun _ _ _ h => nomatch h.1) (Or.inl ⟨by rfl, ?_⟩) (by assumption) ?_
  rotate_left
  · intro w hSw; (try dsimp only at hSw); go_simp
    try with_reducible rfl
  try simp only [Act.put, List.setIfInBounds_toArray, List.set_cons_zero, List.set_cons_succ]
  refine wpAnyH_take (i := 6) (oi := { dst := some 123, op := Op.load 38 (Operand.tmp 122), type := 38, pos := "law.go:102", after := #[{ on := 5, ground := Ground.data }], guard := none }) (v := ?_) rfl (by kernel_rfl) (by kernel_rfl) (by kernel_rfl) (fun _ _ _ h => nomatch h.1) (Or.inl ⟨by rfl, ?_⟩) (by assumption) ?_
  rotate_left
  · intro w hSw; (try dsimp only at hSw); go_simp
    try with_reducible rfl
  try simp only [Act.put, List.setIfInBounds_toArray, List.set_cons_zero, List.set_cons_succ]
  refine wpAnyH_take (i := 7) (oi := { dst := some 124, op := Op.call { callee := Callee.builtin Builtin.len, args := #[Operand.tmp 123], argTypes := #[38] }, type := 3, pos := "law.go:102", after := #[{ on := 6, ground := Ground.data }], guard := none }) (v := ?_) rfl (by kernel_rfl) (by kernel_rfl) (by kernel_rfl) (fun _ _ _ h => nomatch h.1) (Or.inl ⟨by rfl, ?_⟩) (by assumption) ?_
  rotate_left
  · intro w hSw; (try dsimp only at hSw); go_simp
    try with_reducible rfl
  try simp only [Act.put, List.setIfInBounds_toArray, List.set_cons_zero, List.set_cons_succ]
  refine wpAnyH_ready (rs := [2, 3]) (by kernel_rfl) (by simp) ?_
  refine AllReadyH.cons (o := { dst := some 119, op := Op.call { callee := Callee.builtin Builtin.append, args := #[Operand.const (Value.slice none 0 0), Operand.tmp 118], argTypes := #[38, 38] }, type := 38, pos := "law.go:102", after := #[{ on := 1, ground := Ground.data }], guard := none }) rfl (fun K hK => ?_) (AllReadyH.cons (o := { dst := some 120, op := Op.buildSlice 38 1 #[(0, Operand.const (Value.int IntKind.u8 77))], type := 38, pos := "law.go:102", after := #[], guard := none }) rfl (fun K hK => ?_) (AllReadyH.nil))
  · skip
    refine step_append_bs rfl (.const (.slice none 0 0)) (.tmp 118) 38 rfl W.drew.heap.size 5 Try.underlying38 (by kernel_rfl) rfl (Ow.nil _ _ _) rfl hYd (by omega) (Nat.le_refl _) yn x (by omega) rfl ?_
    intro ro rc w1 hO1 hg1
    refine hK.out _ _ (hg1.cell c4d (by simp [blk])) (fun hHeld => ?_)
    clear hK K
    try simp only [Act.put, List.setIfInBounds_toArray, List.set_cons_zero, List.set_cons_succ]
    refine wpAnyH_ready (rs := [3]) (by kernel_rfl) (by simp) ?_
    refine AllReadyH.cons (o := { dst := some 120, op := Op.buildSlice 38 1 #[(0, Operand.const (Value.int IntKind.u8 77))], type := 38, pos := "law.go:102", after := #[], guard := none }) rfl (fun K hK => ?_) (AllReadyH.nil)
    go_simp
    have ga := alloc_grown w1 (.cells #[.int .u8 77] 5)
    have hB2 := Bs.one w1 (.int .u8 77) 77 5 rfl
    have hG2 := grown_trans (grown_trans hgd hg1 (by simp [blk])) ga (by simp)
    have hO2 : Ow _ W.heap.size 5 ro yn rc x := hO1.grown ga
    have hs2 : (w1.alloc (.cells #[.int .u8 77] 5)).heap.size = w1.heap.size + 1 := by simp
    have hro := fun q hq => (hO1.from_base q hq).1
    have hsz1 := hg1.size
    refine hK.out _ _ (hG2.cell c4 (by simp)) (fun hHeld => ?_)
    clear hK K
    try simp only [Act.put, List.setIfInBounds_toArray, List.set_cons_zero, List.set_cons_succ]
    have hG3' : ∀ w3, (w1.alloc (.cells #[.int .u8 77] 5)).grownBy w3 (blk ro) → w3.cell? ⟨zx, 4, none⟩ = some (.slice yo yn yc) := fun w3 h => h.cell (hG2.cell c4 (by simp)) (fun e => by have h8 := hro zx e.symm; have h9 := World.block_lt_of_cell? W _ c4; have : W.drew.heap.size = W.heap.size := rfl; simp only at h9; omega)
    have hGall : ∀ w3, (w1.alloc (.cells #[.int .u8 77] 5)).grownBy w3 (blk ro) → W.grownBy w3 none := fun w3 h => grown_trans hG2 h (fun k e => Or.inr (hro k e))
    refine wpAnyH_ready (rs := [4]) (by kernel_rfl) (by simp) ?_
    refine AllReadyH.cons (o := { dst := some 121, op := Op.call { callee := Callee.builtin Builtin.append, args := #[Operand.tmp 119, Operand.tmp 120], argTypes := #[38, 38] }, type := 38, pos := "law.go:102", after := #[{ on := 2, ground := Ground.data }, { on := 3, ground := Ground.data }, { on := 2, ground := Ground.chain }], guard := none }) rfl (fun K hK => ?_) (AllReadyH.nil)
    refine step_append_bs rfl (.tmp 119) (.tmp 120) 38 rfl W.heap.size 5 Try.underlying38 (by kernel_rfl) rfl hO2 rfl hB2 (by omega) (by have : W.drew.heap.size = W.heap.size := rfl; omega) (yn + 1) (x ++ [77]) rfl rfl ?_
    intro zo zc w3 hO3 hg3
    refine hK.out _ _ (hG3' _ hg3) (fun hHeld => ?_)
    clear hK K
    try simp only [Act.put, List.setIfInBounds_toArray, List.set_cons_zero, List.set_cons_succ]
    obtain ⟨zg, rfl, hzb, _⟩ := hO3.addr (by omega)
    have hrm := hO3.shows.room
    have s1 : (0 : Int) ≤ (yn : Int) := by omega
    have s2 : (yn : Int) ≤ (zc : Int) := by omega
    refine wpAnyH_take (i := 8) (oi := { dst := some 125, op := Op.slice 38 (Operand.tmp 121) none (some (Operand.tmp 124)) none, type := 38, pos := "law.go:102", after := #[{ on := 4, ground := Ground.data }, { on := 7, ground := Ground.data }], guard := none }) (v := ?_) rfl (by kernel_rfl) (by kernel_rfl) (by kernel_rfl) (fun _ _ _ h => nomatch h.1) (Or.inl ⟨by rfl, ?_⟩) (by assumption) ?_
    rotate_left
    · intro w hSw; (try dsimp only at hSw); go_simp
      try with_reducible rfl
    try simp only [Act.put, List.setIfInBounds_toArray, List.set_cons_zero, List.set_cons_succ]
    refine wpAnyH_take (i := 9) (oi := { dst := some 17, op := Op.assign (Operand.tmp 125), type := 38, pos := "law.go:102", after := #[{ on := 8, ground := Ground.data }, { on := 4, ground := Ground.chain }, { on := 0, ground := Ground.phase }, { on := 1, ground := Ground.phase }, { on := 2, ground := Ground.phase }, { on := 3, ground := Ground.phase }, { on := 4, ground := Ground.phase }, { on := 5, ground := Ground.phase }, { on := 6, ground := Ground.phase }, { on := 7, ground := Ground.phase }, { on := 8, ground := Ground.phase }], guard := none }) (v := ?_) rfl (by kernel_rfl) (by kernel_rfl) (by kernel_rfl) (fun _ _ _ h => nomatch h.1) (Or.inl ⟨by rfl, ?_⟩) (by assumption) ?_
    rotate_left
    · intro w hSw; (try dsimp only at hSw); go_simp
      try with_reducible rfl
    try simp only [Act.put, List.setIfInBounds_toArray, List.set_cons_zero, List.set_cons_succ]
    refine wpAnyH_done (by kernel_rfl) ?_ _
    exact ⟨rfl, zg, zc, _, _, _, _, _, _, _, _, _, rfl, hO3, hGall _ hg3⟩
  · skip
    go_simp
    have hG1 := grown_trans (alloc_grown W (.cells #[.int .u8 77] 5)) (grown_drew _ none) (by simp)
    have hB1 := (Bs.one W (.int .u8 77) 77 5 rfl).grown (grown_drew _ none)
    have hY1 := hY.grown hG1
    have hz8 : W.heap.size < (W.alloc (.cells #[.int .u8 77] 5)).drew.heap.size := by show W.heap.size < (W.alloc (.cells #[.int .u8 77] 5)).heap.size; simp
    generalize (W.alloc (.cells #[.int .u8 77] 5)).drew = w1 at *
    refine hK.out _ _ (hG1.cell c4 (by simp)) (fun hHeld => ?_)
    clear hK K
    try simp only [Act.put, List.setIfInBounds_toArray, List.set_cons_zero, List.set_cons_succ]
    refine wpAnyH_ready (rs := [2]) (by kernel_rfl) (by simp) ?_
    refine AllReadyH.cons (o := { dst := some 119, op := Op.call { callee := Callee.builtin Builtin.append, args := #[Operand.const (Value.slice none 0 0), Operand.tmp 118], argTypes := #[38, 38] }, type := 38, pos := "law.go:102", after := #[{ on := 1, ground := Ground.data }], guard := none }) rfl (fun K hK => ?_) (AllReadyH.nil)
    refine step_append_bs rfl (.const (.slice none 0 0)) (.tmp 118) 38 rfl w1.heap.size 5 Try.underlying38 (by kernel_rfl) rfl (Ow.nil _ _ _) rfl hY1 (by omega) (Nat.le_refl _) yn x (by omega) rfl ?_
    intro ro rc w2 hO2 hg2
    have hB2 := hB1.grown hg2
    have hG2 := grown_trans hG1 hg2 (by simp [blk])
    have hro := fun q hq => (hO2.from_base q hq).1
    have hsz1 := hG1.size
    have hsz2 := hG2.size
    refine hK.out _ _ (hG2.cell c4 (by simp)) (fun hHeld => ?_)
    clear hK K
    try simp only [Act.put, List.setIfInBounds_toArray, List.set_cons_zero, List.set_cons_succ]
    have hG3' : ∀ w3, w2.grownBy w3 (blk ro) → w3.cell? ⟨zx, 4, none⟩ = some (.slice yo yn yc) := fun w3 h => h.cell (hG2.cell c4 (by simp)) (fun e => by have h8 := hro zx e.symm; have h9 := World.block_lt_of_cell? W _ c4; simp only at h9; omega)
    have hGall : ∀ w3, w2.grownBy w3 (blk ro) → W.grownBy w3 none := fun w3 h => grown_trans hG2 h (fun k e => Or.inr (by have := hro k e; omega))
    refine wpAnyH_ready (rs := [4]) (by kernel_rfl) (by simp) ?_
    refine AllReadyH.cons (o := { dst := some 121, op := Op.call { callee := Callee.builtin Builtin.append, args := #[Operand.tmp 119, Operand.tmp 120], argTypes := #[38, 38] }, type := 38, pos := "law.go:102", after := #[{ on := 2, ground := Ground.data }, { on := 3, ground := Ground.data }, { on := 2, ground := Ground.chain }], guard := none }) rfl (fun K hK => ?_) (AllReadyH.nil)
    refine step_append_bs rfl (.tmp 119) (.tmp 120) 38 rfl W.heap.size 5 Try.underlying38 (by kernel_rfl) rfl (hO2.rebase hsz1) rfl hB2 (by omega) hsz2 (yn + 1) (x ++ [77]) rfl rfl ?_
    intro zo zc w3 hO3 hg3
    refine hK.out _ _ (hG3' _ hg3) (fun hHeld => ?_)
    clear hK K
    try simp only [Act.put, List.setIfInBounds_toArray, List.set_cons_zero, List.set_cons_succ]
    obtain ⟨zg, rfl, hzb, _⟩ := hO3.addr (by omega)
    have hrm := hO3.shows.room
    have s1 : (0 : Int) ≤ (yn : Int) := by omega
    have s2 : (yn : Int) ≤ (zc : Int) := by omega
    refine wpAnyH_take (i := 8) (oi := { dst := some 125, op := Op.slice 38 (Operand.tmp 121) none (some (Operand.tmp 124)) none, type := 38, pos := "law.go:102", after := #[{ on := 4, ground := Ground.data }, { on := 7, ground := Ground.data }], guard := none }) (v := ?_) rfl (by kernel_rfl) (by kernel_rfl) (by kernel_rfl) (fun _ _ _ h => nomatch h.1) (Or.inl ⟨by rfl, ?_⟩) (by assumption) ?_
    rotate_left
    · intro w hSw; (try dsimp only at hSw); go_simp
      try with_reducible rfl
    try simp only [Act.put, List.setIfInBounds_toArray, List.set_cons_zero, List.set_cons_succ]
    refine wpAnyH_take (i := 9) (oi := { dst := some 17, op := Op.assign (Operand.tmp 125), type := 38, pos := "law.go:102", after := #[{ on := 8, ground := Ground.data }, { on := 4, ground := Ground.chain }, { on := 0, ground := Ground.phase }, { on := 1, ground := Ground.phase }, { on := 2, ground := Ground.phase }, { on := 3, ground := Ground.phase }, { on := 4, ground := Ground.phase }, { on := 5, ground := Ground.phase }, { on := 6, ground := Ground.phase }, { on := 7, ground := Ground.phase }, { on := 8, ground := Ground.phase }], guard := none }) (v := ?_) rfl (by kernel_rfl) (by kernel_rfl) (by kernel_rfl) (fun _ _ _ h => nomatch h.1) (Or.inl ⟨by rfl, ?_⟩) (by assumption) ?_
    rotate_left
    · intro w hSw; (try dsimp only at hSw); go_simp
      try with_reducible rfl
    try simp only [Act.put, List.setIfInBounds_toArray, List.set_cons_zero, List.set_cons_succ]
    refine wpAnyH_done (by kernel_rfl) ?_ _
    exact ⟨rfl, zg, zc, _, _, _, _, _, _, _, _, _, rfl, hO3, hGall _ hg3⟩
end Go.Proofs.Ythkbakaodbceiaa
