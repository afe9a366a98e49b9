/-
  DiskPlay: what its walk wants.
-/
import Derived.Test.YthkbakaodbceiaaRI
import Derived.Test.YthkbakaodbceiaaG5
namespace Go.Proofs.Ythkbakaodbceiaa
open Go.RowKit Go.Maps Go.WideMaps
set_option linter.unusedVariables false

theorem wrap_u8 (v : UInt8) : IntKind.u8.wrap ((v.toNat : Int) + 1) = ((v + 1).toNat : Int) := by
  have h2 : (v + 1).toNat = (v.toNat + 1) % 256 := by simp [UInt8.toNat_add]
  rw [h2]
  simp [IntKind.wrap, IntKind.signed, IntKind.bits]
theorem Bs.lt0 {w : World} {ao : Option Addr} {n c : Nat} {l : List UInt8} (h : Bs w ao n c l) : ∀ a, ao = some a → n = 0 ∨ a.block < w.heap.size := fun a ha => by
  rcases Nat.eq_zero_or_pos n with h0 | h0
  · exact .inl h0
  · obtain ⟨b, i, e, hlt⟩ := h.addr h0
    rw [ha] at e
    cases e
    exact .inr hlt
theorem Fx.lt0 {w : World} {o : Option Addr} {n c : Nat} {l : List (Int × Int)} (h : Fx w o n c l) : ∀ a, o = some a → n = 0 ∨ a.block < w.heap.size := fun a ha => by
  rcases h.ft with h0 | hf
  · exact .inl h0
  · rcases Nat.eq_zero_or_pos n with h0 | h0
    · exact .inl h0
    · have hl := h.len
      subst ha
      obtain ⟨b, i, rfl⟩ := hf.pl a rfl
      obtain ⟨x, hx⟩ : ∃ x, l[0]? = some x := ⟨_, List.getElem?_eq_getElem (by omega)⟩
      have := (hf.k b i rfl 0 x hx).1
      exact .inr (World.block_lt_of_cell? w _ this)
theorem fileR_shape (L : List Rf) (s : ByteArray) : ∃ s' n la th nl, (fileR L s).1 = toldV s' n la th nl := by
  unfold fileR
  split
  · exact ⟨_, _, _, _, _, rfl⟩
  · split
    · exact ⟨_, _, _, _, _, rfl⟩
    · split
      · exact ⟨_, _, _, _, _, rfl⟩
      · exact ⟨_, _, _, _, _, rfl⟩
/-- Crash with a pick below nought. -/
theorem crash_p_neg {w : World} {T : Nat → Prop} {b i : Nat} {L : List Rf} {fs : List (Int × Int)} {st : Int} (h : Pv w T b L fs st i) (o : Option Addr) (pn pc : Nat) (l : List Int) (hl : Is' w o pn pc l) (hneg : ¬ ∀ x ∈ l, 0 ≤ x) (hpn : pn ≤ 4611686018427387904) :
    Calls Try.prog 33 #[.pointer (some ⟨b, 0, none⟩), .agg #[.slice o pn pc]] w fun e w' => e = .returned (.tuple #[.pointer none, .int .i64 2]) ∧ w.grownBy w' none := by
  letI FO : Inhabited (Nat → Prop) := ⟨T⟩
  obtain ⟨m, n, D, X, B, hI, hM, tm, tg⟩ := h.ex
  exact crash_neg hI.ds o pn pc l hl hneg hpn
/-- What a call of the script bears besides. -/
structure Xs (w : World) (x : Sx) : Prop where
  ff : x.fn ≤ x.fc
  fx : ∃ t, Fx w x.fo x.fn x.fc t
  pi : ∃ l, Ip w x.po x.pn l ∧ ∀ y ∈ l, y < 9223372036854775808
  pr : x.pn ≤ x.pc ∧ x.pc ≤ maxLen ∧ (x.po = none → x.pc = 0)
  nn : x.nn ≤ 9223372036854775807
theorem info3p : (Try.prog.info? 3).map (fun i => (i.zero, i.size, i.bytes)) = some (some (.int .i64 0), 1, 8) := by kernel_rfl
theorem Ft.top1 {w : World} {o : Option Addr} {k c : Nat} {l : List (Int × Int)} {y : Int × Int} (h : Ft w o (k + 1) c (l ++ [y])) : Ft w o k c l := by
  have hl : l.length = k := by have := h.len; simpa using this
  exact ⟨hl, by have := h.room; omega, h.top, h.pl, h.nil, fun b i e j x hx => h.k b i e j x (by have := (List.getElem?_eq_some_iff.1 hx).1; rw [List.getElem?_append_left this]; exact hx)⟩
theorem one_fate (w : World) (a b : Int) : Ft (w.alloc (.cells #[.int .i64 a, .int .i64 b] 28)) (some ⟨w.heap.size, 0, none⟩) 1 1 [(a, b)] := by
  have h := World.alloc_heap_new w (.cells #[.int .i64 a, .int .i64 b] 28)
  refine ⟨rfl, Nat.le_refl _, (by unfold maxLen; omega), (fun ad e => by cases e; exact ⟨_, _, rfl⟩), (fun e => by cases e), fun q i e j x hx => ?_⟩
  cases e
  have hj : j = 0 := by have := (List.getElem?_eq_some_iff.1 hx).1; simpa using this
  subst hj
  simp at hx
  subst hx
  exact ⟨cell_of (i := 0) h rfl, cell_of (i := 1) h rfl⟩
theorem vR_all {l : List Sx} (h : vR l = false) : l.length ≤ 300 ∧ ∀ x ∈ l, x.bn ≤ 3000 ∧ x.fn ≤ 100 ∧ x.pn ≤ 300 := by
  unfold vR at h
  simp only [Bool.or_eq_false_iff, decide_eq_false_iff_not] at h
  refine ⟨by omega, fun x hx => ?_⟩
  have := List.any_eq_false.1 h.2 x hx
  unfold xv at this
  simp at this
  omega
theorem rx_cell {w : World} {a : Addr} {c : Nat} (h : Rx w a c) (hc : c ≠ 0) {j : Nat} (hj : j < c * 2) : ∃ v, w.cell? ⟨a.block, a.off + j, none⟩ = some v := by
  obtain ⟨cs, h1, h2⟩ := h
  have := h2 hc
  obtain ⟨v, hv⟩ : ∃ v, cs[a.off + j]? = some v := ⟨_, Array.getElem?_eq_getElem (by omega)⟩
  exact ⟨v, by rw [cell_at h1]; exact hv⟩
theorem rx_fz {w : World} {a : Addr} {c : Nat} (h : Rx w a c) (j : Nat) : w.frozen? ⟨a.block, j, none⟩ = false := by
  obtain ⟨cs, h1, _⟩ := h
  unfold World.frozen?
  rw [h1]
  simp
theorem rx_set {w : World} {a : Addr} {c : Nat} (h : Rx w a c) (j : Nat) (v : Value) : Rx (w.setCell ⟨a.block, j, none⟩ v) a c := by
  obtain ⟨cs, h1, h2⟩ := h
  exact ⟨_, heap_set h1 j v, by simpa using h2⟩

/-- The loops' bodies. -/
def loopsOf : Code → List Code
  | .loop a => a :: loopsOf a
  | .seq a b => loopsOf a ++ loopsOf b
  | .cond _ a b => loopsOf a ++ loopsOf b
  | .block _ a => loopsOf a
  | .scope a => loopsOf a
  | _ => []
theorem code_elim {c1 c2 c3 c4 : Code} {R : Code → Prop} (hcode : Try.f3.body.map loopsOf = some [c1, c2, c3, c4]) (h : ∃ d1 d2 d3 d4, Try.f3.body.map loopsOf = some [d1, d2, d3, d4] ∧ R d2) : R c2 := by
  obtain ⟨d1, d2, d3, d4, h1, h2⟩ := h
  rw [hcode] at h1
  simp only [Option.some.injEq, List.cons.injEq, and_true] at h1
  obtain ⟨rfl, rfl, rfl, rfl⟩ := h1
  exact h2
theorem code_elim1 {c1 c2 c3 c4 : Code} {R : Code → Prop} (hcode : Try.f3.body.map loopsOf = some [c1, c2, c3, c4]) (h : ∃ d1 d2 d3 d4, Try.f3.body.map loopsOf = some [d1, d2, d3, d4] ∧ R d1) : R c1 := by
  obtain ⟨d1, d2, d3, d4, h1, h2⟩ := h
  rw [hcode] at h1
  simp only [Option.some.injEq, List.cons.injEq, and_true] at h1
  obtain ⟨rfl, rfl, rfl, rfl⟩ := h1
  exact h2

set_option maxRecDepth 100000 in
/-- What a step of the script leaves: where it wrote, whatever it is. -/
def Aft (w : World) (sb si sn sc i : Nat) (v0 v2 v3 v4 v5 v7 v8 v12 v36 v37 v38 v39 v40 v41 v42 v43 v44 v45 v46 v47 v48 v49 v50 v51 v52 v53 v54 v55 v56 v57 v58 v59 v60 v61 v62 v63 v64 v65 v66 v67 v68 v69 v70 v71 v72 v73 v74 v75 v76 v77 v78 v79 v80 v81 v82 v83 v84 v85 v86 v87 v88 v89 v90 v91 v92 v369 v370 v371 v372 v373 v374 v375 v376 v377 v378 v379 v380 : Value) (a' : Act) (W9 : World) : Prop :=
  ∃ (b9 rb9 ob9 orb9 : Nat) (u13 u14 u15 u16 u17 u18 u19 u20 u21 u22 u23 u24 u25 u26 u27 u28 u29 u30 u31 u32 u33 u34 u35 u93 u94 u95 u96 u97 u98 u99 u100 u101 u102 u103 u104 u105 u106 u107 u108 u109 u110 u111 u112 u113 u114 u115 u116 u117 u118 u119 u120 u121 u122 u123 u124 u125 u126 u127 u128 u129 u130 u131 u132 u133 u134 u135 u136 u137 u138 u139 u140 u141 u142 u143 u144 u145 u146 u147 u148 u149 u150 u151 u152 u153 u154 u155 u156 u157 u158 u159 u160 u161 u162 u163 u164 u165 u166 u167 u168 u169 u170 u171 u172 u173 u174 u175 u176 u177 u178 u179 u180 u181 u182 u183 u184 u185 u186 u187 u188 u189 u190 u191 u192 u193 u194 u195 u196 u197 u198 u199 u200 u201 u202 u203 u204 u205 u206 u207 u208 u209 u210 u211 u212 u213 u214 u215 u216 u217 u218 u219 u220 u221 u222 u223 u224 u225 u226 u227 u228 u229 u230 u231 u232 u233 u234 u235 u236 u237 u238 u239 u240 u241 u242 u243 u244 u245 u246 u247 u248 u249 u250 u251 u252 u253 u254 u255 u256 u257 u258 u259 u260 u261 u262 u263 u264 u265 u266 u267 u268 u269 u270 u271 u272 u273 u274 u275 u276 u277 u278 u279 u280 u281 u282 u283 u284 u285 u286 u287 u288 u289 u290 u291 u292 u293 u294 u295 u296 u297 u298 u299 u300 u301 u302 u303 u304 u305 u306 u307 u308 u309 u310 u311 u312 u313 u314 u315 u316 u317 u318 u319 u320 u321 u322 u323 u324 u325 u326 u327 u328 u329 u330 u331 u332 u333 u334 u335 u336 u337 u338 u339 u340 u341 u342 u343 u344 u345 u346 u347 u348 u349 u350 u351 u352 u353 u354 u355 u356 u357 u358 u359 u360 u361 u362 u363 u364 u365 u366 u367 u368 : Value), a' = { tmps := #[v0, .slice (some ⟨sb, si, none⟩) sn sc, v2, v3, v4, v5, .pointer (some ⟨b9, 0, none⟩), v7, v8, .pointer (some ⟨rb9, 0, none⟩), .pointer (some ⟨ob9, 0, none⟩), .pointer (some ⟨orb9, 0, none⟩), v12, u13, u14, u15, u16, u17, u18, u19, u20, u21, u22, u23, u24, u25, u26, u27, u28, u29, u30, u31, u32, u33, u34, u35, v36, v37, v38, v39, v40, v41, v42, v43, v44, v45, v46, v47, v48, v49, v50, v51, v52, v53, v54, v55, v56, v57, v58, v59, v60, v61, v62, v63, v64, v65, v66, v67, v68, v69, v70, v71, v72, v73, v74, v75, v76, v77, v78, v79, v80, v81, v82, v83, v84, v85, v86, v87, v88, v89, v90, v91, v92, u93, u94, u95, u96, u97, u98, u99, u100, u101, u102, u103, u104, u105, u106, u107, u108, u109, u110, u111, u112, u113, u114, u115, u116, u117, u118, u119, u120, u121, u122, u123, u124, u125, u126, u127, u128, u129, u130, u131, u132, u133, u134, u135, u136, u137, u138, u139, u140, u141, u142, u143, u144, u145, u146, u147, u148, u149, u150, u151, u152, u153, u154, u155, u156, u157, u158, u159, u160, u161, u162, u163, u164, u165, u166, u167, u168, u169, u170, u171, u172, u173, u174, u175, u176, u177, u178, u179, u180, u181, u182, u183, u184, u185, u186, u187, u188, u189, u190, u191, u192, u193, u194, u195, u196, u197, u198, u199, u200, u201, u202, u203, u204, u205, u206, u207, u208, u209, u210, u211, u212, u213, u214, u215, u216, u217, u218, u219, u220, u221, u222, u223, u224, u225, u226, u227, u228, u229, u230, u231, u232, u233, u234, u235, u236, u237, u238, u239, u240, u241, u242, u243, u244, u245, u246, u247, u248, u249, u250, u251, u252, u253, u254, u255, u256, u257, u258, u259, u260, u261, u262, u263, u264, u265, u266, u267, u268, u269, u270, u271, u272, u273, u274, u275, u276, u277, u278, u279, u280, u281, u282, u283, u284, u285, u286, u287, u288, u289, u290, u291, u292, u293, u294, u295, u296, u297, u298, u299, u300, u301, u302, u303, u304, u305, u306, u307, u308, u309, u310, u311, u312, u313, u314, u315, u316, u317, u318, u319, u320, u321, u322, u323, u324, u325, u326, u327, u328, u329, u330, u331, u332, u333, u334, u335, u336, u337, u338, u339, u340, u341, u342, u343, u344, u345, u346, u347, u348, u349, u350, u351, u352, u353, u354, u355, u356, u357, u358, u359, u360, u361, u362, u363, u364, u365, u366, u367, u368, v369, v370, v371, v372, v373, v374, v375, v376, v377, v378, v379, v380], defers := [] } ∧ u13 = .int .i64 ((i + 1 : Nat) : Int) ∧ St w W9 b9 rb9 ob9 orb9 (i + 1)
end Go.Proofs.Ythkbakaodbceiaa
