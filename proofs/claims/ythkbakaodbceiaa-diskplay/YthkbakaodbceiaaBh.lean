import Derived.Test.YthkbakaodbceiaaS6
/-
  DiskPlay: its main loop, and what follows.
-/
namespace Go.Proofs.Ythkbakaodbceiaa
open Go.RowKit Go.Maps Go.WideMaps
set_option linter.unusedVariables false


set_option maxRecDepth 100000 in
set_option maxHeartbeats 8000000 in
theorem loop2P {c1 c2 c3 c4 : Code} (hcode : Try.f3.body.map loopsOf = some [c1, c2, c3, c4]) (w wr : World) {so : Option Addr} {sn sc : Nat} {l : List Sx} (hS : Sl w so sn sc l) (hXs : ∀ x ∈ l, Xs w x) (hv : vR l = false) (b0 rb0 ob0 orb0 : Nat) (hSt0 : St w wr b0 rb0 ob0 orb0 0) (v0 v2 v3 v4 v5 v7 v8 v12 v36 v37 v38 v39 v40 v41 v42 v43 v44 v45 v46 v47 v48 v49 v50 v51 v52 v53 v54 v55 v56 v57 v58 v59 v60 v61 v62 v63 v64 v65 v66 v67 v68 v69 v70 v71 v72 v73 v74 v75 v76 v77 v78 v79 v80 v81 v82 v83 v84 v85 v86 v87 v88 v89 v90 v91 v92 v369 v370 v371 v372 v373 v374 v375 v376 v377 v378 v379 v380 : Value) :
    (Code.loop c2).wp Try.prog (fun e a' W' => e = .exit 2 ∧ Inv w (.slice so sn sc) v0 v2 v3 v4 v5 v7 v8 v12 v36 v37 v38 v39 v40 v41 v42 v43 v44 v45 v46 v47 v48 v49 v50 v51 v52 v53 v54 v55 v56 v57 v58 v59 v60 v61 v62 v63 v64 v65 v66 v67 v68 v69 v70 v71 v72 v73 v74 v75 v76 v77 v78 v79 v80 v81 v82 v83 v84 v85 v86 v87 v88 v89 v90 v91 v92 v369 v370 v371 v372 v373 v374 v375 v376 v377 v378 v379 v380 a' W' sn) { tmps := #[v0, .slice so sn sc, v2, v3, v4, v5, .pointer (some ⟨b0, 0, none⟩), v7, v8, .pointer (some ⟨rb0, 0, none⟩), .pointer (some ⟨ob0, 0, none⟩), .pointer (some ⟨orb0, 0, none⟩), v12, .int .i64 (0 : Int), undef, undef, undef, undef, undef, undef, undef, undef, undef, undef, undef, undef, undef, undef, undef, undef, undef, undef, undef, undef, undef, undef, v36, v37, v38, v39, v40, v41, v42, v43, v44, v45, v46, v47, v48, v49, v50, v51, v52, v53, v54, v55, v56, v57, v58, v59, v60, v61, v62, v63, v64, v65, v66, v67, v68, v69, v70, v71, v72, v73, v74, v75, v76, v77, v78, v79, v80, v81, v82, v83, v84, v85, v86, v87, v88, v89, v90, v91, v92, undef, undef, undef, undef, undef, undef, undef, undef, undef, undef, undef, undef, undef, undef, undef, undef, undef, undef, undef, undef, undef, undef, undef, undef, undef, undef, undef, undef, undef, undef, undef, undef, undef, undef, undef, undef, undef, undef, undef, undef, undef, undef, undef, undef, undef, undef, undef, undef, undef, undef, undef, undef, undef, undef, undef, undef, undef, undef, undef, undef, undef, undef, undef, undef, undef, undef, undef, undef, undef, undef, undef, undef, undef, undef, undef, undef, undef, undef, undef, undef, undef, undef, undef, undef, undef, undef, undef, undef, undef, undef, undef, undef, undef, undef, undef, undef, undef, undef, undef, undef, undef, undef, undef, undef, undef, undef, undef, undef, undef, undef, undef, undef, undef, undef, undef, undef, undef, undef, undef, undef, undef, undef, undef, undef, undef, undef, undef, undef, undef, undef, undef, undef, undef, undef, undef, undef, undef, undef, undef, undef, undef, undef, undef, undef, undef, undef, undef, undef, undef, undef, undef, undef, undef, undef, undef, undef, undef, undef, undef, undef, undef, undef, undef, undef, undef, undef, undef, undef, undef, undef, undef, undef, undef, undef, undef, undef, undef, undef, undef, undef, undef, undef, undef, undef, undef, undef, undef, undef, undef, undef, undef, undef, undef, undef, undef, undef, undef, undef, undef, undef, undef, undef, undef, undef, undef, undef, undef, undef, undef, undef, undef, undef, undef, undef, undef, undef, undef, undef, undef, undef, undef, undef, undef, undef, undef, undef, undef, undef, undef, undef, undef, undef, undef, undef, undef, undef, undef, undef, undef, undef, undef, undef, undef, undef, undef, undef, undef, undef, undef, undef, undef, undef, undef, undef, undef, undef, undef, undef, undef, undef, undef, undef, undef, undef, undef, undef, undef, undef, undef, undef, undef, undef, undef, undef, undef, undef, v369, v370, v371, v372, v373, v374, v375, v376, v377, v378, v379, v380], defers := [] } wr := by
  refine code_elim (R := fun c => (Code.loop c).wp Try.prog _ _ wr) hcode ⟨_, _, _, _, rfl, ?_⟩
  show Code.wp _ _ _ _ _
  · skip
    obtain ⟨hl300, hb3⟩ := vR_all hv
    have HB3 : Hid _ := hb3
    have HXs : Hid _ := hXs
    have HS : Hid _ := hS
    have hlen := hS.len
    have hroom := hS.room
    have htop := hS.top
    have htop2 : sc ≤ 9223372036854775807 := htop
    clear hb3 hXs hS hv htop
    refine wp_loop (fun a' w' => ∃ i : Nat, i ≤ sn ∧ Inv w (.slice so sn sc) v0 v2 v3 v4 v5 v7 v8 v12 v36 v37 v38 v39 v40 v41 v42 v43 v44 v45 v46 v47 v48 v49 v50 v51 v52 v53 v54 v55 v56 v57 v58 v59 v60 v61 v62 v63 v64 v65 v66 v67 v68 v69 v70 v71 v72 v73 v74 v75 v76 v77 v78 v79 v80 v81 v82 v83 v84 v85 v86 v87 v88 v89 v90 v91 v92 v369 v370 v371 v372 v373 v374 v375 v376 v377 v378 v379 v380 a' w' i) (fun a' _ => sn - (intOf (a'.tmps.getD 13 undef)).toNat) ?_ ?_
    · exact ⟨0, Nat.zero_le _, b0, rb0, ob0, orb0, fun _ => undef, rfl, hSt0⟩
    · rintro a' wr ⟨i, hin, b, rb, ob, orb, f, rfl, hSt⟩
      by_cases hlt : i < sn
      · cases so with
        | none => exfalso; have := HS.out.nil rfl; omega
        | some sa =>
        obtain ⟨sb, si, rfl⟩ := HS.out.pl sa rfl
        have hil : i < l.length := by omega
        have hc := (HS.out.k sb si rfl i l[i] (by simp [hil])).grown hSt.gw
        have hmem : l[i] ∈ l := List.getElem_mem hil
        obtain ⟨bt, hbt⟩ := HS.out.bs _ hmem
        obtain ⟨hbn, hfn, hpn⟩ := HB3.out _ hmem
        obtain ⟨hff, ⟨ft, hft⟩, ⟨lp, hip, hly⟩, hpr, hnn⟩ := HXs.out _ hmem
        refine wp_mono (stepInv (hcode := rfl) w wr sb si sn sc b rb ob orb i l[i] bt ft lp (by omega) hroom htop2 hlt hc hSt hbt hbn hfn hpn hff hft hip hly hpr hnn _ _ _ _ _ _ _ _ _ _ _ _ _ _ _ _ _ _ _ _ _ _ _ _ _ _ _ _ _ _ _ _ _ _ _ _ _ _ _ _ _ _ _ _ _ _ _ _ _ _ _ _ _ _ _ _ _ _ _ _ _ _ _ _ _ _ _ _ _ _ _ _ _ _ _ _ _ f) ?_
        rintro e a' W9 ⟨rfl, hI⟩
        refine ⟨⟨i + 1, by omega, hI⟩, ?_⟩
        obtain ⟨_, _, _, _, _, rfl, _⟩ := hI
        show sn - (intOf (.int .i64 ((i + 1 : Nat) : Int))).toNat < sn - (intOf (.int .i64 (i : Int))).toNat
        simp [intOf]
        omega
      · obtain rfl : i = sn := by omega
        have dl : decide ((i : Int) < (i : Int)) = false := by simp
        have hI : ∀ v93 v94 v95 v96 : Value, Inv w (.slice so i sc) v0 v2 v3 v4 v5 v7 v8 v12 v36 v37 v38 v39 v40 v41 v42 v43 v44 v45 v46 v47 v48 v49 v50 v51 v52 v53 v54 v55 v56 v57 v58 v59 v60 v61 v62 v63 v64 v65 v66 v67 v68 v69 v70 v71 v72 v73 v74 v75 v76 v77 v78 v79 v80 v81 v82 v83 v84 v85 v86 v87 v88 v89 v90 v91 v92 v369 v370 v371 v372 v373 v374 v375 v376 v377 v378 v379 v380 { tmps := #[v0, .slice so i sc, v2, v3, v4, v5, .pointer (some ⟨b, 0, none⟩), v7, v8, .pointer (some ⟨rb, 0, none⟩), .pointer (some ⟨ob, 0, none⟩), .pointer (some ⟨orb, 0, none⟩), v12, .int .i64 (i : Int), f 14, f 15, f 16, f 17, f 18, f 19, f 20, f 21, f 22, f 23, f 24, f 25, f 26, f 27, f 28, f 29, f 30, f 31, f 32, f 33, f 34, f 35, v36, v37, v38, v39, v40, v41, v42, v43, v44, v45, v46, v47, v48, v49, v50, v51, v52, v53, v54, v55, v56, v57, v58, v59, v60, v61, v62, v63, v64, v65, v66, v67, v68, v69, v70, v71, v72, v73, v74, v75, v76, v77, v78, v79, v80, v81, v82, v83, v84, v85, v86, v87, v88, v89, v90, v91, v92, v93, v94, v95, v96, f 97, f 98, f 99, f 100, f 101, f 102, f 103, f 104, f 105, f 106, f 107, f 108, f 109, f 110, f 111, f 112, f 113, f 114, f 115, f 116, f 117, f 118, f 119, f 120, f 121, f 122, f 123, f 124, f 125, f 126, f 127, f 128, f 129, f 130, f 131, f 132, f 133, f 134, f 135, f 136, f 137, f 138, f 139, f 140, f 141, f 142, f 143, f 144, f 145, f 146, f 147, f 148, f 149, f 150, f 151, f 152, f 153, f 154, f 155, f 156, f 157, f 158, f 159, f 160, f 161, f 162, f 163, f 164, f 165, f 166, f 167, f 168, f 169, f 170, f 171, f 172, f 173, f 174, f 175, f 176, f 177, f 178, f 179, f 180, f 181, f 182, f 183, f 184, f 185, f 186, f 187, f 188, f 189, f 190, f 191, f 192, f 193, f 194, f 195, f 196, f 197, f 198, f 199, f 200, f 201, f 202, f 203, f 204, f 205, f 206, f 207, f 208, f 209, f 210, f 211, f 212, f 213, f 214, f 215, f 216, f 217, f 218, f 219, f 220, f 221, f 222, f 223, f 224, f 225, f 226, f 227, f 228, f 229, f 230, f 231, f 232, f 233, f 234, f 235, f 236, f 237, f 238, f 239, f 240, f 241, f 242, f 243, f 244, f 245, f 246, f 247, f 248, f 249, f 250, f 251, f 252, f 253, f 254, f 255, f 256, f 257, f 258, f 259, f 260, f 261, f 262, f 263, f 264, f 265, f 266, f 267, f 268, f 269, f 270, f 271, f 272, f 273, f 274, f 275, f 276, f 277, f 278, f 279, f 280, f 281, f 282, f 283, f 284, f 285, f 286, f 287, f 288, f 289, f 290, f 291, f 292, f 293, f 294, f 295, f 296, f 297, f 298, f 299, f 300, f 301, f 302, f 303, f 304, f 305, f 306, f 307, f 308, f 309, f 310, f 311, f 312, f 313, f 314, f 315, f 316, f 317, f 318, f 319, f 320, f 321, f 322, f 323, f 324, f 325, f 326, f 327, f 328, f 329, f 330, f 331, f 332, f 333, f 334, f 335, f 336, f 337, f 338, f 339, f 340, f 341, f 342, f 343, f 344, f 345, f 346, f 347, f 348, f 349, f 350, f 351, f 352, f 353, f 354, f 355, f 356, f 357, f 358, f 359, f 360, f 361, f 362, f 363, f 364, f 365, f 366, f 367, f 368, v369, v370, v371, v372, v373, v374, v375, v376, v377, v378, v379, v380], defers := [] } wr i := fun v93 v94 v95 v96 => ⟨b, rb, ob, orb, fun k => if k = 93 then v93 else if k = 94 then v94 else if k = 95 then v95 else if k = 96 then v96 else f k, rfl, hSt⟩
        have HI : Hid _ := hI
        clear hI
        go_wp2
        exact HI.out _ _ _ _
end Go.Proofs.Ythkbakaodbceiaa

/-
  DiskPlay: the walk.
-/
namespace Go.Proofs.Ythkbakaodbceiaa
open Go.RowKit Go.Maps Go.WideMaps
set_option linter.unusedVariables false

set_option maxRecDepth 100000 in
/-- Where the loop over the fates stands. -/
def In1 (w10 : World) (fo so : Option Addr) (fn fc sn sc zg zo fc5 b0 rb0 ob0 orb0 : Nat) (v2 v3 v4 v7 v8 v36 v37 v38 v39 v40 v41 v42 v43 v44 v45 v46 v47 v48 v49 v50 v51 v52 v53 v54 v55 v56 v57 v58 v59 v60 v61 v62 v63 v64 v65 v66 v67 v68 v69 v70 v71 v72 v73 v74 v75 v76 v77 v78 v79 v80 v81 v82 v369 v370 v371 v372 v373 v374 v375 v376 v377 v378 v379 v380 : Value) (a' : Act) (W' : World) : Prop :=
  ∃ (j : Nat) (u83 u84 u85 u86 u87 u88 u89 u90 u91 u92 : Value), a' = { tmps := #[.slice fo fn fc, .slice so sn sc, v2, v3, v4, .slice (some ⟨zg, zo, none⟩) fn fc5, .pointer (some ⟨b0, 0, none⟩), v7, v8, .pointer (some ⟨rb0, 0, none⟩), .pointer (some ⟨ob0, 0, none⟩), .pointer (some ⟨orb0, 0, none⟩), .int .i64 (j : Int), undef, undef, undef, undef, undef, undef, undef, undef, undef, undef, undef, undef, undef, undef, undef, undef, undef, undef, undef, undef, undef, undef, undef, v36, v37, v38, v39, v40, v41, v42, v43, v44, v45, v46, v47, v48, v49, v50, v51, v52, v53, v54, v55, v56, v57, v58, v59, v60, v61, v62, v63, v64, v65, v66, v67, v68, v69, v70, v71, v72, v73, v74, v75, v76, v77, v78, v79, v80, v81, v82, u83, u84, u85, u86, u87, u88, u89, u90, u91, u92, undef, undef, undef, undef, undef, undef, undef, undef, undef, undef, undef, undef, undef, undef, undef, undef, undef, undef, undef, undef, undef, undef, undef, undef, undef, undef, undef, undef, undef, undef, undef, undef, undef, undef, undef, undef, undef, undef, undef, undef, undef, undef, undef, undef, undef, undef, undef, undef, undef, undef, undef, undef, undef, undef, undef, undef, undef, undef, undef, undef, undef, undef, undef, undef, undef, undef, undef, undef, undef, undef, undef, undef, undef, undef, undef, undef, undef, undef, undef, undef, undef, undef, undef, undef, undef, undef, undef, undef, undef, undef, undef, undef, undef, undef, undef, undef, undef, undef, undef, undef, undef, undef, undef, undef, undef, undef, undef, undef, undef, undef, undef, undef, undef, undef, undef, undef, undef, undef, undef, undef, undef, undef, undef, undef, undef, undef, undef, undef, undef, undef, undef, undef, undef, undef, undef, undef, undef, undef, undef, undef, undef, undef, undef, undef, undef, undef, undef, undef, undef, undef, undef, undef, undef, undef, undef, undef, undef, undef, undef, undef, undef, undef, undef, undef, undef, undef, undef, undef, undef, undef, undef, undef, undef, undef, undef, undef, undef, undef, undef, undef, undef, undef, undef, undef, undef, undef, undef, undef, undef, undef, undef, undef, undef, undef, undef, undef, undef, undef, undef, undef, undef, undef, undef, undef, undef, undef, undef, undef, undef, undef, undef, undef, undef, undef, undef, undef, undef, undef, undef, undef, undef, undef, undef, undef, undef, undef, undef, undef, undef, undef, undef, undef, undef, undef, undef, undef, undef, undef, undef, undef, undef, undef, undef, undef, undef, undef, undef, undef, undef, undef, undef, undef, undef, undef, undef, undef, undef, undef, undef, undef, undef, undef, undef, undef, undef, undef, undef, undef, undef, undef, undef, undef, undef, undef, undef, undef, v369, v370, v371, v372, v373, v374, v375, v376, v377, v378, v379, v380], defers := [] } ∧ j ≤ fn ∧ Chg w10 W' (fun q => q = zg) ∧ Rx W' ⟨zg, zo, none⟩ fc5

set_option maxRecDepth 100000 in
set_option maxHeartbeats 8000000 in
theorem loop1P {c1 c2 c3 c4 : Code} (hcode : Try.f3.body.map loopsOf = some [c1, c2, c3, c4]) (w10 : World) (fo so : Option Addr) (fn fc sn sc zg zo fc5 b0 rb0 ob0 orb0 : Nat) (hRx : Rx w10 ⟨zg, zo, none⟩ fc5) (hfn : fn ≤ 100) (hfc : fn ≤ fc5) (v2 v3 v4 v7 v8 v36 v37 v38 v39 v40 v41 v42 v43 v44 v45 v46 v47 v48 v49 v50 v51 v52 v53 v54 v55 v56 v57 v58 v59 v60 v61 v62 v63 v64 v65 v66 v67 v68 v69 v70 v71 v72 v73 v74 v75 v76 v77 v78 v79 v80 v81 v82 v369 v370 v371 v372 v373 v374 v375 v376 v377 v378 v379 v380 : Value) :
    (Code.loop c1).wp Try.prog (fun e a' W' => e = .exit 0 ∧ In1 w10 fo so fn fc sn sc zg zo fc5 b0 rb0 ob0 orb0 v2 v3 v4 v7 v8 v36 v37 v38 v39 v40 v41 v42 v43 v44 v45 v46 v47 v48 v49 v50 v51 v52 v53 v54 v55 v56 v57 v58 v59 v60 v61 v62 v63 v64 v65 v66 v67 v68 v69 v70 v71 v72 v73 v74 v75 v76 v77 v78 v79 v80 v81 v82 v369 v370 v371 v372 v373 v374 v375 v376 v377 v378 v379 v380 a' W') { tmps := #[.slice fo fn fc, .slice so sn sc, v2, v3, v4, .slice (some ⟨zg, zo, none⟩) fn fc5, .pointer (some ⟨b0, 0, none⟩), v7, v8, .pointer (some ⟨rb0, 0, none⟩), .pointer (some ⟨ob0, 0, none⟩), .pointer (some ⟨orb0, 0, none⟩), .int .i64 (0 : Int), undef, undef, undef, undef, undef, undef, undef, undef, undef, undef, undef, undef, undef, undef, undef, undef, undef, undef, undef, undef, undef, undef, undef, v36, v37, v38, v39, v40, v41, v42, v43, v44, v45, v46, v47, v48, v49, v50, v51, v52, v53, v54, v55, v56, v57, v58, v59, v60, v61, v62, v63, v64, v65, v66, v67, v68, v69, v70, v71, v72, v73, v74, v75, v76, v77, v78, v79, v80, v81, v82, undef, undef, undef, undef, undef, undef, undef, undef, undef, undef, undef, undef, undef, undef, undef, undef, undef, undef, undef, undef, undef, undef, undef, undef, undef, undef, undef, undef, undef, undef, undef, undef, undef, undef, undef, undef, undef, undef, undef, undef, undef, undef, undef, undef, undef, undef, undef, undef, undef, undef, undef, undef, undef, undef, undef, undef, undef, undef, undef, undef, undef, undef, undef, undef, undef, undef, undef, undef, undef, undef, undef, undef, undef, undef, undef, undef, undef, undef, undef, undef, undef, undef, undef, undef, undef, undef, undef, undef, undef, undef, undef, undef, undef, undef, undef, undef, undef, undef, undef, undef, undef, undef, undef, undef, undef, undef, undef, undef, undef, undef, undef, undef, undef, undef, undef, undef, undef, undef, undef, undef, undef, undef, undef, undef, undef, undef, undef, undef, undef, undef, undef, undef, undef, undef, undef, undef, undef, undef, undef, undef, undef, undef, undef, undef, undef, undef, undef, undef, undef, undef, undef, undef, undef, undef, undef, undef, undef, undef, undef, undef, undef, undef, undef, undef, undef, undef, undef, undef, undef, undef, undef, undef, undef, undef, undef, undef, undef, undef, undef, undef, undef, undef, undef, undef, undef, undef, undef, undef, undef, undef, undef, undef, undef, undef, undef, undef, undef, undef, undef, undef, undef, undef, undef, undef, undef, undef, undef, undef, undef, undef, undef, undef, undef, undef, undef, undef, undef, undef, undef, undef, undef, undef, undef, undef, undef, undef, undef, undef, undef, undef, undef, undef, undef, undef, undef, undef, undef, undef, undef, undef, undef, undef, undef, undef, undef, undef, undef, undef, undef, undef, undef, undef, undef, undef, undef, undef, undef, undef, undef, undef, undef, undef, undef, undef, undef, undef, undef, undef, undef, undef, undef, undef, undef, undef, undef, undef, undef, undef, undef, undef, undef, undef, undef, undef, undef, undef, v369, v370, v371, v372, v373, v374, v375, v376, v377, v378, v379, v380], defers := [] } w10 := by
  refine code_elim1 (R := fun c => (Code.loop c).wp Try.prog _ _ w10) hcode ⟨_, _, _, _, rfl, ?_⟩
  show Code.wp _ _ _ _ _
  · skip
    refine wp_loop (In1 w10 fo so fn fc sn sc zg zo fc5 b0 rb0 ob0 orb0 v2 v3 v4 v7 v8 v36 v37 v38 v39 v40 v41 v42 v43 v44 v45 v46 v47 v48 v49 v50 v51 v52 v53 v54 v55 v56 v57 v58 v59 v60 v61 v62 v63 v64 v65 v66 v67 v68 v69 v70 v71 v72 v73 v74 v75 v76 v77 v78 v79 v80 v81 v82 v369 v370 v371 v372 v373 v374 v375 v376 v377 v378 v379 v380) (fun a' _ => fn - (intOf (a'.tmps.getD 12 undef)).toNat) ?_ ?_
    · exact ⟨0, _, _, _, _, _, _, _, _, _, _, rfl, Nat.zero_le _, Chg.refl _ _, hRx⟩
    · rintro a' wr ⟨j, u83, u84, u85, u86, u87, u88, u89, u90, u91, u92, rfl, hj, hcv, hRv⟩
      by_cases hjl : j < fn
      · have dj : decide ((j : Int) < (fn : Int)) = true := by simp; omega
        have dj2 : decide (j < fn) = true := by simpa using hjl
        obtain ⟨x0, m0⟩ := rx_cell hRv (by omega) (j := j * 2) (by omega)
        obtain ⟨x1, m1⟩ := rx_cell hRv (by omega) (j := j * 2 + 1) (by omega)
        rw [← Nat.add_assoc] at m1
        dsimp only at m0 m1
        have f0 := rx_fz hRv (zo + j * 2)
        have f1 := rx_fz hRv (zo + j * 2 + 1)
        dsimp only at f0 f1
        have hRn := rx_set (rx_set hRv (zo + j * 2) (.int .i64 2)) (zo + j * 2 + 1) (.int .i64 0)
        have hcn := (hcv.trans (setCell_chg wr zg (zo + j * 2) (.int .i64 2))).trans (setCell_chg _ zg (zo + j * 2 + 1) (.int .i64 0))
        dsimp only at hRn
        have wj : IntKind.i64.wrap ((j : Int) + 1) = ((j + 1 : Nat) : Int) := by rw [IntWalk.i64_in _ (by omega)]; push_cast; rfl
        have i1 : (0 : Int) ≤ (j : Int) := by omega
        have i2 : (j : Int) < (fn : Int) := by omega
        go_wp2
        refine ⟨⟨j + 1, _, _, _, _, _, _, _, _, _, _, rfl, by omega, hcn, hRn⟩, ?_⟩
        simp [intOf]
        omega
      · obtain rfl : j = fn := by omega
        have dj : decide ((j : Int) < (j : Int)) = false := by simp
        go_wp2
        exact ⟨trivial, j, _, _, _, _, _, _, _, _, _, _, rfl, hj, hcv, hRv⟩

set_option maxRecDepth 100000 in
set_option maxHeartbeats 16000000 in
theorem diskPlay_any {w : World} {fo : Option Addr} {fn fc : Nat} {fs0 : List (Int × Int)} (hf : Ft w fo fn fc fs0) (hfb : ∀ a, fo = some a → a.block < w.heap.size) {so : Option Addr} {sn sc : Nat} {l : List Sx} (hS : Sl w so sn sc l) (hXs : ∀ x ∈ l, Xs w x) :
    Calls Try.prog 3 #[.slice fo fn fc, .slice so sn sc] w fun e w' => e = .returned (.bool true) ∧ w.grownBy w' none := by
  have hfl := hf.len
  by_cases hbig : 100 < fn
  · have d1 : decide ((100 : Int) < (fn : Int)) = true := by simp; omega
    have d2 : decide (100 < fn) = true := by simpa using hbig
    clear hf hS hXs
    go_enter Try.func3, Try.ntmps3
    go_wp2_with fail
    refine (known_any _).mono ?_
    rintro e w2 ⟨rfl, hg2⟩
    go_wp2
    go_ret
    exact ⟨rfl, hg2⟩
  · have d1 : decide ((100 : Int) < (fn : Int)) = false := by simp; omega
    have d2 : decide (100 < fn) = false := by simpa using hbig
    cases hv : vR l with
    | true =>
      have hva := vast_any hS
      rw [hv] at hva
      clear hf hS hXs
      go_enter Try.func3, Try.ntmps3
      go_wp2_with fail
      refine hva.mono ?_
      rintro e w2 ⟨rfl, hg2⟩
      go_wp2_with fail
      refine (known_any _).mono ?_
      rintro e w3 ⟨rfl, hg3⟩
      have hG := grown_trans hg2 hg3 (by simp)
      go_wp2
      go_ret
      exact ⟨rfl, hG⟩
    | false =>
      have hva := vast_any hS
      rw [hv] at hva
      obtain ⟨hl300, hb3⟩ := vR_all hv
      have HB3 : Hid _ := hb3
      have hlen := hS.len
      have hE : Ft w none 0 0 [] := ⟨rfl, Nat.le_refl _, Nat.zero_le _, (fun a e => by cases e), (fun _ => rfl), (fun b i e => by cases e)⟩
      clear hb3
      go_enter Try.func3, Try.ntmps3
      go_wp2_with fail
      refine hva.mono ?_
      clear hva
      rintro e w2 ⟨rfl, hg2⟩
      have hf2 := hf.chg (Chg.of_grown hg2 (fun _ => False)) (fun _ _ e => e)
      have hE2 := hE.chg (Chg.of_grown hg2 (fun _ => False)) (fun _ _ e => e)
      go_wp2_with (at_builtin; (refine wpList_feed rfl _ _ rfl rfl hE2 (fun ad e => by cases e) rfl hf2 (by omega) ?_))
      intro fo3 fc3 w3 hft3 hab3 hc3
      have hg3 : w2.grownBy w3 none := hc3.grown (fun k hk e => e)
      have ga := alloc_grown w3 (.cells #[.int .i64 0, .int .i64 4242] 28)
      have hone := one_fate w3 0 4242
      have hft4 := hft3.chg (Chg.of_grown ga (fun _ => False)) (fun _ _ e => e)
      have hab4 : ∀ ad, fo3 = some ad → Rx (w3.alloc (.cells #[.int .i64 0, .int .i64 4242] 28)) ad fc3 ∧ w2.heap.size ≤ ad.block := fun ad e => ⟨(hab3 ad e).1.chg (Chg.of_grown ga (fun _ => False)) (fun e => e), (hab3 ad e).2⟩
      go_wp2_with (at_builtin; (refine wpList_feed rfl _ _ rfl rfl hft4 (fun ad e => (hab4 ad e).1) rfl hone (by omega) ?_))
      intro fo5 fc5 w5 hft5 hab5 hc5
      have hs2 := hg2.size
      have hs3 := hg3.size
      have hg25 : w2.grownBy w5 none := ((Chg.of_grown (grown_trans hg3 ga (by simp)) _).trans hc5).grown (fun k hk ⟨fd, e1, e2⟩ => by have := (hab4 fd e1).2; omega)
      have hg5 := grown_trans hg2 hg25 (by simp)
      have hrm5 := hft5.room
      have htp5 := hft5.top
      unfold maxLen at htp5
      cases fo5 with
      | none => exfalso; have := hft5.nil rfl; omega
      | some ad5 =>
      obtain ⟨zg, zo, rfl⟩ := hft5.pl ad5 rfl
      have hRx5 := (hab5 _ rfl).1
      have hzg2 : w2.heap.size ≤ zg := by
        rcases (hab5 _ rfl).2 with ⟨fd, e1, e2⟩ | h9
        · have := (hab4 fd e1).2; simp only at e2; omega
        · have h8 : w3.heap.size + 1 ≤ zg := by simpa using h9
          omega
      have hzg5 : zg < w5.heap.size := hRx5.ty.lt
      have hmk := hft5.top1
      have y0 : (0 : Int) ≤ (fn : Int) := by omega
      have y1 : (fn : Int) ≤ (fc5 : Int) := by omega
      have hnw := new_p hmk (by omega) (fun a e => by cases e; exact hzg5)
      have hf5 := hf.chg (Chg.of_grown hg5 (fun _ => False)) (fun _ _ e => e)
      clear hft3 hft4 hab3 hab4 hc3 hc5 hone ga hg25 hft5 hab5 hmk hE2 hE
      go_wp2_with fail
      refine hnw.mono ?_
      clear hnw
      rintro e w6 (⟨hfw, rfl, hg6⟩ | ⟨hfw, nb, rfl, hP6, hg6⟩)
      · have hr := right_any (hf5.chg (Chg.of_grown hg6 (fun _ => False)) (fun _ _ e => e)) (by omega)
        rw [hfw] at hr
        go_wp2_with fail
        refine hr.mono ?_
        rintro e w7 ⟨rfl, hg7⟩
        have hG7 := grown_trans (grown_trans hg5 hg6 (by simp)) hg7 (by simp)
        go_wp2_with fail
        refine (known_any _).mono ?_
        rintro e w8 ⟨rfl, hg8⟩
        have hG8 := grown_trans hG7 hg8 (by simp)
        go_wp2
        go_ret
        exact ⟨rfl, hG8⟩
      · have hf6 := hf5.chg (Chg.of_grown hg6 (fun _ => False)) (fun _ _ e => e)
        have hr := right_any hf6 (by omega)
        rw [hfw] at hr
        go_wp2_with fail
        refine hr.mono ?_
        clear hr
        rintro e w7 ⟨rfl, hg7⟩
        have hf7 := hf6.chg (Chg.of_grown hg7 (fun _ => False)) (fun _ _ e => e)
        go_wp2_with fail
        refine (new_r hf7 (by omega)).mono ?_
        rintro e w8 ⟨rb, rfl, ⟨U8, hR8, hU8⟩, hg8⟩
        have hP8 := (hP6.grown hg7).grown hg8
        go_wp2_with fail
        refine (copy_p hP8 (by omega)).mono ?_
        rintro e w9 ⟨ob, rfl, hP9, hg9⟩
        go_wp2_with fail
        refine (copy_r (hR8.grown hg9) (by simp) (by omega)).mono ?_
        rintro e w10 ⟨orb, rfl, ⟨U10, hR10, hU10⟩, hg10⟩
        have hs6 := hg6.size
        have hs7 := hg7.size
        have hs8 := hg8.size
        have hs9 := hg9.size
        have hs10 := hg10.size
        have hgd0 : Gd [] := fun f hf => by cases hf
        have hg810 := grown_trans hg9 hg10 (by simp)
        have hPr8 : Pr w8 (fun k => Nw w5 w6 k ∨ U8 k) nb rb [] fs0 0 0 := ⟨⟨_, U8, hP8, hR8, fun k hk hu => by have := hk.2; have := hU8 k hu; omega, fun k => Iff.rfl⟩, hgd0⟩
        have hMlt := hPr8.lt
        have hPr10 := hPr8.grown hg810
        have hPo10 : Pr w10 (fun k => Nw w8 w9 k ∨ U10 k) ob orb [] fs0 0 0 := ⟨⟨_, U10, hP9.grown hg10, hR10, fun k hk hu => by have := hk.2; have := hU10 k hu; omega, fun k => Iff.rfl⟩, hgd0⟩
        have hMge : ∀ k, (Nw w5 w6 k ∨ U8 k) → w5.heap.size ≤ k := fun k hk => by
          rcases hk with h | h
          · exact h.1
          · have := hU8 k h; omega
        have hNge : ∀ k, (Nw w8 w9 k ∨ U10 k) → w8.heap.size ≤ k := fun k hk => by
          rcases hk with h | h
          · exact h.1
          · have := hU10 k h; omega
        have hg510 := grown_trans (grown_trans (grown_trans hg6 hg7 (by simp)) hg8 (by simp)) hg810 (by simp)
        have hG10 := grown_trans hg5 hg510 (by simp)
        have hRx10 := hRx5.chg (Chg.of_grown hg510 (fun _ => False)) (fun e => e)
        have HP : Hid _ := hPr10
        have HO : Hid _ := hPo10
        have HM : Hid _ := hMlt
        have HM2 : Hid _ := hMge
        have HN2 : Hid _ := hNge
        have HXs : Hid _ := hXs
        have HS : Hid _ := hS
        have hroom := hS.room
        have htop := hS.top
        unfold maxLen at htop
        clear hPr8 hPr10 hPo10 hMlt hMge hNge hP6 hP8 hP9 hR8 hR10 hU8 hU10 hf hf2 hf5 hf6 hf7 hgd0 hXs hS hRx5 hg6 hg7 hg8 hg9 hg10 hg810
        go_wp2_with fail
        refine wp_mono (loop1P (hcode := rfl) w10 fo so fn fc sn sc zg zo fc5 nb rb ob orb hRx10 (by omega) (by omega) _ _ _ _ _ _ _ _ _ _ _ _ _ _ _ _ _ _ _ _ _ _ _ _ _ _ _ _ _ _ _ _ _ _ _ _ _ _ _ _ _ _ _ _ _ _ _ _ _ _ _ _ _ _ _ _ _ _ _ _ _ _ _ _) ?_
        rintro e a' wr ⟨rfl, j, u83, u84, u85, u86, u87, u88, u89, u90, u91, u92, rfl, hj, hcv, hRv⟩
        have hSt0 : St w wr nb rb ob orb 0 := .mk' (HP.out.chg hcv (fun k hk e => by have := HM2.out k hk; omega)) (HO.out.chg hcv (fun k hk e => by have := HN2.out k hk; omega)) (fun k hk hn => by have := HM.out k hk; have := HN2.out k hn; omega) (fun k hk => by
          rcases hk with h | h
          · have := HM2.out k h; have := hg5.size; omega
          · have := HN2.out k h; have := hg5.size; omega) (chg_up hG10 hcv (fun k e => by omega))
        go_wp2_with fail
        refine wp_mono (loop2P (hcode := rfl) w wr HS.out HXs.out hv nb rb ob orb hSt0 _ _ _ _ _ _ _ _ _ _ _ _ _ _ _ _ _ _ _ _ _ _ _ _ _ _ _ _ _ _ _ _ _ _ _ _ _ _ _ _ _ _ _ _ _ _ _ _ _ _ _ _ _ _ _ _ _ _ _ _ _ _ _ _ _ _ _ _ _ _ _ _ _ _ _ _ _) ?_
        rintro e a' wr ⟨rfl, b, rb, ob, orb, f, rfl, hSt⟩
        clear hSt0 hcv hRv
        obtain ⟨M, N, L, fs, st, K, gs, tt, hPr, hPo, hMN, hMb⟩ := hSt.ex
        obtain ⟨T, U, hP, hR, hd, hM⟩ := hPr.ex
        obtain ⟨T2, U2, hP2, hR2, hd2, hM2⟩ := hPo.ex
        have hgw := hSt.gw
        clear hSt hPr hPo hMN hMb hd hd2 hM hM2
        go_wp2_with fail
        refine (tells_any hP2 hR2 (by omega)).mono ?_
        rintro e w6 ⟨rfl, hg6⟩
        go_wp2_with fail
        refine (same_p (hP.grown hg6) (hP.grown hg6)).mono ?_
        rintro e w7 ⟨r1, rfl, hr1, hg7⟩
        obtain rfl : r1 = true := hr1.2 rfl
        go_wp2_with fail
        refine (known_any _).mono ?_
        rintro e w8 ⟨rfl, hg8⟩
        have hG := grown_trans (grown_trans (grown_trans hgw hg6 (by simp)) hg7 (by simp)) hg8 (by simp)
        go_wp2
        go_ret
        exact ⟨rfl, hG⟩
end Go.Proofs.Ythkbakaodbceiaa
