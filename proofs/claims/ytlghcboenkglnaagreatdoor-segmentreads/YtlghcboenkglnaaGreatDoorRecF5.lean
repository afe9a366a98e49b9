/-
  cut, of bytes that are no batch's, though their sum is right: the walk.
-/
import Derived.Test.YtlghcboenkglnaaGreatDoorRecF4
namespace Go.Proofs.YtlghcboenkglnaaGreatDoor.Rec
open Go.Proofs.YtlghcboenkglnaaGreatDoor
open Go.RowKit
set_option linter.unusedVariables false

theorem pos_step (B : List UInt8) (i : Nat) : posAt B i ≤ posAt B (i + 1) := by
  have h : posAt B (i + 1) = posAt B i + 12 + kAt B (posAt B i) + vAt B (posAt B i) := rfl
  omega
theorem pos_mono (B : List UInt8) {i j : Nat} (h : i ≤ j) : posAt B i ≤ posAt B j := by
  induction h with
  | refl => exact Nat.le_refl _
  | step _ ih => exact Nat.le_trans ih (pos_step B _)
/-- What of a record a measure asks. -/
def tri (r : Rc) : Int × Nat × Nat := (r.t, r.kn, r.vn)
theorem tri_meas {l k : List Rc} (h : l.map tri = k.map tri) (base : Int) : measR base l = measR base k := by
  have hl : l.length = k.length := by simpa using congrArg List.length h
  have hm : l.all mayR = k.all mayR := by
    have e : ∀ m : List Rc, m.all mayR = (m.map tri).all fun x => mayB x.1 x.2.1 x.2.2 := fun m => by rw [List.all_map]; rfl
    rw [e, e, h]
  have hs : szs l = szs k := by
    have e : ∀ m : List Rc, szs m = ((m.map tri).map fun x => 12 + x.2.1 + x.2.2).sum := fun m => by rw [List.map_map]; rfl
    rw [e, e, h]
  have h0 : l = [] ↔ k = [] := by rw [← List.length_eq_zero_iff, ← List.length_eq_zero_iff, hl]
  unfold measR fitsR
  rw [hm, hs, hl]
  simp only [h0]
theorem whole_of {B : List UInt8} {bn : Nat} {rs : List Rc} (h32 : 32 ≤ bn) (htop : bn ≤ 65536) (hsum : sAt B = sm (B.drop 8)) (he : posAt B (cAt B) = bn) (hl : rs.length = cAt B)
    (hall : ∀ j r, rs[j]? = some r → r.t = tAt B (posAt B j) ∧ r.kn = kAt B (posAt B j) ∧ r.vn = vAt B (posAt B j)) (hm : (measR (bAt B) rs).2 = 0) : Whole B bn := by
  refine ⟨h32, htop, hsum, he, fun j hj => by rw [← he]; exact pos_mono B (by omega), fun qs hq hqs => ?_⟩
  have e : qs.map tri = rs.map tri := by
    apply List.ext_getElem?
    intro j
    rw [List.getElem?_map, List.getElem?_map]
    by_cases hj : j < cAt B
    · have h1 : qs[j]? = some (qs[j]'(by omega)) := by simp
      have h2 : rs[j]? = some (rs[j]'(by omega)) := by simp
      obtain ⟨a1, a2, a3⟩ := hqs j _ h1
      obtain ⟨b1, b2, b3⟩ := hall j _ h2
      rw [h1, h2]
      simp [tri, a1, a2, a3, b1, b2, b3]
    · rw [List.getElem?_eq_none (by omega), List.getElem?_eq_none (by omega)]
  rw [tri_meas e]
  exact hm
set_option maxRecDepth 100000 in
set_option maxHeartbeats 8000000 in
theorem cut_rest (w : World) (bo : Option Addr) (bn bc : Nat) (B : List UInt8) (hb : Bs w bo bn bc B) (h32 : 32 ≤ bn) (htop : bn ≤ 65536) (hbc : bc ≤ 9223372036854775807) (hsum : sAt B = sm (B.drop 8)) (hno : ¬ Whole B bn) :
    Calls Tryz.prog 165 #[.slice bo bn bc] w fun e w' => e = .returned (.tuple #[.agg #[.int .i64 0, .slice none 0 0], .int .i64 152]) ∧ w.grownBy w' none := by
  have hmf : ∀ (fn : Fn) (first cap : Array Value) (w : World), (Instr.makeFunc fn first cap).run Tryz.prog w = .ok (.func fn first cap) w := fun _ _ _ _ => rfl
  go_enter_defers Tryz.func165, Tryz.ntmps165
  go_wp2_with fail
  have g1 := alloc_grown w (.cells #[.int .i64 0, .slice none 0 0] 54)
  have g2 := alloc_grown (w.alloc (.cells #[.int .i64 0, .slice none 0 0] 54)) (.cells #[.int .i64 0] 30)
  have hG0 := grown_trans g1 g2 (by simp)
  have k1 := heap_alloc_new w (.cells #[.int .i64 0, .slice none 0 0] 54)
  have k2 := heap_alloc_new (w.alloc (.cells #[.int .i64 0, .slice none 0 0] 54)) (.cells #[.int .i64 0] 30)
  have s1 : (w.alloc (.cells #[.int .i64 0, .slice none 0 0] 54)).heap.size = w.heap.size + 1 := by simp
  have s2 : ((w.alloc (.cells #[.int .i64 0, .slice none 0 0] 54)).alloc (.cells #[.int .i64 0] 30)).heap.size = w.heap.size + 2 := by simp
  rw [s1] at k2
  have k1' := (g2.block w.heap.size (by rw [s1]; omega) (by simp)).trans k1
  have hb0 := hb.grown hG0
  have hbz : ∀ b, bo = some b → b.block < w.heap.size := fun b hb' => by obtain ⟨b1, o1, e1, hl⟩ := hb.addr (by omega); rw [hb'] at e1; obtain rfl := Option.some.inj e1; exact hl
  clear g1 g2 k1 hb s1
  generalize ((w.alloc (.cells #[.int .i64 0, .slice none 0 0] 54)).alloc (.cells #[.int .i64 0] 30)) = w0 at *
  have hup : ∀ {W W' : World} {row : Nat}, w.grownBy W none → W.grownBy W' (some row) → w.heap.size ≤ row → w.grownBy W' none := fun h1 h2 h3 => grown_trans h1 h2 (fun k hk => Or.inr (by cases hk; exact h3))
  obtain ⟨z, hz⟩ : ∃ z, Hid (z = w.heap.size) := ⟨w.heap.size, (rfl : _ = _)⟩
  rw [← hz.out] at k1' k2 s2 hbz hup ⊢
  refine (new_far _ bo bn bc B hb0 (by omega)).mono ?_
  rintro e w1 ⟨rb, g, rfl, hR, hrb, hgb, hg1⟩
  rw [s2] at hrb hgb
  have hG1 := grown_trans hG0 hg1 (by simp)
  have hz1 := (hg1.block z (by omega) (by simp)).trans k1'
  have hz2 := (hg1.block (z + 1) (by omega) (by simp)).trans k2
  have hsz1 := hg1.size
  have hrbl : rb < w1.heap.size := World.block_lt_of_cell? w1 _ hR.c0
  go_wp2_with fail
  have g2 := alloc_grown w1 (.cells #[.slice bo bn bc, .pointer (some ⟨rb, 0, none⟩)] 276)
  have k3 := heap_alloc_new w1 (.cells #[.slice bo bn bc, .pointer (some ⟨rb, 0, none⟩)] 276)
  have hC2 : Ct (w1.alloc (.cells #[.slice bo bn bc, .pointer (some ⟨rb, 0, none⟩)] 276)) bo bn bc rb g B 0 :=
    Ct.grown ⟨hb0.grown hg1, ⟨0, bn, bn, by simpa using hR, by omega⟩, fun a ha => by have := hbz a ha; omega, hrbl, by omega⟩ g2
  have hK2 : Kc (w1.alloc (.cells #[.slice bo bn bc, .pointer (some ⟨rb, 0, none⟩)] 276)) z w1.heap.size bo bn bc rb (.int .i64 0) (.slice none 0 0) (.int .i64 0) := by
    have y1 := (g2.block z (by omega) (by simp)).trans hz1
    have y2 := (g2.block (z + 1) (by omega) (by simp)).trans hz2
    have := g2.size
    exact ⟨cell_of y1 rfl, cell_of y1 rfl, cell_of y2 rfl, cell_of k3 rfl, cell_of k3 rfl, frozen_of y1, frozen_of y2, by omega, by simp⟩
  have hG2 := grown_trans hG1 g2 (by simp)
  have hzc : z + 2 ≤ w1.heap.size ∧ rb < w1.heap.size := by omega
  obtain ⟨hzc1, hzc2⟩ := hzc
  clear g2 k3 hz1 hz2 hR hG1 hg1 hb0 k1' k2 hG0 s2 hsz1
  generalize w1.alloc (.cells #[.slice bo bn bc, .pointer (some ⟨rb, 0, none⟩)] 276) = w2 at *
  generalize w1.heap.size = zc at *
  have na : some z ≠ some rb := by simp; omega
  have nb : some (z + 1) ≠ some rb := by simp; omega
  have nc : some zc ≠ some rb := by simp; omega
  have hrbz : z ≤ rb := by omega
  refine (passC_yes _ bo bn bc rb g B 0 4 hC2 (by omega) (by omega)).mono ?_
  rintro e w3 ⟨po, pc, rfl, -, -, -, hC3, hg3⟩
  have hK3 := hK2.kept hg3 na nb nc
  have hG3 := hup hG2 hg3 hrbz
  clear hK2 hC2 hg3 hG2
  rw [Nat.zero_add] at hC3
  obtain ⟨BODY, hBD⟩ : ∃ Y, Hid (Y = B.drop 8) := ⟨B.drop 8, (rfl : _ = _)⟩
  obtain ⟨X, hX⟩ : ∃ X, Hid (X = sm BODY) := ⟨sm BODY, (rfl : _ = _)⟩
  have hsumC : ∀ W po m c, Pc W po m c [BODY] → Calls Tryz.prog 104 #[.slice po m c] W fun e w' => e = .returned (.int .u32 X) ∧ W.grownBy w' none := fun W po m c h => by
    have h9 := sum_any W po m c [BODY] h
    rw [hX.out]
    simpa using h9
  have hn4 : ∀ W, Ct W bo bn bc rb g B 4 → Calls Tryz.prog 183 #[.agg #[.slice bo bn bc, .pointer (some ⟨rb, 0, none⟩)]] W fun e w' => e = .returned (.int .u32 X) ∧ Ct w' bo bn bc rb g B 8 ∧ W.grownBy w' (some rb) := fun W hW => by
    have h9 := number4_yes W bo bn bc rb g B 4 hW (by omega)
    rw [hX.out, hBD.out, ← hsum]
    exact h9
  obtain ⟨bb, oo, rfl, hbb⟩ := hC3.bytes.addr (by omega)
  have hbr := hC3.bytes.room
  have hB8 : ∀ W, Ct W (some ⟨bb, oo, none⟩) bn bc rb g B 8 → Bs W (some ⟨bb, oo + 8, none⟩) (bn - 8) (bc - 8) BODY := fun W hW => by
    rw [hBD.out]
    exact hW.bytes.drop 8 (by omega) (oo + 8) (Or.inr rfl)
  have i1 : (8 : Int) ≤ (bn : Int) := by omega
  have i2 : 8 ≤ bn := by omega
  have i3 : ¬ bn = 8 := by omega
  have i4 : ¬ bc = 8 := by omega
  have i5 : (8 : Int) ≤ (bc : Int) := by omega
  have p0 := hK3.c0
  have p1 := hK3.c1
  go_wp2_with fail
  have hrb3 := hC3.rbl
  have hXX : ((X : Int) == (X : Int)) = true := by simp
  go_region_held3 (fun w' => w'.cell? ⟨zc, 0, none⟩ = some (.slice (some ⟨bb, oo, none⟩) bn bc) ∧ w'.cell? ⟨zc, 1, none⟩ = some (.pointer (some ⟨rb, 0, none⟩))) (first | exact ⟨p0, p1⟩ | exact ⟨r0, r1⟩ | exact ⟨q0, q1⟩ | exact ⟨(alloc_grown _ _).cell p0 (by simp), (alloc_grown _ _).cell p1 (by simp)⟩ | exact ⟨(alloc_grown _ _).cell q0 (by simp), (alloc_grown _ _).cell q1 (by simp)⟩) (first
    | (go_at_call 183; refine (hn4 _ (by first | exact hC3.grown (grown_drewN w3 1 none) | exact hC3.grown (grown_trans (grown_drewN w3 1 none) (alloc_grown _ _) (by simp)))).mono ?_; rintro e w4 ⟨rfl, hC4, hg4⟩; have hgd : w3.grownBy w4 (some rb) := grown_trans (by first | exact grown_drewN w3 1 (some rb) | exact grown_any (grown_trans (grown_drewN w3 1 none) (alloc_grown _ _) (by simp)) (some rb)) hg4 (fun k hk => Or.inl hk); have q0 := hgd.cell p0 nc; have q1 := hgd.cell p1 nc)
    | (go_at_call 104; refine (hsumC _ _ _ _ (by first | exact Pc.one w4 _ _ _ BODY (hB8 _ hC4) _ | exact Pc.of1 (hg4.cell (by simp) (by simp; omega)) (hB8 _ hC4))).mono ?_; rintro e w5 ⟨rfl, hg5⟩; have hge : w4.grownBy w5 none := (by first | exact hg5 | exact grown_trans (alloc_grown _ _) hg5 (by simp)); have r0 := hge.cell q0 (by simp); have r1 := hge.cell q1 (by simp))
    | (go_at_call 182; refine (need_yes _).mono ?_; rintro e w6 ⟨rfl, hw6⟩; subst hw6))
  all_goals
    have hC5 := hC4.grown hge
    have hK5 := (hK3.kept hgd na nb nc).kept hge (by simp) (by simp) (by simp)
    have hG5 := grown_trans (hup hG3 hgd hrbz) hge (by simp)
    clear hC4 hge hgd hg4 hg5 q0 q1 r0 r1 p0 p1 hK3 hC3 hG3 hB8 hsumC hn4 hXX i1 i2 i3 i4 i5
    have p0 := hK5.c0
    have p1 := hK5.c1
    go_wp2_with fail
    refine (number8_yes _ _ bn bc rb g B 8 hC5 (by omega)).mono ?_
    rintro e w7 ⟨rfl, hC7, hg7⟩
    have hK7 := hK5.kept hg7 na nb nc
    have hG7 := hup hG5 hg7 hrbz
    clear hC5 hK5 hg7 hG5 p0 p1
    obtain ⟨BS, hBS⟩ : ∃ BS, Hid (BS = bAt B) := ⟨bAt B, (rfl : _ = _)⟩
    rw [show wrap64 ((val ((B.drop 8).take 8) : Nat) : Int) = BS from hBS.out.symm]
    have f7 := hK7.fb
    have x0 := hK7.b0
    have p0 := hK7.c0
    have p1 := hK7.c1
    go_wp2_with fail
    have hs8 := setCell_grown w7 z 0 (.int .i64 BS)
    have hK8 := (hK7.set hzc1 (.int .i64 BS)).1
    have ma : some z ≠ some rb := na
    have mg : some z ≠ some g := by simp; omega
    have mb : ∀ b, some (⟨bb, oo, none⟩ : Addr) = some b → some b.block ≠ some z := fun b hb => by have := hbz b hb; simp; omega
    have hC8 := hC7.kept hs8 ma mg mb
    have hG8 := hup hG7 hs8 (Nat.le_refl _)
    clear hK7 hC7 hs8 hG7 f7 x0 p0 p1
    generalize w7.setCell ⟨z, 0, none⟩ (.int .i64 BS) = w8 at *
    refine (number4_yes _ _ bn bc rb g B 16 hC8 (by omega)).mono ?_
    rintro e w9 ⟨rfl, hC9, hg9⟩
    have hK9 := hK8.kept hg9 na nb nc
    have hG9 := hup hG8 hg9 hrbz
    clear hC8 hK8 hg9 hG8
    obtain ⟨N, hN⟩ : ∃ N, Hid (N = cAt B) := ⟨cAt B, (rfl : _ = _)⟩
    rw [show val ((B.drop 16).take 4) = N from hN.out.symm]
    have hrb9 := hC9.rbl
    have hG9s : w.heap.size ≤ w9.heap.size := hG9.size
    have hzc9 := hK9.lc
    have hgl9 : g < w9.heap.size := by obtain ⟨_, _, _, hr9, _⟩ := hC9.rd; exact hr9.gl
    go_wp2_with fail
    go_loopw [25] (fun i' wr => ∃ (i : Nat) (ro : Option Addr) (rc : Nat) (rs : List Rc), i ≤ N ∧ i' = .int .u32 i ∧ Kc wr z zc (some ⟨bb, oo, none⟩) bn bc rb (.int .i64 BS) (.slice ro i rc) (.int .i64 0) ∧ Ct wr (some ⟨bb, oo, none⟩) bn bc rb g B (posAt B i) ∧ Rw wr w9.heap.size ro i rc rs ∧ (∀ j r, rs[j]? = some r → Cut wr (some ⟨bb, oo, none⟩) bc B (posAt B j) r) ∧ w.grownBy wr none ∧ w9.heap.size ≤ wr.heap.size) (fun i' _ => N - (intOf i').toNat)
    case atStart => exact ⟨0, none, 0, [], Nat.zero_le _, rfl, hK9, hC9, Rw.nil _ _, fun j r hr => by simp at hr, hG9, Nat.le_refl _⟩
    case round =>
      obtain ⟨i, ro, rc, rs, hi, rfl, hK, hC, hR, hCut, hG, hsz⟩ := hrel
      have hrl := hR.len
      by_cases hlt : i < N
      · have hd : decide ((i : Int) < (N : Int)) = true := by simp; omega
        have hib : i ≤ 10000 ∧ posAt B i ≤ bn := by
          obtain ⟨_, _, _, _, hnn⟩ := hC.rd
          have := pos_ge B i
          omega
        obtain ⟨hib, hibb⟩ := hib
        by_cases hpn : ¬ posAt B (i + 1) ≤ bn
        · go_wp2_with fail
          refine wp_region_any (by kernel_rfl) ?_
          change wpAny _ _ _ _ _ _ _ (World.drew _)
          have hd0 := grown_drew wr none
          refine reg8_no (base := 0) (rs := rs) (by kernel_rfl) (hK.kept hd0 (by simp) (by simp) (by simp)) (hC.grown hd0) (by omega) (by omega) rfl rfl rfl ?_
          intro a' w' hroom hdf t2 t3 hg
          have hKw := (hK.kept hd0 (by simp) (by simp) (by simp)).kept hg na nb nc
          have hGw := hup (grown_trans hG hd0 (by simp)) hg hrbz
          show Leaves _ _ _ _ a'.defers _ _
          rw [hdf]
          exact leaves_no w w' z _ _ _ t2 t3 (by rw [hz.out]; exact Nat.le_refl _) hKw.b0 hKw.b1 hKw.e0 hKw.fb hKw.fe hGw
        replace hpn : posAt B (i + 1) ≤ bn := by omega
        have hrr : blk ro = none ∨ blk ro ≠ some rb := by
          cases hbk : blk ro with
          | none => exact Or.inl rfl
          | some k => right; have := (hR.from_base k hbk).1; intro e; simp at e; omega
        have hro : ∀ k, k < w9.heap.size → some k ≠ blk ro := fun k hk e => by have := (hR.from_base k e.symm).1; omega
        have hra := hro z (by omega)
        have hrbb := hro (z + 1) (by omega)
        have hrc := hro zc hzc9
        go_wp2_with fail
        refine wp_region_any (by kernel_rfl) ?_
        change wpAny _ _ _ _ _ _ _ (World.drew _)
        have hd0 := grown_drew wr none
        have hKd := hK.kept hd0 (by simp) (by simp) (by simp)
        have hCd := hC.grown hd0
        have hRd := hR.kept hd0 (by cases ro; exact Or.inl rfl; right; simp [blk])
        have hGd := grown_trans hG hd0 (by simp)
        have hsd : w9.heap.size ≤ wr.drew.heap.size := hsz
        have hCutd : ∀ j r, rs[j]? = some r → Cut wr.drew (some ⟨bb, oo, none⟩) bc B (posAt B j) r := fun j r hr => (hCut j r hr).kept hd0 (fun _ _ => by simp)
        clear hK hC hR hG hCut hsz hd0
        generalize wr.drew = wd at *
        refine reg8 (by kernel_rfl) hKd hCd hRd na nb nc hrr hra hrbb hrc hpn (by omega) hsd (by omega) rfl rfl rfl ?_
        rintro ⟨tm, df⟩ w' r w2 ro' rc' w4 hsz hdf hsame hp hg hR' hw'
        have e := frame_but _ hsz hsame
        obtain ⟨v27, g27⟩ : ∃ v, tm.getD 27 undef = v := ⟨_, rfl⟩
        obtain ⟨v28, g28⟩ : ∃ v, tm.getD 28 undef = v := ⟨_, rfl⟩
        obtain ⟨v29, g29⟩ : ∃ v, tm.getD 29 undef = v := ⟨_, rfl⟩
        obtain ⟨v30, g30⟩ : ∃ v, tm.getD 30 undef = v := ⟨_, rfl⟩
        obtain ⟨v31, g31⟩ : ∃ v, tm.getD 31 undef = v := ⟨_, rfl⟩
        obtain ⟨v32, g32⟩ : ∃ v, tm.getD 32 undef = v := ⟨_, rfl⟩
        obtain ⟨v33, g33⟩ : ∃ v, tm.getD 33 undef = v := ⟨_, rfl⟩
        simp only [List.foldl_cons, List.foldl_nil, g27, g28, g29, g30, g31, g32, g33, List.setIfInBounds_toArray, List.set_cons_succ, List.set_cons_zero] at e
        cases hdf
        clear hsz hsame g27 g28 g29 g30 g31 g32 g33
        subst e
        subst hw'
        have ga := alloc_grown w2 (.cells #[.int .i64 r.t, .slice r.ko r.kn r.kc, .slice r.vo r.vn r.vc] 148)
        have hK4 := ((hKd.kept hp.gr na nb nc).kept ga (by simp) (by simp) (by simp)).kept hg hra hrbb hrc
        have hK5 := (hK4.set hzc1 (.slice ro' (i + 1) rc')).2.1
        have hs5 := setCell_grown w4 z 1 (.slice ro' (i + 1) rc')
        have hgz : some g ≠ blk ro := hro g hgl9
        have hbbz : bb < z := hbz ⟨bb, oo, none⟩ rfl
        have hbr2 : some bb ≠ blk ro := hro bb (by omega)
        have hC5 := ((hp.ct.grown ga).kept hg (fun e => hro rb hrb9 e.symm) (fun e => hgz e.symm) (fun b hb => by cases hb; exact hbr2)).kept hs5 ma mg mb
        have hR5 := hR'.kept hs5 (by
          cases hbk : blk ro' with
          | none => exact Or.inl rfl
          | some k => right; have := (hR'.from_base k hbk).1; intro e; simp at e; omega)
        have hG5 : w.grownBy (w4.setCell ⟨z, 1, none⟩ (.slice ro' (i + 1) rc')) none := by
          have y1 := grown_trans (hup hGd hp.gr hrbz) ga (by simp)
          have y2 := grown_trans y1 hg (fun k hk => Or.inr (by have := (hRd.from_base k hk).1; rw [← hz.out]; omega))
          exact hup y2 hs5 (Nat.le_refl _)
        have hcutK : ∀ W j q, Cut W (some ⟨bb, oo, none⟩) bc B j q → ∀ {W' : World} {row : Option Nat}, W.grownBy W' row → some bb ≠ row → Cut W' (some ⟨bb, oo, none⟩) bc B j q := fun W j q h W' row h2 h3 => h.kept h2 (fun b hb => by cases hb; exact h3)
        have nbb : some bb ≠ some rb := by simp; omega
        have nbz : some bb ≠ some z := by simp; omega
        have hall : ∀ j q, (rs ++ [r])[j]? = some q → Cut (w4.setCell ⟨z, 1, none⟩ (.slice ro' (i + 1) rc')) (some ⟨bb, oo, none⟩) bc B (posAt B j) q := fun j q hq => by
          have up : ∀ j q, Cut w2 (some ⟨bb, oo, none⟩) bc B j q → Cut (w4.setCell ⟨z, 1, none⟩ (.slice ro' (i + 1) rc')) (some ⟨bb, oo, none⟩) bc B j q := fun j q h => hcutK _ _ _ (hcutK _ _ _ (hcutK _ _ _ h ga (by simp)) hg hbr2) hs5 nbz
          by_cases hj : j < rs.length
          · rw [List.getElem?_append_left hj] at hq
            exact up _ _ (hcutK _ _ _ (hCutd j q hq) hp.gr nbb)
          · rw [List.getElem?_append_right (by omega)] at hq
            have hj0 : j - rs.length = 0 := by
              rcases Nat.eq_zero_or_pos (j - rs.length) with h | h
              · exact h
              · rw [List.getElem?_eq_none (by simp; omega)] at hq; cases hq
            rw [hj0] at hq
            simp at hq
            subst hq
            obtain rfl : j = i := by omega
            exact up _ _ hp.cut
        have hs9 : w9.heap.size ≤ (w4.setCell ⟨z, 1, none⟩ (.slice ro' (i + 1) rc')).heap.size := by
          have := hp.gr.size
          have := ga.size
          have := hg.size
          have := hs5.size
          omega
        clear hKd hCd hRd hGd hCutd hp hg ga hK4 hs5 hR' hcutK
        generalize w4.setCell ⟨z, 1, none⟩ (.slice ro' (i + 1) rc') = w5 at *
        go_wp2
        go_roundw
        case rel => exact ⟨i + 1, ro', rc', rs ++ [r], by omega, by go_num, hK5, hC5, hR5, hall, hG5, hs9⟩
        case measure => simp [intOf]; omega
      · obtain rfl : i = N := by omega
        have hd : decide ((i : Int) < (i : Int)) = false := by simp
        have hibb : posAt B i ≤ bn := by
          obtain ⟨_, _, _, _, hnn⟩ := hC.rd
          omega
        have hib : i ≤ 10000 := by have := pos_ge B i; omega
        have hall : ∀ j r, rs[j]? = some r → r.t = tAt B (posAt B j) ∧ r.kn = kAt B (posAt B j) ∧ r.vn = vAt B (posAt B j) := fun j r hr => by have h9 := hCut j r hr; exact ⟨h9.t, h9.kn, h9.vn⟩
        have hend : (measR BS rs).2 = 0 → posAt B i ≠ bn := fun hm he => hno (whole_of (rs := rs) h32 htop hsum (by rw [← hN.out]; exact he) (by rw [← hN.out]; exact hrl) hall (by rw [← hBS.out]; exact hm))
        have hkn : ∀ r ∈ rs, Rk wr r ∧ r.kn ≤ 1048576 ∧ r.vn ≤ 1048576 := fun r hr => by
          obtain ⟨j, hj, hjr⟩ := List.getElem_of_mem hr
          have h9 := hCut j r (by rw [List.getElem?_eq_getElem hj, hjr])
          have hlj : posAt B (j + 1) ≤ bn := Nat.le_trans (pos_mono B (by omega)) hibb
          have hpj : posAt B (j + 1) = posAt B j + 12 + kAt B (posAt B j) + vAt B (posAt B j) := rfl
          have e1 := h9.kn
          have e2 := h9.vn
          have k1 := h9.kb
          have k2 := h9.vb
          refine ⟨⟨?_, ?_, h9.key, h9.value, by omega, by omega⟩, by omega, by omega⟩
          · rw [h9.t]; unfold tAt wrap64; omega
          · rw [h9.t]; unfold tAt wrap64; omega
        have hRs := hR.shows (fun r hr => (hkn r hr).1)
        have hSm : Small rs := ⟨by omega, fun r hr => (hkn r hr).2⟩
        have x0 := hK.b0
        have x1 := hK.b1
        go_wp2_with fail
        refine (measure_any _ BS ro i rc rs hRs hSm).mono ?_
        rintro e w2 ⟨rfl, hg2⟩
        have hK2 := hK.kept hg2 (by simp) (by simp) (by simp)
        have hC2 := hC.grown hg2
        have hR2 := hR.kept hg2 (by cases ro; exact Or.inl rfl; right; simp [blk])
        have hG2 := grown_trans hG hg2 (by simp)
        have hCut2 : ∀ j r, rs[j]? = some r → Cut w2 (some ⟨bb, oo, none⟩) bc B (posAt B j) r := fun j r hr => (hCut j r hr).kept hg2 (fun _ _ => by simp)
        have hs2 := Nat.le_trans hsz hg2.size
        clear hK hC hR hG hCut hg2 hRs hSm x0 x1 hkn
        generalize measR BS rs = MM at *
        obtain ⟨SZ, MC⟩ := MM
        by_cases hm : MC = 0
        · have hne : posAt B i ≠ bn := hend hm
          subst hm
          have hs3 := setCell_grown w2 (z + 1) 0 (.int .i64 0)
          have hK3 := (hK2.set hzc1 (.int .i64 0)).2.2
          have mz1 : some (z + 1) ≠ some g := by simp; omega
          have hbbz : bb < z := hbz ⟨bb, oo, none⟩ rfl
          have hC3 := hC2.kept hs3 nb mz1 (fun b hb => by cases hb; simp; omega)
          have hG3 := hup hG2 hs3 (by omega)
          have x1 := hK2.e0
          have x2 := hK2.fe
          have x3 := hK2.c0
          have x4 := hK2.c1
          go_wp2_with fail
          obtain ⟨oE, nE, cE, hrE, hnE⟩ := hC3.rd
          refine (end_no _ rb g oE nE cE _ _ hrE (by omega)).mono ?_
          rintro e w4 ⟨rfl, hw4⟩
          subst hw4
          go_wp2_with fail
          refine (need_no _).mono ?_
          rintro e w5 ⟨rfl, hw5⟩
          subst hw5
          exact leaves_no w _ z _ _ _ rfl rfl (by rw [hz.out]; exact Nat.le_refl _) hK3.b0 hK3.b1 hK3.e0 hK3.fb hK3.fe hG3
        · have hs3 := setCell_grown w2 (z + 1) 0 (.int .i64 MC)
          have hK3 := (hK2.set hzc1 (.int .i64 MC)).2.2
          have hG3 := hup hG2 hs3 (by omega)
          have x1 := hK2.e0
          have x2 := hK2.fe
          have x3 := hK2.c0
          have x4 := hK2.c1
          have hmb : (MC == 0) = false := by simpa using hm
          go_wp2_with fail
          refine (need_no _).mono ?_
          rintro e w5 ⟨rfl, hw5⟩
          subst hw5
          exact leaves_no w _ z _ _ _ rfl rfl (by rw [hz.out]; exact Nat.le_refl _) hK3.b0 hK3.b1 hK3.e0 hK3.fb hK3.fe hG3
theorem cut_no (w : World) (bo : Option Addr) (bn bc : Nat) (B : List UInt8) (hb : Bs w bo bn bc B) (h32 : 32 ≤ bn) (htop : bn ≤ 65536) (hbc : bc ≤ 9223372036854775807) (hno : ¬ Whole B bn) :
    Calls Tryz.prog 165 #[.slice bo bn bc] w fun e w' => e = .returned (.tuple #[.agg #[.int .i64 0, .slice none 0 0], .int .i64 152]) ∧ w.grownBy w' none := by
  by_cases hsum : sAt B = sm (B.drop 8)
  · exact cut_rest w bo bn bc B hb h32 htop hbc hsum hno
  · exact cut_sum w bo bn bc B hb h32 htop hbc hsum
end Go.Proofs.YtlghcboenkglnaaGreatDoor.Rec
