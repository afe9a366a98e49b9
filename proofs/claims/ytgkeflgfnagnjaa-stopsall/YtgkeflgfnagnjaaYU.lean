/-
  StopsAll: the walk.
-/
import Derived.Test.YtgkeflgfnagnjaaYT
namespace Go.Proofs.Ytgkeflgfnagnjaa
open Go.RowKit Go.Shelf
set_option linter.unusedVariables false
set_option maxRecDepth 100000
attribute [local go_sem] Oper.semAt_some

theorem Ic.chg {w w' : World} {za zd zl zt sc cb i : Nat} {so : Option Addr} {D S : Nat → Prop} {L : List Rf} {fs : List (Int × Int)} {st : Int} (h : Ic w za zd zl zt so sc cb D L fs st i) (hc : Chg w w' S) (h1 : ¬ S za) (h2 : ¬ S zd) (h3 : ¬ S zl) (h4 : ¬ S zt) (h5 : ∀ k, blk so = some k → ¬ S k) (h6 : ∀ k, D k → ¬ S k) : Ic w' za zd zl zt so sc cb D L fs st i :=
  ⟨bx_chg h.a hc h1, bx_chg h.d hc h2, h.b.chg hc h3 h4 h5, h.p.chg hc h6⟩
theorem popped {V : World} {r D : Nat} (hD : V.heap[D]? = some (Obj.deferred (some []))) (hb : Boxed V r 4 (.bool true)) : Boxed (V.putObj D (.deferred none)) r 4 (.bool true) ∧ (∀ q, q ≠ D → V.heap[q]? = some (Obj.deferred (some [])) → (V.putObj D (.deferred none)).heap[q]? = some (Obj.deferred (some []))) ∧ V.grownBy (V.putObj D (.deferred none)) (some D) := by
  have po := grownBy_putObj' V D (.deferred none)
  exact ⟨box_own hb po (fun r e => by cases e; exact ⟨_, hD, rfl⟩), fun q hq h => heap_kept po h (by simp; omega), po⟩


set_option maxHeartbeats 32000000 in
theorem stopsAll_any {w : World} (so : Option Addr) (n sc : Nat) (X : List Ox) (hX : Oc w so n X) (lv : Int) (_ : -9223372036854775808 ≤ lv ∧ lv < 9223372036854775808) : Calls Try.prog 4 #[.slice so n sc, .int .i64 lv] w fun e w' => e = .returned (.bool true) ∧ w.grownBy w' none := by
  have ga := aGrown w (.cells #[.int .i64 lv] 3)
  have b0 := Boxed.new w 3 (.int .i64 lv)
  have gb := aGrown (w.alloc (.cells #[.int .i64 lv] 3)) (.cells #[.bool false] 4)
  have b1 := Boxed.new (w.alloc (.cells #[.int .i64 lv] 3)) 4 (.bool false)
  have hwa : (w.alloc (.cells #[.int .i64 lv] 3)).heap.size = w.heap.size + 1 := by simp
  rw [hwa] at b1
  have hG1 := grown_trans ga gb (by simp)
  have bv1 := box_own b0 gb (fun r e => by cases e)
  have HX : HidO _ := hX
  clear hX b0 ga gb hwa
  refine (callsIn_wide (n := 9)).1 ?_
  refine callsIn_of_wp_marks Try.func4 rfl trivial ?_
  simp only [Try.ntmps4, List.size_toArray, List.length_cons, List.length_nil, Nat.reduceAdd, Nat.reduceSub, Array.replicate_succ, Array.replicate_zero, List.push_toArray, List.append_toArray, List.nil_append, List.cons_append]
  gi_wp2_with fail
  obtain ⟨w1, hw1⟩ : ∃ w1, (w.alloc (.cells #[.int .i64 lv] 3)).alloc (.cells #[.bool false] 4) = w1 := ⟨_, rfl⟩
  obtain ⟨zv, hzv⟩ : ∃ zv, w.heap.size = zv := ⟨_, rfl⟩
  obtain ⟨r, hr⟩ : ∃ r, zv + 1 = r := ⟨_, rfl⟩
  rw [hw1] at hG1 b1 bv1
  rw [hzv] at b1 bv1
  rw [hr] at b1
  simp only [hw1, hzv, hr]
  have HR : HidO (w.heap.size = zv ∧ zv + 1 = r) := ⟨hzv, hr⟩
  clear hw1 hzv hr
  have hv := vast_any so n sc X (HX.out.grown hG1)
  cases hvb : vstB n X with
  | true =>
    rw [hvb] at hv
    refine ⟨trivial, callsIn_wide.2 (hv.mono ?_)⟩
    rintro e w2 ⟨rfl, hg⟩
    have hG2 := grown_trans hG1 hg (by simp)
    have b2 := box_own b1 hg (fun r e => by cases e)
    clear hv hg hG1 b1 bv1
    gi_wp2_with fail
    refine ⟨trivial, callsIn_wide.2 ((known_any _).mono ?_)⟩
    rintro e V9 ⟨rfl, hg9⟩
    have bf9 := box_own b2 hg9 (fun r e => by cases e)
    have k0 := bf9.cell
    have kf := bf9.frozen
    have b14 := bf9.set (.bool true)
    have hc := setCell_chg V9 r 0 (.bool true)
    have hGW := grown_trans hG2 hg9 (by simp)
    have hg14 : w.grownBy (V9.setCell ⟨r, 0, none⟩ (.bool true)) none := ((Chg.of_grown hGW _).trans hc).grown (fun q hq e => by have h9 : q = r := e; have := HR.out; omega)
    clear hc b2
    gi_wp2
    exact ⟨_, results_boolB (fn := Try.f4) rfl _ _ _ _ rfl b14.cell, rfl, hg14⟩
  | false =>
    rw [hvb] at hv
    obtain ⟨hn, hbn⟩ := vst_no hvb
    have HBN : HidO _ := hbn
    clear hvb hbn
    refine ⟨trivial, callsIn_wide.2 (hv.mono ?_)⟩
    rintro e w2 ⟨rfl, hg⟩
    have hG2 := grown_trans hG1 hg (by simp)
    have b2 := box_own b1 hg (fun r e => by cases e)
    have bv2 := box_own bv1 hg (fun r e => by cases e)
    clear hv hg hG1 b1 bv1
    gi_wp2_with fail
    refine ⟨trivial, callsIn_wide.2 ((both_any so n sc X (HX.out.grown hG2) hn HBN.out).mono ?_)⟩
    rintro e w3 ⟨b, rb, T0, U0, rfl, hB⟩
    have hgd := ops_gd X
    obtain ⟨L, hL⟩ : ∃ L, (ops X).1 = L := ⟨_, rfl⟩
    obtain ⟨st, hst⟩ : ∃ st, (ops X).2 = st := ⟨_, rfl⟩
    have HL : HidO ((ops X).1 = L ∧ (ops X).2 = st) := ⟨hL, hst⟩
    rw [hL] at hgd
    rw [hL, hst] at hB
    have hlw := hB.p.lw
    have gz := aGrown w3 (.cells #[.pointer (some ⟨rb, 0, none⟩)] 27)
    have bo4 := Boxed.new w3 27 (.pointer (some ⟨rb, 0, none⟩))
    have hB4 := hB.grown gz
    have b4 := box_own (box_own b2 hB.gr (fun r e => by cases e)) gz (fun r e => by cases e)
    have bv4 := box_own (box_own bv2 hB.gr (fun r e => by cases e)) gz (fun r e => by cases e)
    have hz2 : HidO (w2.heap.size ≤ w3.heap.size) := hB.gr.size
    have hT0z : HidO (∀ k, T0 k → k ≠ w3.heap.size) := fun k hk e => by have := hB.p.lt k hk; omega
    have hr2 : HidO (r < w2.heap.size ∧ zv < w2.heap.size) := ⟨b2.lt, bv2.lt⟩
    clear hL hst hB b2 bv2 gz
    gi_wp2_with fail
    obtain ⟨w4, hw4⟩ : ∃ w4, w3.alloc (.cells #[.pointer (some ⟨rb, 0, none⟩)] 27) = w4 := ⟨_, rfl⟩
    obtain ⟨zo, hzo⟩ : ∃ zo, w3.heap.size = zo := ⟨_, rfl⟩
    rw [hw4] at bo4 hB4 b4 bv4
    rw [hzo] at bo4 hz2 hT0z
    simp only [hw4, hzo]
    clear hw4 hzo
    have hT4 : HidO (∀ k, T0 k → k < w4.heap.size) := hB4.p.lt
    refine ⟨trivial, callsIn_wide.2 ((sall_p hB4.p (by omega)).mono ?_)⟩
    rintro e w5 ⟨zl, zc, so1, sc1, rfl, hA5, ha1, ha2, ha3, hg5⟩
    have hB5 := hB4.grown hg5
    have b5 := box_own b4 hg5 (fun r e => by cases e)
    have bv5 := box_own bv4 hg5 (fun r e => by cases e)
    have bo5 := box_own bo4 hg5 (fun r e => by cases e)
    clear hB4 b4 bv4 bo4
    gi_wp2_with fail
    refine ⟨trivial, callsIn_wide.2 ((images_p hB5.p (by omega)).mono ?_)⟩
    rintro e w6 ⟨za, zd, zl2, zc2, so2, sc2, cb, Dc, rfl, hI6, hi1, hi2, hi3, hi4, hi5, hi6, hg6⟩
    have hB6 := hB5.grown hg6
    have b6 := box_own b5 hg6 (fun r e => by cases e)
    have bv6 := box_own bv5 hg6 (fun r e => by cases e)
    have bo6 := box_own bo5 hg6 (fun r e => by cases e)
    have hA6 := hA5.grown hg6
    have hG6 := grown_trans hG2 hB6.gr (by simp)
    have HT : HidO (w4.heap.size ≤ w5.heap.size ∧ w5.heap.size ≤ w6.heap.size) := ⟨hg5.size, hg6.size⟩
    have heq1 := fun W => run_eql_fnB W 45 _ _ _ Try.underlying45 (.func 49) #[] #[.pointer (some ⟨zl, 0, none⟩), .pointer (some ⟨zc, 0, none⟩)]
    have heq2 := fun W => run_eql_fnB W 48 _ _ _ Try.underlying48 (.func 54) #[] #[.pointer (some ⟨za, 0, none⟩), .pointer (some ⟨zd, 0, none⟩)]
    clear hB5 b5 bv5 bo5 hA5 hg5
    gi_wp2_with fail
    have hth1 : ∀ f ∈ (cgs [] L).2, f.th = true := fun f hf => by
      rw [cgs_kp [] (fun x hx => by cases hx) hgd] at hf
      exact kpL_th L _ f hf
    have hmx : (cgs (stpL (unsF L) (mxW (unsF L))) L).2 = L.map hiF := by
      rw [stp_kp hlw (by omega) hgd (mxW_wy _)]
      exact most_hi L (fun f hf => (hgd f hf).1) (fun f hf => (hgd f hf).2)
    have hth2 : ∀ f ∈ L.map hiF, f.th = true := fun f hf => by
      obtain ⟨g, _, rfl⟩ := List.mem_map.1 hf
      rfl
    have hsz : ∀ f ∈ L, f.la ≤ f.bs.length ∧ f.bs.length ≤ 1000000000000 := fun f hf => by have := hlw.fl f hf; omega
    have hlenL : L.length ≤ 4000 := by have := hlw.len; omega
    have H1 : HidO _ := hth1
    have H2 : HidO _ := hth2
    have H3 : HidO _ := hmx
    have H4 : HidO _ := hsz
    clear heq1 heq2 hth1 hth2 hmx hsz
    refine ⟨trivial, callsIn_wide.2 ((both_any so n sc X (HX.out.grown hG6) hn HBN.out).mono ?_)⟩
    rintro e w7 ⟨b2, rb2, T2, U2, rfl, hB2⟩
    rw [HL.out.1, HL.out.2] at hB2
    have hg7 := hB2.gr
    have hP7 := hB2.p
    clear hB2
    gi_wp2_with fail
    refine ⟨trivial, callsIn_wide.2 ((least_p hP7 (by omega) hgd).mono ?_)⟩
    rintro e w8 ⟨lb, rfl, hLb, hg8⟩
    have hP8 := hP7.grown hg8
    have hg68 := grown_trans hg7 hg8 (by simp)
    clear hP7 hg7
    gi_wp2_with fail
    refine ⟨trivial, callsIn_wide.2 ((most_p hP8 (by omega) hgd).mono ?_)⟩
    rintro e w9 ⟨mb, rfl, ⟨Dm, hMb, _⟩, hg9⟩
    rw [H3.out] at hMb
    have hg69 := grown_trans hg68 hg9 (by simp)
    have co := (box_own bo6 hg69 (fun r e => by cases e)).cell
    have hL9 := hLb.grown hg9
    have hcr := crash_r (hB6.r.grown hg69) hlenL H4.out none 0 0 [] ⟨rfl, fun i x hx => by cases hx⟩ (by omega) (fun x hx => by cases hx)
    clear hP8 hLb hg8 hg68
    gi_wp2_with fail
    refine ⟨trivial, callsIn_wide.2 (hcr.mono ?_)⟩
    rintro e w10 ⟨z, vp, vo, rfl, ⟨R1, hR1, _⟩, _, hg10⟩
    have his := is_any (hL9.grown hg10) (by omega) hR1 H1.out
    have hg610 := grown_trans hg69 hg10 (by simp)
    have hM10 := hMb.grown hg10
    clear hcr co hMb hL9 hg69 hg9
    gi_wp2_with fail
    refine ⟨trivial, callsIn_wide.2 (his.mono ?_)⟩
    rintro e w11 ⟨rfl, hg11⟩
    have hg611 := grown_trans hg610 hg11 (by simp)
    have hM11 := hM10.grown hg11
    have co := (box_own bo6 hg611 (fun r e => by cases e)).cell
    have hhi := high_any (hB6.r.grown hg611) hlenL
    clear his hR1 hg610 hM10 hg10 hg11
    gi_wp2_with fail
    refine ⟨trivial, callsIn_wide.2 (hhi.mono ?_)⟩
    rintro e w12 ⟨zh, rfl, hRh, hg12⟩
    have his := is_any (hM11.grown hg12) (by omega) hRh H2.out
    have hg612 := grown_trans hg611 hg12 (by simp)
    clear hhi co hM11 hg611 hg12 hRh
    gi_wp2_with fail
    refine ⟨trivial, callsIn_wide.2 (his.mono ?_)⟩
    rintro e w13 ⟨rfl, hg13⟩
    have hg := grown_trans hg612 hg13 (by simp)
    have hB13 := hB6.grown hg
    have b13 := box_own b6 hg (fun r e => by cases e)
    have bv13 := box_own bv6 hg (fun r e => by cases e)
    have bo13 := box_own bo6 hg (fun r e => by cases e)
    have hA13 := hA6.grown hg
    have hI13 := hI6.grown hg
    have hzd := hI6.d.lt
    have hza := hI6.a.lt
    have hsz6 := hg.size
    have hpe : 5 < 6 := by decide
    clear his hg612 hg13 hB6 b6 bv6 bo6 hA6 hI6
    gi_wp2_with fail
    refine ⟨trivial, callsIn_wide.2 ((cre_P hB13.p (by omega) _).mono ?_)⟩
    rintro e w14 ⟨he, ⟨T1, hP14, hT1⟩, hC14⟩
    obtain ⟨cc1, rfl⟩ : ∃ c, e = .returned (.int .i64 c) := ⟨_, he⟩
    rw [creA_fs] at hP14
    have HP14 : HidO _ := hP14
    have N1 : HidO (∀ k, (k = r ∨ k = zv ∨ k = zo ∨ w4.heap.size ≤ k) → ¬ T0 k) := fun k hk ht => by
      have h1 := hB13.tn k ht
      have h2 := hr2.out
      rcases hk with hk | hk | hk | hk
      · omega
      · omega
      · exact hT0z.out k ht hk
      · have := hT4.out k ht; omega
    have n45 := HT.out
    have b14 := bx_chg b13 hC14 (N1.out _ (.inl rfl))
    have bv14 := bx_chg bv13 hC14 (N1.out _ (.inr (.inl rfl)))
    have bo14 := bx_chg bo13 hC14 (N1.out _ (.inr (.inr (.inl rfl))))
    have hA14 := hA13.chg hC14 (N1.out _ (.inr (.inr (.inr (by omega))))) (N1.out _ (.inr (.inr (.inr (by omega))))) (fun k hk => N1.out _ (.inr (.inr (.inr (by have := ha3 k hk; omega)))))
    have hI14 := hI13.chg hC14 (N1.out _ (.inr (.inr (.inr (by omega))))) (N1.out _ (.inr (.inr (.inr (by omega))))) (N1.out _ (.inr (.inr (.inr (by omega))))) (N1.out _ (.inr (.inr (.inr (by omega))))) (fun k hk => N1.out _ (.inr (.inr (.inr (by have := hi6 k hk; omega))))) (fun k hk => N1.out _ (.inr (.inr (.inr (by have := hi1 k hk; omega)))))
    have hR14 := hB13.r.chg hC14 (fun k hk e => hB13.ap k e hk)
    have hG14 : w.grownBy w14 none := ((Chg.of_grown (grown_trans hG6 hg (by simp)) _).trans hC14).grown (fun q hq e => by
      have h1 := hB13.tn q e
      have h2 := hG2.size
      omega)
    have N2 : HidO (∀ k, k < w13.heap.size → ¬ T0 k → ¬ T1 k) := fun k hk hn ht => by
      rcases hT1 k ht with h | h
      · exact hn h
      · omega
    have hRU : HidO (∀ k, U0 k → ¬ T1 k) := fun k hk ht => by
      rcases hT1 k ht with h | h
      · exact hB13.ap k h hk
      · have := hB13.r.lt k hk; omega
    have hT1w : HidO (∀ k, T1 k → w.heap.size ≤ k) := fun k ht => by
      rcases hT1 k ht with h | h
      · have h1 := hB13.tn k h
        have h2 := hG2.size
        omega
      · have h2 := (grown_trans hG6 hg (by simp)).size
        omega
    have kc := Lib.run_convert_bytes_const (P := Try.prog) w14 56 5 #[.int .u8 109, .int .u8 111, .int .u8 114, .int .u8 101] 4 4 Try.underlying56 Try.underlying5
    have g15 := aGrown w14 (.cells #[.int .u8 109, .int .u8 111, .int .u8 114, .int .u8 101] 5 (4, 5))
    have k15 := heap_alloc_new w14 (.cells #[.int .u8 109, .int .u8 111, .int .u8 114, .int .u8 101] 5 (4, 5))
    have hap := app_P (HP14.out.grown g15) (by omega) ⟨#[122, 122, 45, 111, 116, 104, 101, 114]⟩ (bs_ofO (l := [109, 111, 114, 101]) k15 rfl (by decide)) (by decide) (fun a e => by cases e; exact .inr (fun ht => Nat.lt_irrefl _ (HP14.out.lt _ ht)))
    have hb13 : HidO (r < w13.heap.size ∧ zv < w13.heap.size ∧ zo < w13.heap.size) := ⟨b13.lt, bv13.lt, bo13.lt⟩
    have hA13l := hA13
    have HA13 : HidO _ := hA13l
    have HI13 : HidO _ := hI13
    clear he hP14 hT1 hC14 hB13 hA13 hA13l hI13 b13 bv13 bo13 k15 n45
    gi_wp2_with fail
    clear kc
    obtain ⟨w15, hw15⟩ : ∃ w15, w14.alloc (.cells #[.int .u8 109, .int .u8 111, .int .u8 114, .int .u8 101] 5 (4, 5)) = w15 := ⟨_, rfl⟩
    rw [hw15] at g15 hap
    simp only [hw15]
    clear hw15
    refine ⟨trivial, callsIn_wide.2 (hap.mono ?_)⟩
    rintro e w16 ⟨he, ⟨T2, _, _⟩, hC16⟩
    obtain ⟨cc2, rfl⟩ : ∃ c, e = .returned (.int .i64 c) := ⟨_, he⟩
    have n45 := HT.out
    have n13 := hb13.out
    have hAl := HA13.out.l.lt
    have hAt := HA13.out.t.lt
    have hAs := HA13.out.s
    have hIa := HI13.out.a.lt
    have hId := HI13.out.d.lt
    have hIl := HI13.out.b.l.lt
    have hIt := HI13.out.b.t.lt
    have hIs := HI13.out.b.s
    have hIp := HI13.out.p.lt
    have M1 : ∀ k, k < w13.heap.size → w4.heap.size ≤ k → ¬ T1 k := fun k h1 h2 => N2.out k h1 (N1.out k (.inr (.inr (.inr h2))))
    have b16 := bx_chg (box_own b14 g15 (fun r e => by cases e)) hC16 (N2.out _ n13.1 (N1.out _ (.inl rfl)))
    have bv16 := bx_chg (box_own bv14 g15 (fun r e => by cases e)) hC16 (N2.out _ n13.2.1 (N1.out _ (.inr (.inl rfl))))
    have bo16 := bx_chg (box_own bo14 g15 (fun r e => by cases e)) hC16 (N2.out _ n13.2.2 (N1.out _ (.inr (.inr (.inl rfl)))))
    have hA16 := (hA14.grown g15).chg hC16 (M1 _ hAl (by omega)) (M1 _ hAt (by omega)) (fun k hk => M1 _ (hAs k hk) (by have := ha3 k hk; omega))
    have hI16 := (hI14.grown g15).chg hC16 (M1 _ hIa (by omega)) (M1 _ hId (by omega)) (M1 _ hIl (by omega)) (M1 _ hIt (by omega)) (fun k hk => M1 _ (hIs k hk) (by have := hi6 k hk; omega)) (fun k hk => M1 _ (hIp k hk) (by have := hi1 k hk; omega))
    have hR16 := (hR14.grown g15).chg hC16 hRU.out
    have hG16 : w.grownBy w16 none := ((Chg.of_grown (grown_trans hG14 g15 (by simp)) _).trans hC16).grown (fun q hq e => by have := hT1w.out q e; omega)
    clear he hap hC16 b14 bv14 bo14 hA14 hI14 hR14 hG14 g15 M1 hAl hAt hAs hIa hId hIl hIt hIs hIp n13 n45
    have gt := aGrown w16 (.cells #[.int .i64 0] 3)
    have bt := Boxed.new w16 3 (.int .i64 0)
    gi_wp2_with fail
    obtain ⟨w17, hw17⟩ : ∃ w17, w16.alloc (.cells #[.int .i64 0] 3) = w17 := ⟨_, rfl⟩
    obtain ⟨zt, hzt⟩ : ∃ zt, w16.heap.size = zt := ⟨_, rfl⟩
    rw [hw17] at gt bt
    rw [hzt] at bt
    simp only [hw17, hzt]
    clear hw17 hzt
    have b17 := box_own b16 gt (fun r e => by cases e)
    have bv17 := box_own bv16 gt (fun r e => by cases e)
    have bo17 := box_own bo16 gt (fun r e => by cases e)
    have hA17 := hA16.grown gt
    have hI17 := hI16.grown gt
    have hR17 := hR16.grown gt
    have hG17 := grown_trans hG16 gt (by simp)
    clear b16 bv16 bo16 hA16 hI16 hR16 hG16 gt
    refine wpIn_loop_rounds 3 ?_
    rw [roundsIn_succ]
    refine turnX rfl (.inl rfl) hlw (by omega) hgd b17 bv17 bo17 bt hR17 hA17 hI17 _ _ ?_
    intro f1 D1 D2 zt1 V1 hD1 hD12 hK1 hK2 hg1 bt1
    simp only [Exit.then]
    rw [roundsIn_succ]
    refine turnX rfl (.inr (by rfl)) hlw (by omega) hgd (box_own b17 hg1 (fun r e => by cases e)) (box_own bv17 hg1 (fun r e => by cases e)) (box_own bo17 hg1 (fun r e => by cases e)) bt1 (hR17.grown hg1) (hA17.grown hg1) (hI17.grown hg1) _ _ ?_
    intro f2 D3 D4 zt2 V2 hD3 hD34 hK3 hK4 hg2 bt2
    simp only [Exit.then]
    rw [roundsIn_succ]
    have hs17 := hG17.size
    have hs1 := (Array.getElem?_eq_some_iff.1 hK2).1
    have hDD : HidO (w.heap.size ≤ D1 ∧ D1 < D2 ∧ D2 < D3 ∧ D3 < D4) := ⟨by omega, hD12, by omega, hD34⟩
    have hG2x := grown_trans hG17 (grown_trans hg1 hg2 (by simp)) (by simp)
    have b2x := box_own (box_own b17 hg1 (fun r e => by cases e)) hg2 (fun r e => by cases e)
    have K1 : HidO _ := heap_kept hg2 hK1 (by simp)
    have K2 : HidO _ := heap_kept hg2 hK2 (by simp)
    have K3 : HidO _ := hK3
    have K4 : HidO _ := hK4
    have kt := bt2.cell
    clear hs17 hs1 hD12 hD34 hD3 hD1 hG17 hg1 hg2 b17 bv17 bo17 bt bt1 hR17 hA17 hI17 hK1 hK2 hK3 hK4
    gi_wp2_with fail
    refine ⟨trivial, callsIn_wide.2 ((known_any _).mono ?_)⟩
    rintro e V9 ⟨rfl, hg9⟩
    have bf9 := box_own b2x hg9 (fun r e => by cases e)
    have k0 := bf9.cell
    have kf := bf9.frozen
    have b14 := bf9.set (.bool true)
    have hc := setCell_chg V9 r 0 (.bool true)
    have hGW := grown_trans hG2x hg9 (by simp)
    have hg14 : w.grownBy (V9.setCell ⟨r, 0, none⟩ (.bool true)) none := ((Chg.of_grown hGW _).trans hc).grown (fun q hq e => by have h9 : q = r := e; have := HR.out; omega)
    have hdk : ∀ D, V2.heap[D]? = some (Obj.deferred (some [])) → (V9.setCell ⟨r, 0, none⟩ (.bool true)).heap[D]? = some (Obj.deferred (some [])) := fun D h => by
      have h1 := heap_kept hg9 h (by simp)
      have hne : D ≠ r := fun e => by subst e; rw [show V9.heap[D]? = _ from bf9] at h1; cases h1
      exact (Below.heap_setCell _ _ _ _ hne).trans h1
    have e1 : HidO _ := hdk _ K1.out
    have e2 : HidO _ := hdk _ K2.out
    have e3 : HidO _ := hdk _ K3.out
    have e4 : HidO _ := hdk _ K4.out
    clear hc b2x hdk bf9 hGW hg9 hG2x
    gi_wp2
    have d := hDD.out
    obtain ⟨p1, p2, p3⟩ := popped e4.out b14
    refine ⟨by simp, .inl ⟨_, _, rfl, run_takeDeferred e4.out, ?_⟩⟩
    have q3 := p2 D3 (by omega) e3.out
    have q2 := p2 D2 (by omega) e2.out
    have q1 := p2 D1 (by omega) e1.out
    obtain ⟨p4, p5, p6⟩ := popped q3 p1
    refine ⟨by simp, .inl ⟨_, _, rfl, run_takeDeferred q3, ?_⟩⟩
    have r2 := p5 D2 (by omega) q2
    have r1 := p5 D1 (by omega) q1
    obtain ⟨p7, p8, p9⟩ := popped r2 p4
    refine ⟨by simp, .inl ⟨_, _, rfl, run_takeDeferred r2, ?_⟩⟩
    have s1 := p8 D1 (by omega) r1
    obtain ⟨pa, pb, pc⟩ := popped s1 p7
    refine ⟨by simp, .inl ⟨_, _, rfl, run_takeDeferred s1, ?_⟩⟩
    exact ⟨_, results_boolB (fn := Try.f4) rfl _ _ _ _ rfl pa.cell, rfl, grown_trans (grown_trans (grown_trans (grown_trans hg14 p3 (fun k e => Or.inr (by cases e; omega))) p6 (fun k e => Or.inr (by cases e; omega))) p9 (fun k e => Or.inr (by cases e; omega))) pc (fun k e => Or.inr (by cases e; omega))⟩
end Go.Proofs.Ytgkeflgfnagnjaa
