/-
  DiskSynced: the walk.
-/
import Derived.Test.YthkbakaodbceiaaL2
import Derived.Test.YthkbakaodbceiaaJ4
import Derived.Test.YthkbakaodbceiaaG5
namespace Go.Proofs.Ythkbakaodbceiaa
open Go.RowKit Go.Maps Go.WideMaps Go.Sort Go.Shelf
set_option linter.unusedVariables false

theorem row_cell {w : World} {base n c : Nat} {ao : Option Addr} {xs : List ByteArray} (h : w.ownsRow base 9 1 (.slice ao n c) n (xs.map .string)) (hl : xs.length = n) {j : Nat} {x : ByteArray} (hx : xs[j]? = some x) : ∃ q, ao = some ⟨q, 0, none⟩ ∧ n ≤ c ∧ c ≤ maxLen ∧ w.cell? ⟨q, j, none⟩ = some (.string x) := by
  have hj : j < xs.length := (List.getElem?_eq_some_iff.1 hx).1
  rcases h.2 with ⟨h4, rfl⟩ | ⟨g, cap, cur, hv, hbg, hg, h1, h2, h3, h4⟩
  · omega
  · cases hv
    refine ⟨g, rfl, h1, h2, ?_⟩
    have g0 : (xs.map Value.string)[j]? = some (.string x) := by rw [List.getElem?_map, hx]; rfl
    rw [← h4, List.getElem?_take, if_pos (by omega)] at g0
    rw [cell_at hg]
    simpa using g0

/-- The calls that are no Feed. -/
def nof (l : List Sx) : List Sx := l.filter (fun x => x.kd != 9)
theorem nof_snoc (l : List Sx) (x : Sx) : nof (l ++ [x]) = if x.kd = 9 then nof l else nof l ++ [x] := by
  unfold nof
  rw [List.filter_append]
  by_cases e : x.kd = 9
  · have : (x.kd != 9) = false := by simp [e]
    simp [List.filter, e]
  · have : (x.kd != 9) = true := by simp [e]
    simp [List.filter, this, e]
theorem nof_len (l : List Sx) : (nof l).length ≤ l.length := List.length_filter_le _ _

/-- Where the first loop stands. -/
def L5 (w wr : World) (l : List Sx) (i : Nat) (v : Value) : Prop := w.grownBy wr none ∧ wr.ownsRow w.heap.size 41 7 v (nof (l.take i)).length (sxs (nof (l.take i)))
theorem own_base {w : World} {base n sz : Nat} {t : TypeId} {v : Value} {xs : List Value} (h : w.ownsRow base t sz v n xs) : ∀ k, v.ownBlock = some k → base ≤ k := by
  intro k hk
  rcases h.2 with ⟨rfl, _⟩ | ⟨g, c, cur, rfl, hb, _⟩
  · cases hk
  · cases hk; exact hb
theorem row_grown {A V : World} {base n sz : Nat} {t : TypeId} {v : Value} {xs : List Value} (h : A.ownsRow base t sz v n xs) (hg : A.grownBy V none) : V.ownsRow base t sz v n xs := by
  refine ⟨h.1, ?_⟩
  rcases h.2 with h2 | ⟨g, c, cur, hv, hb, h6, h7⟩
  · exact .inl h2
  · exact .inr ⟨g, c, cur, hv, hb, (hg.block g (Array.getElem?_eq_some_iff.1 h6).1 (by simp)).trans h6, h7⟩

/-- Where the second loop stands. -/
def L6 (w wr : World) (b m base n k : Nat) (D : DataW Unit) (X : Nat → Fm) (B : Nat → List UInt8) (z : Nat) (v : Value) (nms : List ByteArray) (j : Nat) : Prop :=
  w.grownBy wr none ∧ wr.ownsRow z 9 1 v nms.length (nms.map .string) ∧ ∃ st X', Iv wr b m base [] st n D X' B (k + j) ∧ Sy D X X' (nms.take j)

set_option maxRecDepth 100000 in
set_option maxHeartbeats 16000000 in
theorem diskSynced_any {w : World} {so : Option Addr} {sn sc : Nat} {l : List Sx} (hS : Sl w so sn sc l) {o1 : Option Addr} {n1 c1 : Nat} {l1 : List Int} (h1 : Is' w o1 n1 c1 l1) (hb1 : ∀ a, o1 = some a → a.block < w.heap.size) (hr1 : ∀ x ∈ l1, x < 9223372036854775808)
    {o2 : Option Addr} {n2 c2 : Nat} {l2 : List Int} (h2 : Is' w o2 n2 c2 l2) (hb2 : ∀ a, o2 = some a → a.block < w.heap.size) (hr2 : ∀ x ∈ l2, x < 9223372036854775808) :
    Calls Try.prog 5 #[.slice so sn sc, .slice o1 n1 c1, .slice o2 n2 c2] w fun e w' => e = .returned (.bool true) ∧ w.grownBy w' none := by
  have hva := vast_any hS
  cases hv : vR l with
  | true =>
    rw [hv] at hva
    clear hS h1 h2 hb1 hb2 hr1 hr2
    go_enter Try.func5, Try.ntmps5
    go_wp2_with fail
    refine hva.mono ?_
    rintro e w2 ⟨rfl, hg2⟩
    go_wp2_with fail
    refine (known_any _).mono ?_
    rintro e w3 ⟨rfl, hg3⟩
    have hG := grown_trans hg2 hg3 (by simp)
    go_wp2
    go_ret
    exact ⟨rfl, hG⟩
  | false =>
    rw [hv] at hva
    by_cases hn1 : 300 < n1
    · have d1 : decide ((300 : Int) < (n1 : Int)) = true := by simp; omega
      have d2 : decide (300 < n1) = true := by simpa using hn1
      clear hS h1 h2 hb1 hb2 hr1 hr2
      go_enter Try.func5, Try.ntmps5
      go_wp2_with fail
      refine hva.mono ?_
      rintro e w2 ⟨rfl, hg2⟩
      go_wp2_with fail
      refine (known_any _).mono ?_
      rintro e w3 ⟨rfl, hg3⟩
      have hG := grown_trans hg2 hg3 (by simp)
      go_wp2
      go_ret
      exact ⟨rfl, hG⟩
    have d1 : decide ((300 : Int) < (n1 : Int)) = false := by simp; omega
    have d2 : decide (300 < n1) = false := by simpa using hn1
    by_cases hn2 : 300 < n2
    · have d3 : decide ((300 : Int) < (n2 : Int)) = true := by simp; omega
      have d4 : decide (300 < n2) = true := by simpa using hn2
      clear hS h1 h2 hb1 hb2 hr1 hr2
      go_enter Try.func5, Try.ntmps5
      go_wp2_with fail
      refine hva.mono ?_
      rintro e w2 ⟨rfl, hg2⟩
      go_wp2_with fail
      refine (known_any _).mono ?_
      rintro e w3 ⟨rfl, hg3⟩
      have hG := grown_trans hg2 hg3 (by simp)
      go_wp2
      go_ret
      exact ⟨rfl, hG⟩
    have d3 : decide ((300 : Int) < (n2 : Int)) = false := by simp; omega
    have d4 : decide (300 < n2) = false := by simpa using hn2
    obtain ⟨hl300, hb3⟩ := vR_false hv
    have hlen := hS.len
    have hroom := hS.room
    have htop := hS.top
    unfold maxLen at htop
    have HS : Hid _ := hS
    have HB3 : Hid _ := hb3
    have H1 : Hid _ := h1
    have H2 : Hid _ := h2
    have HB1 : Hid _ := hb1
    have HB2 : Hid _ := hb2
    have HR1 : Hid _ := hr1
    have HR2 : Hid _ := hr2
    clear hS h1 h2 hb1 hb2 hr1 hr2 hb3 hv
    go_enter Try.func5, Try.ntmps5
    go_wp2_with fail
    refine hva.mono ?_
    clear hva
    rintro e w2 ⟨rfl, hg2⟩
    have hL0 : L5 w w2 l 0 (.slice none 0 0) := ⟨hg2, by simpa [nof, sxs] using World.ownsRow_nil _ _ _ _⟩
    clear hg2
    go_wp2_with fail
    go_loopw [7, 8] (fun v i' wr => ∃ i : Nat, i' = .int .i64 i ∧ i ≤ sn ∧ L5 w wr l i v) (fun _ i _ => sn - (intOf i).toNat)
    case atStart => exact ⟨0, rfl, Nat.zero_le _, hL0⟩
    case round =>
      obtain ⟨i, rfl, hin, hL⟩ := hrel
      obtain ⟨hgw, hrow⟩ := hL
      have hnl : (nof (l.take i)).length ≤ i := Nat.le_trans (nof_len _) (by simp; omega)
      by_cases hlt : i < sn
      · have dl : decide ((i : Int) < (sn : Int)) = true := by simp; omega
        have dl2 : decide (i < sn) = true := by simpa using hlt
        cases so with
        | none => exfalso; have := HS.out.nil rfl; omega
        | some sa =>
          obtain ⟨ob, oi, rfl⟩ := HS.out.pl sa rfl
          have hil : i < l.length := by omega
          have hc := (HS.out.k ob oi rfl i l[i] (by simp [hil])).grown hgw
          have htk : l.take (i + 1) = l.take i ++ [l[i]] := by rw [List.take_add_one, List.getElem?_eq_getElem hil]; rfl
          have hsn := nof_snoc (l.take i) l[i]
          rw [← htk] at hsn
          have HSN : Hid _ := hsn
          clear hsn htk
          generalize l[i] = x at *
          have c0 := hc.c0
          have c1' := hc.c1
          have c2' := hc.c2
          have c3 := hc.c3
          have c4 := hc.c4
          have c5 := hc.c5
          have c6 := hc.c6
          have wz : IntKind.i64.wrap ((i : Int) + 1) = ((i + 1 : Nat) : Int) := by rw [IntWalk.i64_in _ (by omega)]; push_cast; rfl
          clear hc
          by_cases e9 : x.kd = 9
          · have n9 : (x.kd == 9) = true := by simpa using e9
            have hL : L5 w wr l (i + 1) u7 := by
              have := HSN.out
              rw [if_pos e9] at this
              exact ⟨hgw, by rw [this]; exact hrow⟩
            rw [e9] at c0
            clear hrow HSN
            go_wp2
            go_roundw
            case rel => exact ⟨i + 1, by first | rfl | simp, by omega, hL⟩
            case measure => simp [intOf]; omega
          · have n9 : (x.kd == 9) = false := by simpa using e9
            obtain ⟨inf, hi, hz', hz1, hz2⟩ := info41_parts
            have hga := alloc_grown wr (.cells #[.int .i64 x.kd, .int .i64 x.pl, .int .i64 x.nn, .string x.nm, .slice x.bo x.bn x.bc, .slice x.fo x.fn x.fc, .slice x.po x.pn x.pc] 41)
            have hrow' := row_grown hrow hga
            have hws := hgw.size
            have hnews : ∀ (j : Nat) u, (sxc x)[j]? = some u → (wr.alloc (.cells #[.int .i64 x.kd, .int .i64 x.pl, .int .i64 x.nn, .string x.nm, .slice x.bo x.bn x.bc, .slice x.fo x.fn x.fc, .slice x.po x.pn x.pc] 41)).cell? ((⟨wr.heap.size, 0, none⟩ : Addr).add j) = some u := fun j u hu => by
              rw [Addr.add_lit, Nat.zero_add, cell_at (World.alloc_heap_new wr _)]
              simpa [sxc] using hu
            have h300 : (nof (l.take i)).length ≤ 300 := by omega
            have HN : Hid _ := hnews
            clear hnews
            go_wp2_with (at_builtin; (refine wpList_append_own _ rfl _ _ 23 rfl w.heap.size 41 inf _ 7 112 Try.underlying23 hi hz' hz1 hz2 rfl (by decide) _ _ _ rfl hrow' ⟨wr.heap.size, 0, none⟩ 1 1 (sxc x) rfl rfl HN.out (sxc_one x) (by unfold maxLen; omega) (by omega) (by simp; omega) ?_))
            intro v' W2 hown hg2 _
            have hL : L5 w W2 l (i + 1) v' := by
              have := HSN.out
              rw [if_neg e9] at this
              refine ⟨grown_trans (grown_trans hgw hga (by simp)) hg2 (fun k hk => .inr (own_base hrow k hk)), ?_⟩
              rw [this, sxs_snoc, List.length_append]
              exact hown
            clear hrow hrow' hown hg2 hga HSN HN
            go_wp2
            go_roundw
            case rel => exact ⟨i + 1, by first | rfl | simp, by omega, hL⟩
            case measure => simp [intOf]; omega
      · obtain rfl : i = sn := by omega
        have dl : decide ((i : Int) < (i : Int)) = false := by simp
        have htl : l.take i = l := List.take_of_length_le (by omega)
        rw [htl] at hrow hnl
        obtain ⟨o7, c7, rfl, hS7⟩ := Sl.of_row rfl hrow (fun x hx => by
          obtain ⟨t, ht⟩ := HS.out.bs x (List.mem_filter.1 hx).1
          exact ⟨t, ht.grown hgw⟩)
        have hplay := play_bare hS7 (by omega) (fun x hx => HB3.out x (List.mem_filter.1 hx).1) (fun x hx => by simpa using (List.mem_filter.1 hx).2)
        have hws := hgw.size
        clear hrow hS7 htl
        generalize (nof l).length = k at *
        go_wp2_with fail
        refine hplay.mono ?_
        clear hplay
        rintro e w10 ⟨b, rfl, m, hgp, st, n, D, X, B, hI⟩
        have hG10 := grown_trans hgw hgp (by simp)
        have hbase := hI.bs
        have hnm := names_any hI.ds (toldX D X) (hI.filesB (by omega)).files (by have := hI.sz; omega)
        clear hgp
        go_wp2_with fail
        refine hnm.mono ?_
        clear hnm
        rintro e w11 ⟨v, rfl, ss, hperm, hrow, hg11⟩
        have hG11 := grown_trans hG10 hg11 (by simp)
        have hI11 := hI.grown hg11
        obtain ⟨z, hz⟩ : ∃ z, w10.heap.size = z := ⟨_, rfl⟩
        rw [hz] at hrow
        have hzb : ∀ s g, at? D s (some g) → g < z := fun s g hg => by rw [← hz]; exact (hI.fl s g hg).lt
        have hbz : b < z := by rw [← hz]; obtain ⟨fo, fn, fc, hd⟩ := hI.ds.dk; exact hd.hd.lt
        have HZ : Hid _ := hzb
        have hnall : Hid (∀ s g, at? D s (some g) → (X g).th = true → s ∈ nmsL ((ss.mergeSort (fun x y => decide (x ≤ y))).map (toldX D X))) := fun s g hg ht => nm_all hperm hg ht
        have hnat : Hid (∀ s ∈ nmsL ((ss.mergeSort (fun x y => decide (x ≤ y))).map (toldX D X)), ∃ g, at? D s (some g) ∧ (X g).th = true) := fun s hs => nm_at hI.ds.mp hI.nz hperm hs
        have hnk : (nmsL ((ss.mergeSort (fun x y => decide (x ≤ y))).map (toldX D X))).length ≤ 300 := by
          unfold nmsL
          have h1 := List.length_filter_le (fun t : Td => t.th) ((ss.mergeSort (fun x y => decide (x ≤ y))).map (toldX D X))
          have h2 := hperm.length_eq
          have h3 := strKeys_len D
          have h4 := hI.sz
          simp at h1 ⊢
          omega
        generalize nmsL ((ss.mergeSort (fun x y => decide (x ≤ y))).map (toldX D X)) = nms at *
        have hL6 : L6 w w11 b m wr.heap.size n k D X B z v nms 0 := ⟨hG11, hrow, st, X, hI11, Sy.start D X⟩
        obtain ⟨o10, c10, rfl⟩ := row_slice hrow
        obtain ⟨nn, hnn⟩ : ∃ nn, nms.length = nn := ⟨_, rfl⟩
        rw [hnn]
        have HNN : Hid _ := hnn
        have HBS : Hid (wr.heap.size ≤ w10.heap.size) := hbase
        have hnk2 : nn ≤ 300 := by omega
        have hc10 : nn ≤ c10 ∧ c10 ≤ maxLen := by
          rcases hrow.2 with ⟨h4, h5⟩ | ⟨g, cap, cur, hv, hbg, hg, h1, h2, _⟩
          · injection h4 with _ e2 e3; omega
          · injection hv with _ e2 e3; omega
        unfold maxLen at hc10
        obtain ⟨hc10a, hc10b⟩ := hc10
        obtain ⟨base, hbs⟩ : ∃ base, wr.heap.size = base := ⟨_, rfl⟩
        rw [hbs] at hL6
        have hbase2 : w.heap.size ≤ base := by omega
        clear hI hI11 hrow hg11 hG11 hG10 hnn hz hzb hperm hbase hgw hws hbs hnk
        go_wp2_with fail
        go_loopw [11] (fun i' wr => ∃ j : Nat, i' = .int .i64 j ∧ j ≤ nn ∧ L6 w wr b m base n k D X B z (.slice o10 nn c10) nms j) (fun i' _ => nn - (intOf i').toNat)
        case atStart => exact ⟨0, rfl, Nat.zero_le _, by rw [← HNN.out]; exact hL6⟩
        case round =>
          obtain ⟨j, rfl, hj, hgw, hrow, st', X', hI, hSy⟩ := hrel
          have hlb := hI.lb
          have hlm := hI.lm
          rw [HNN.out] at hrow
          by_cases hlt : j < nn
          · have dl : decide ((j : Int) < (nn : Int)) = true := by simp; omega
            have dl2 : decide (j < nn) = true := by simpa using hlt
            obtain ⟨x, hx⟩ : ∃ x, nms[j]? = some x := ⟨_, List.getElem?_eq_getElem (by have := HNN.out; omega)⟩
            obtain ⟨q, rfl, _, _, hcell⟩ := row_cell hrow HNN.out hx
            obtain ⟨g, hg, ht⟩ := hnat.out x (List.mem_of_getElem? hx)
            have hsy := sync_last hI (by omega) hg (by rw [hSy.th]; exact ht)
            have hlo := hI.lo x g hg
            have wz : IntKind.i64.wrap ((j : Int) + 1) = ((j + 1 : Nat) : Int) := by rw [IntWalk.i64_in _ (by omega)]; push_cast; rfl
            have htk : nms.take (j + 1) = nms.take j ++ [x] := by rw [List.take_add_one, hx]; rfl
            have hSy' := hSy.next hg
            rw [← htk] at hSy'
            have HX : Hid _ := hx
            clear htk hI hx
            go_wp2_with fail
            refine hsy.mono ?_
            clear hsy
            rintro e w12 ⟨rfl, hI', hC⟩
            have hBe : (fun k => if k = g then B g else B k) = B := by
              funext k
              by_cases e : k = g
              · subst e; simp
              · rw [if_neg e]
            rw [hBe] at hI'
            have hL : L6 w w12 b m base n k D X B z (.slice (some ⟨q, 0, none⟩) nn c10) nms (j + 1) := by
              refine ⟨grown_base hgw (hC.mono (fun q _ e => by omega)) hbase2, ?_, _, _, hI', hSy'⟩
              rw [HNN.out]
              refine row_chg hrow hC (fun q' hq e => ?_)
              have h1 := (row_blk hrow q' hq).1
              have h2 := HZ.out x g hg
              omega
            clear hI' hC hBe hrow hSy hSy' hcell
            go_wp2
            go_roundw
            case rel => exact ⟨j + 1, by first | rfl | simp, by omega, hL⟩
            case measure => simp [intOf]; omega
          · obtain rfl : j = nn := by omega
            have dl : decide ((j : Int) < (j : Int)) = false := by simp
            have hsd := syncdir_firm hI (by omega) (fun s g hg ht => hSy.la s (by rw [List.take_of_length_le (by have := HNN.out; omega)]; exact hnall.out s g hg (by rw [← hSy.th]; exact ht)) g hg)
            clear hI hrow hSy
            go_wp2_with fail
            refine hsd.mono ?_
            clear hsd
            rintro e w13 ⟨rfl, ⟨D2, X2, hI2, hF2⟩, hC⟩
            have hG13 := grown_base hgw hC hbase2
            have hc1 := crash_left hI2 (by omega) hF2 o1 n1 c1 l1 (H1.out.grown hG13) (fun a e => Nat.lt_of_lt_of_le (HB1.out a e) hG13.size) HR1.out (by omega)
            have HI2 : Hid _ := hI2
            clear hC hI2
            go_wp2_with fail
            refine hc1.mono ?_
            clear hc1
            rintro e w14 ⟨v1, q1, rfl, hL1, hg14⟩
            have hG14 := grown_trans hG13 hg14 (by simp)
            have hc2 := crash_left (HI2.out.grown hg14) (by omega) hF2 o2 n2 c2 l2 (H2.out.grown hG14) (fun a e => Nat.lt_of_lt_of_le (HB2.out a e) hG14.size) HR2.out (by omega)
            have HL1 : Hid _ := hL1
            clear hL1
            go_wp2_with fail
            refine hc2.mono ?_
            clear hc2
            rintro e w15 ⟨v2, q2, rfl, hL2, hg15⟩
            have hG15 := grown_trans hG14 hg15 (by simp)
            have hL1 := Left.grown (w := w13) HL1.out hg15
            have hIf := HI2.out.grown (grown_trans hg14 hg15 (by simp))
            have hFd := hIf.fz hF2
            clear HI2 HL1 hg14 hg15 hF2
            rcases hL1 with ⟨rfl, rfl⟩ | ⟨rfl, nb, nm, n', D', rfl, k1, k2⟩
            · rcases hL2 with ⟨rfl, rfl⟩ | ⟨rfl, nb', nm', n'', D'', rfl, k3, k4⟩
              · go_wp2_with fail
                refine (known_any _).mono ?_
                rintro e w16 ⟨rfl, hg16⟩
                have hG := grown_trans hG15 hg16 (by simp)
                go_wp2
                go_ret
                exact ⟨rfl, hG⟩
              · clear k3 k4
                go_wp2_with fail
                refine (known_any _).mono ?_
                rintro e w16 ⟨rfl, hg16⟩
                have hG := grown_trans hG15 hg16 (by simp)
                go_wp2
                go_ret
                exact ⟨rfl, hG⟩
            · rcases hL2 with ⟨rfl, rfl⟩ | ⟨rfl, nb', nm', n'', D'', rfl, k3, k4⟩
              · clear k1 k2
                go_wp2_with fail
                refine (known_any _).mono ?_
                rintro e w16 ⟨rfl, hg16⟩
                have hG := grown_trans hG15 hg16 (by simp)
                go_wp2
                go_ret
                exact ⟨rfl, hG⟩
              · have hs1 := same_fz k1 k3 k2 k4
                have hs2 := fun (W : World) (hW : w15.grownBy W none) => same_fz (k1.grown hW) (hIf.ds.grown hW) (k2.grown hW) (hFd.grown hW)
                clear k1 k2 k3 k4 hIf hFd
                go_wp2_with fail
                refine hs1.mono ?_
                clear hs1
                rintro e w16 ⟨rfl, hg16⟩
                have hs3 := hs2 _ hg16
                clear hs2
                go_wp2_with fail
                refine hs3.mono ?_
                clear hs3
                rintro e w17 ⟨rfl, hg17⟩
                go_wp2_with fail
                refine (known_any _).mono ?_
                rintro e w18 ⟨rfl, hg18⟩
                have hG := grown_trans (grown_trans (grown_trans hG15 hg16 (by simp)) hg17 (by simp)) hg18 (by simp)
                go_wp2
                go_ret
                exact ⟨rfl, hG⟩
end Go.Proofs.Ythkbakaodbceiaa
