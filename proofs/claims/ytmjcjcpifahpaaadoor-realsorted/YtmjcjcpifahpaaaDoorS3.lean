/-
  RealSorted: the walk.
-/
import Derived.Test.YtmjcjcpifahpaaaDoorS4
import Derived.Test.YtmjcjcpifahpaaaDoorK1
import Derived.Deep.QuietTactic
import Derived.BigQuiet
namespace Go.Proofs.YtmjcjcpifahpaaaDoor
open Go.RowKit Go.Shelf Go.Sort Go.Lib
set_option linter.unusedVariables false

set_option maxRecDepth 100000 in
set_option maxHeartbeats 8000000 in
theorem sorted_walk (w : World) (hD : Dt w) (ao : Option Addr) (n cap : Nat) (l : List Fl) (hb : Fs w ao n cap l) (x : Fl) :
    Calls Tryd.prog 7 #[.slice ao n cap, .float .f64 x.b] w fun e w' => e = .returned (.bool true) ∧ w.grownBy w' none := by
  have hlen := hb.len
  have htop := Nat.le_trans hb.room hb.top
  unfold maxLen at htop
  by_cases hbig : 300 < n
  · go_enter Tryd.func7, Tryd.ntmps7
    go_wp2_with (go_at_call 22; refine (works_any _ hD).mono ?_; rintro e w1 ⟨rfl, hg1⟩)
    go_ret
    exact ⟨rfl, hg1⟩
  have hxl := x.lt
  go_enter Tryd.func7, Tryd.ntmps7
  go_wp2_with fail
  refine (sort_any _ _ _ _ l hb (by omega)).mono ?_
  rintro e w1 ⟨g, s, rfl, ho1, hp, hs, hg1⟩
  have hlen2 : s.length = n := by rw [hp.length_eq, hlen]
  have hb1 := hb.grown hg1
  have hc1 := ho1.shows
  have HP : Hid (s.Perm l) := hp
  have HS : Hid (Srt s) := hs
  clear hb ho1 hp hs
  go_wp2_with (go_at_call 21; refine (num_any' _ _).mono ?_; rintro e w1 ⟨rfl, rfl⟩)
  go_loopw [7, 8, 9, 10, 11, 12, 13, 14] (fun i' _ _ _ _ _ _ _ wr => ∃ i : Nat, i ≤ n ∧ i' = .int .i64 i ∧ w1.grownBy wr none) (fun i' _ _ _ _ _ _ _ _ => n - (intOf i').toNat)
  case atStart => exact ⟨0, Nat.zero_le _, rfl, grown_refl _ _⟩
  case round =>
    obtain ⟨i, hi, rfl, hgr⟩ := hrel
    by_cases hlt : i < n
    · obtain ⟨b, o, rfl, hbl⟩ := hb1.addr (by omega)
      have hil : i < l.length := by omega
      have his : i < s.length := by omega
      have hz : Hid (l[i] ∈ s) := HP.out.mem_iff.2 (List.getElem_mem hil)
      have hci := fun W (hW : w1.grownBy W none) => (hb1.grown hW).at hil
      have hdi := fun W (hW : w1.grownBy W none) => (hc1.grown hW).at his
      generalize l[i] = z at *
      have HY : Hid (s[i]? = some s[i]) := (List.getElem?_eq_getElem his : s[i]? = _)
      have HCI : Hid (∀ W, w1.grownBy W none → W.cell? ⟨b, o + i, none⟩ = some (.float .f64 z.b)) := hci
      have hzl := z.lt
      have hyl := (s[i]).lt
      have ci := hci _ hgr
      have di := hdi _ hgr
      rw [Nat.zero_add] at di
      have HDI : Hid (∀ W, w1.grownBy W none → W.cell? ⟨g, 0 + i, none⟩ = some (.float .f64 (s[i]).b)) := hdi
      clear hci hdi
      have hd : decide ((i : Int) < (n : Int)) = true := by simp; omega
      have hcase : decide (0 < i) = false ∨ (decide (0 < i) = true ∧ ∃ (m : Nat) (q : Fl), ((i : Int) - 1) = (m : Int) ∧ m < n ∧ wr.cell? ⟨g, m, none⟩ = some (.float .f64 q.b) ∧ q.b < 18446744073709551616 ∧ decide (0 < ordF q.b (s[i]).b) = false) := by
        by_cases hi0 : i = 0
        · left; simp; omega
        · right
          have hms : i - 1 < s.length := by omega
          have dm := (hc1.grown hgr).at hms
          rw [Nat.zero_add] at dm
          refine ⟨by simp; omega, i - 1, s[i - 1], by omega, by omega, dm, (s[i - 1]).lt, ?_⟩
          have := ord_not_pos (srt_get HS.out (show i - 1 ≤ i by omega) his)
          simp; omega
      generalize s[i] = y at *
      rcases hcase with h0 | ⟨h0, m, q, hm, hmn, dm, hql, hO⟩
      case' inl =>
        go_wp2_with fail
        go_big_quiet (fail)
        have hgq := grown_trans hgr (grown_drewN wr nq none) (by simp)
        generalize wr.drewN nq = wq at *
        clear h0
      case' inr =>
        generalize hQ : ordF q.b y.b = O at *
        go_wp2_with fail
        go_big_quiet ((go_at_call 12; exact Calls.quiet_of_same (order_any _ _ _ (by assumption) (by assumption))))
        have hgq := grown_trans hgr (grown_drewN wr nq none) (by simp)
        generalize wr.drewN nq = wq at *
        clear h0 hm hmn dm hql hO hQ
      all_goals
        clear ci di
        go_wp2_with fail
        go_loopw [8, 9, 10] (fun a' b' k' wi => ∃ k : Nat, k ≤ n ∧ k' = .int .i64 k ∧ a' = .int .i64 (cnt l k z) ∧ b' = .int .i64 (cnt s k z) ∧ w1.grownBy wi none) (fun _ _ k' _ => n - (intOf k').toNat)
        case atStart => exact ⟨0, Nat.zero_le _, rfl, by rw [cnt_zero]; rfl, by rw [cnt_zero]; rfl, hgq⟩
        case round =>
          obtain ⟨k, hk, rfl, rfl, rfl, hgi⟩ := hrel
          by_cases hlk : k < n
          · have hkl : k < l.length := by omega
            have hks : k < s.length := by omega
            have hkd : decide ((k : Int) < (n : Int)) = true := by simp; omega
            have ci := HCI.out _ hgi
            have ck := (hb1.grown hgi).at hkl
            have hdk : ∀ W, w1.grownBy W none → W.cell? ⟨g, k, none⟩ = some (.float .f64 (s[k]).b) := fun W hW => by
              have h9 := (hc1.grown hW).at hks
              rwa [Nat.zero_add] at h9
            have hkl' := (l[k]).lt
            have hks' := (s[k]).lt
            have n1 := cnt_succ hkl z
            have n2 := cnt_succ hks z
            have l1 := cnt_le l k z
            have l2 := cnt_le s k z
            have N1 : Hid (cnt l (k + 1) z = cnt l k z + if likeF (l[k]).b z.b = true then 1 else 0) := n1
            have N2 : Hid (cnt s (k + 1) z = cnt s k z + if likeF (s[k]).b z.b = true then 1 else 0) := n2
            clear n1 n2
            generalize l[k] = p at *
            generalize s[k] = r at *
            generalize cnt l k z = A at *
            generalize cnt s k z = B at *
            have hl1 := fun W => like_any W p.b z.b hkl' hzl
            have hl2 := fun W => like_any W r.b z.b hks' hzl
            generalize likeF p.b z.b = P at *
            generalize likeF r.b z.b = R at *
            cases P <;> cases R
            all_goals
              go_wp2_with fail
              go_big_quiet ((go_at_call 14; exact Calls.quiet_of_same (hl1 _)))
              have hgi2 := grown_trans hgi (grown_drewN wr nq none) (by simp)
              have ci := HCI.out _ hgi2
              have dk := hdk _ hgi2
              generalize wr.drewN nq = wj at *
              go_wp2_with fail
              go_big_quiet ((go_at_call 14; exact Calls.quiet_of_same (hl2 _)))
              have hgi3 := grown_trans hgi2 (grown_drewN wj nq none) (by simp)
              clear ci dk ck
              generalize wj.drewN nq = wk at *
              go_wp2
              go_roundw
              case rel => exact ⟨k + 1, by omega, by go_num, by rw [N1.out]; simp, by rw [N2.out]; simp, hgi3⟩
              case measure => simp [intOf]; omega
          · obtain rfl : k = n := by omega
            have HC : Hid (cnt l k z = cnt s k z) := cnt_all HP.out hlen z
            rw [HC.out]
            generalize cnt s k z = C at *
            have ci := HCI.out _ hgi
            go_wp2_with fail
            refine (search_any _ _ _ _ s (hc1.grown hgi) (by omega) z).mono ?_
            rintro e w5 ⟨at', hat, rfl, hB, hw5⟩
            subst hw5
            obtain ⟨hal, hlike, hf, hprev⟩ := bnd_in HS.out hB hz.out (by omega)
            have HF : Hid (fnd s at' z = true) := hf
            have dat := (hc1.grown hgi).at hal
            rw [Nat.zero_add] at dat
            have hatl := (s[at']).lt
            have hak : at' < k := by omega
            have hak2 : (at' : Int) < (k : Int) := by omega
            have had : decide (k ≤ at') = false := by simp; omega
            have han : decide ((at' : Int) < 0) = false := by simp
            have hcase : decide (0 < at') = false ∨ (decide (0 < at') = true ∧ ∃ (m : Nat) (q : Fl), ((at' : Int) - 1) = (m : Int) ∧ m < k ∧ w5.cell? ⟨g, m, none⟩ = some (.float .f64 q.b) ∧ q.b < 18446744073709551616 ∧ likeF q.b z.b = false) := by
              by_cases hi0 : at' = 0
              · left; simp; omega
              · right
                have hms : at' - 1 < s.length := by omega
                have dm := (hc1.grown hgi).at hms
                rw [Nat.zero_add] at dm
                exact ⟨by simp; omega, at' - 1, s[at' - 1], by omega, by omega, dm, (s[at' - 1]).lt, hprev (by omega)⟩
            clear hB hprev hf
            rw [HF.out]
            generalize s[at'] = v at *
            have hl1 := fun W => like_any W v.b z.b hatl hzl
            rw [hlike] at hl1
            have hl2 : ∀ q : Fl, likeF q.b z.b = false → ∀ W, Calls Tryd.prog 14 #[.float .f64 q.b, .float .f64 z.b] W fun e w' => e = .returned (.bool false) ∧ w' = W := fun q hq W => by
              have h9 := like_any W q.b z.b q.lt hzl
              rwa [hq] at h9
            clear hlike
            rcases hcase with h0 | ⟨h0, m, q, hm, hmn, dm, hql, hO⟩
            case' inr =>
              have HO := hl2 q hO
              clear hO
            all_goals
              clear hl2
              go_wp2_with fail
              go_big_quiet ((go_at_call 14; first | exact Calls.quiet_of_same (hl1 _) | exact Calls.quiet_of_same (HO _)))
              have hg6 := grown_trans hgi (grown_drewN w5 nq none) (by simp)
              generalize w5.drewN nq = w6 at *
              clear ci dat
              go_wp2_with fail
              refine (nth_any _ i _ _ _ l (hb1.grown hg6) (by omega) hlt).mono ?_
              rintro e w7 ⟨l2, hl2, rfl, hp2, hs2, hg7⟩
              have hv := two_sorted (hp2.trans HP.out.symm) hs2 HS.out hl2 his
              have hgy : s[i] = y := by have := HY.out; rw [List.getElem?_eq_getElem his] at this; exact Option.some.inj this
              rw [hgy] at hv
              have hG7 := grown_trans hg6 hg7 (by simp)
              have d7 := HDI.out _ hG7
              rw [Nat.zero_add] at d7
              have hl3 := fun W => like_any W (l2[i]).b y.b (l2[i]).lt hyl
              rw [hv] at hl3
              clear hv hp2 hs2 hgy
              generalize l2[i] = u at *
              go_wp2_with (first
                | (go_at_call 21; refine (num_any' _ _).mono ?_; rintro e w8 ⟨rfl, hw8⟩; subst hw8)
                | (go_at_call 14; refine (hl3 _).mono ?_; rintro e w9 ⟨rfl, hw9⟩; subst hw9))
              go_roundw
              case rel => exact ⟨i + 1, by omega, by go_num, hG7⟩
              case measure => simp [intOf]; omega
    · obtain rfl : i = n := by omega
      have hG2 := grown_trans hg1 hgr (by simp)
      have hcx := hc1.grown hgr
      have hdr : decide ((i : Int) < (i : Int)) = false := by simp
      go_wp2_with fail
      refine (search_any _ _ _ _ s hcx (by omega) x).mono ?_
      rintro e w5 ⟨at', hat, rfl, hB, hw5⟩
      subst hw5
      have han : decide ((at' : Int) < 0) = false := by simp
      have had : decide (i < at') = false := by simp; omega
      have hk1 := fun W => key_any W x.b hxl
      have hK1 : ∃ T1, Hid (T1 = nth (kyl (plc x.b))) ∧ ∀ W, Calls Tryd.prog 16 #[.float .f64 x.b] W fun e w' => e = .returned (.agg (tab T1 8)) ∧ W.grownBy w' none := ⟨_, rfl, hk1⟩
      obtain ⟨T1, HT1, hk⟩ := hK1
      clear hk1
      have hcA : (decide (at' < i) = false ∧ Hid (fnd s at' x = false)) ∨ (decide (at' < i) = true ∧ ∃ (y : Fl) (f : Bool), at' < i ∧ Hid (fnd s at' x = f) ∧ w5.cell? ⟨g, at', none⟩ = some (.float .f64 y.b) ∧ (∀ W, Calls Tryd.prog 14 #[.float .f64 y.b, .float .f64 x.b] W fun e w' => e = .returned (.bool f) ∧ w' = W) ∧ ∃ O : Int, decide (O < 0) = false ∧ ∀ W, Calls Tryd.prog 12 #[.float .f64 y.b, .float .f64 x.b] W fun e w' => e = .returned (.int .i64 O) ∧ w' = W) := by
        by_cases h9 : at' < i
        · right
          have h8 : at' < s.length := by omega
          have d9 := hcx.at h8
          rw [Nat.zero_add] at d9
          refine ⟨by simpa using h9, s[at'], likeF (s[at']).b x.b, h9, (by show _ = _; unfold fnd; rw [List.getElem?_eq_getElem h8]), d9, fun W => like_any W _ _ (s[at']).lt hxl, _, ?_, fun W => order_any W _ _ (s[at']).lt hxl⟩
          have := ord_not_neg (hB.2 _ (List.getElem?_eq_getElem h8))
          simp; omega
        · left
          exact ⟨by simpa using h9, by show _ = _; unfold fnd; rw [List.getElem?_eq_none (by omega)]⟩
      have hcB : decide (0 < at') = false ∨ (decide (0 < at') = true ∧ ∃ (m : Nat) (q : Fl) (O : Int), ((at' : Int) - 1) = (m : Int) ∧ m < i ∧ w5.cell? ⟨g, m, none⟩ = some (.float .f64 q.b) ∧ decide (0 ≤ O) = false ∧ ∀ W, Calls Tryd.prog 12 #[.float .f64 q.b, .float .f64 x.b] W fun e w' => e = .returned (.int .i64 O) ∧ w' = W) := by
        by_cases h9 : at' = 0
        · left; simp; omega
        · right
          have h8 : at' - 1 < s.length := by omega
          have d9 := hcx.at h8
          rw [Nat.zero_add] at d9
          refine ⟨by simp; omega, at' - 1, s[at' - 1], _, by omega, by omega, d9, ?_, fun W => order_any W _ _ (s[at' - 1]).lt hxl⟩
          have := ord_is_neg (hB.1 _ (by omega) (List.getElem?_eq_getElem h8))
          simp; omega
      clear hB
      rcases hcA with ⟨hA, hF⟩ | ⟨hA, y, f, hA2, hF, dA, hl1, OA, hOA, ho1⟩ <;> rcases hcB with hBn | ⟨hBn, m, q, OB, hm, hmi, dB, hOB, ho2⟩
      all_goals
        rw [hF.out]
        go_wp2_with (first
          | (go_at_call 14; refine (hl1 _).mono ?_; rintro e w9 ⟨rfl, hw9⟩; subst hw9)
          | (go_at_call 12; (first | refine (ho2 _).mono ?_ | refine (ho1 _).mono ?_); rintro e w9 ⟨rfl, hw9⟩; subst hw9)
          | (go_at_call 16; refine (hk _).mono ?_; rintro e w6 ⟨rfl, hg6⟩; have t0 := Tb.new w6 #[Value.int .u8 0, Value.int .u8 0, Value.int .u8 0, Value.int .u8 0, Value.int .u8 0, Value.int .u8 0, Value.int .u8 0, Value.int .u8 0] 23 8 T1 rfl)
          | (refine wpList_store_tab rfl 23 (.tmp 17) (.tmp 218) rfl w6.heap.size T1 8 rfl rfl 23 t0 info23 ?_; intro w7 u0 g7))
        have hG6 := grown_trans hG2 hg6 (by simp)
        have hsz := hG6.size
        have hG7 : w.grownBy w7 none := below_of_new (grown_trans hG6 (alloc_grown _ _) (by simp)) g7 (by omega)
        have b1 : Bs w7 (some ⟨w6.heap.size, 0, none⟩) 8 8 (kyl (plc x.b)) := tab_bs (by rw [← HT1.out]; exact u0) (kyl_len _)
        have b1d := b1.grown (grown_drew w7 none)
        have hDd := (hD.grown hG7).grown (grown_drew w7 none)
        have hGd := grown_trans hG7 (grown_drew w7 none) (by simp)
        obtain ⟨S1, hS1⟩ : ∃ S1, Hid (S1 = str (kyl (plc x.b))) := ⟨_, rfl⟩
        obtain ⟨S2, hS2'⟩ : ∃ S2, S2 = str ([97, 98] ++ kyl (plc x.b)) := ⟨_, rfl⟩
        have hS2 : Hid (S2 = str ([97, 98] ++ kyl (plc x.b))) := hS2'
        clear hS2'
        have hS1s : S1.size = 8 := by rw [hS1.out, str_size, kyl_len]
        have hak : ∀ W ao n c, Bs W ao n c [97, 98] → Calls Tryd.prog 20 #[.slice ao n c, .float .f64 x.b] W fun e w' => ∃ ao' n' c', e = .returned (.slice ao' n' c') ∧ Bs w' ao' n' c' ([97, 98] ++ kyl (plc x.b)) ∧ (∀ a, ao' = some a → W.heap.size ≤ a.block) ∧ W.grownBy w' none := fun W ao n c hb => by
          have hn : n = 2 := hb.len.symm
          subst hn
          refine (appendKey_any W ao 2 c x.b [97, 98] hb hxl (by omega)).mono ?_
          rintro e w' ⟨a2, c2, rfl, ho, hg⟩
          exact ⟨a2, _, c2, rfl, ho.shows, fun a ha => by subst ha; exact (ho.from_base a.block rfl).1, hg⟩
        have hcv : ∀ W ao n c, Bs W ao n c ([97, 98] ++ kyl (plc x.b)) → (convert 37 9 (.slice ao n c)).run Tryd.prog W = .ok (.string S2) W := fun W ao n c hb => by
          rw [hS2.out]; exact run_string_bs (P := Tryd.prog) _ 37 9 5 Tryd.underlying37 Tryd.underlying5 Tryd.underlying9 hb
        have hcw : ∀ W ao n c, Bs W ao n c (kyl (plc x.b)) → (convert 37 9 (.slice ao n c)).run Tryd.prog W = .ok (.string S1) W := fun W ao n c hb => by
          rw [hS1.out]; exact run_string_bs (P := Tryd.prog) _ 37 9 5 Tryd.underlying37 Tryd.underlying5 Tryd.underlying9 hb
        have hadd : ByteArray.mk #[97, 98] ++ S1 = S2 := by rw [hS1.out, hS2.out]; simp [str, ByteArray.ext_iff]
        refine wp_region_any (by kernel_rfl) ?_
        change wpAny _ _ _ _ _ _ _ (World.drew _)
        generalize w7.drew = w0 at *
        generalize w6.heap.size = gk at *
        refine any_order (J := Jp w0 [(1, .float .f64 x.b), (17, .pointer (some ⟨gk, 0, none⟩))]
          (fun
            | 2 => .float .f64 x.b | 4 => .string S2 | 5 => .slice (some ⟨gk, 0, none⟩) 8 8 | 6 => .string S1 | 7 => .string S2 | _ => .bool true)
          (fun
            | 0 => some [97, 98] | 1 => some [97, 98] | 3 => some ([97, 98] ++ kyl (plc x.b)) | _ => none)) ?size ?step ?stop ?low _ _ _ _ ?init ?count
        case size => exact fun l a w h => h.size
        case low => exact low_of (by kernel_rfl)
        case count => exact left_all 13
        case init =>
          refine ⟨rfl, rfl, rfl, grown_refl _ _, fun s v hm => ?_, fun i hi hl => ?_⟩
          · simp only [List.mem_cons, Prod.mk.injEq, List.not_mem_nil, or_false] at hm
            rcases hm with ⟨rfl, rfl⟩ | ⟨rfl, rfl⟩
            all_goals exact ⟨by omega, rfl⟩
          · have h9 : (Array.replicate 13 false).getD i false = true := hl
            simp [hi] at h9
        case stop =>
          intro l a w' hJ hall
          have h6 := hJ.at 12 (by omega) (hall 12 (by simp)) rfl
          simp [slotOf] at h6
          have hGe := grown_trans hGd hJ.grown (by simp)
          have hdf := hJ.defers
          clear hJ hall
          go_wp2
          exact bodyPost_ret (v := .bool true) (by simp [results, Tryd.results7, go_sem, h6]) hdf ⟨rfl, hGe⟩
        case step =>
          intro l a w' i o hJ ho hl hdep
          have hi : i < 13 := by
            have h9 := (Array.getElem?_eq_some_iff.1 ho).1
            simpa using h9
          have e1 := (hJ.base 1 (.float .f64 x.b) (by simp)).2
          have e17 := (hJ.base 17 (.pointer (some ⟨gk, 0, none⟩)) (by simp)).2
          match i, hi with
          | 0, _ =>
            cases ho
            refine wpOp_step rfl (fun K hK => ?_)
            go_simp
            exact hK _ _ (hJ.next 0 (by omega) _ (grown_trans hJ.grown (alloc_grown _ _) (by simp)) (fun _ _ _ _ h => h.grown (alloc_grown _ _)) ⟨(fun h => by cases h), fun t ht => by cases ht; exact ⟨_, _, _, rfl, Bs.ab _ _, fun a ha => by cases ha; exact hJ.grown.size⟩⟩)
          | 1, _ =>
            cases ho
            have x1d := hdep { on := 0, ground := .data } (by simp) rfl
            obtain ⟨x1a, x1n, x1c, x1, x1P, x1B⟩ := hJ.made 0 (by omega) x1d rfl
            obtain ⟨q, o, rfl, hq⟩ := x1P.addr (by have := x1P.len; simp at this; omega)
            have hqb := x1B _ rfl
            simp [slotOf] at x1
            obtain ⟨w2, hr2, hg2, hp2⟩ := conv37 w' q o x1n x1c
            have HP2 : Hid (∀ ao m d l, Bs w' ao m d l → Bs w2 ao m d l) := hp2
            clear hp2 x1B hcv hcw hak hadd
            refine wpOp_step rfl (fun K hK => ?_)
            go_simp
            exact hK _ _ (hJ.next 1 (by omega) _ (below_of_new hJ.grown hg2 hqb) HP2.out ⟨(fun h => by cases h), fun t ht => by cases ht; exact ⟨_, _, _, rfl, HP2.out _ _ _ _ x1P, fun a ha => by cases ha; exact hqb⟩⟩)
          | 2, _ =>
            cases ho
            refine wpOp_step rfl (fun K hK => ?_)
            go_simp
            exact hK _ _ (hJ.next 2 (by omega) _ (grown_trans hJ.grown (grown_refl _ none) (by simp)) (fun _ _ _ _ h => h.grown (grown_refl _ none)) ⟨fun _ => rfl, fun t ht => by cases ht⟩)
          | 3, _ =>
            cases ho
            have x1d := hdep { on := 1, ground := .data } (by simp) rfl
            obtain ⟨x1a, x1n, x1c, x1, x1P, x1B⟩ := hJ.made 1 (by omega) x1d rfl
            have x2d := hdep { on := 2, ground := .data } (by simp) rfl
            have x2 := hJ.at 2 (by omega) x2d rfl
            clear x1B hcv hcw hadd
            simp [slotOf] at x1 x2
            refine wpOp_step rfl (fun K hK => ?_)
            go_simp
            refine (hak _ _ _ _ x1P).mono ?_
            rintro e w2 ⟨a2, n2, c2, rfl, hb2, hn2, hg2⟩
            try go_simp
            exact hK _ _ (hJ.next 3 (by omega) _ (grown_trans hJ.grown hg2 (by simp)) (fun _ _ _ _ h => h.grown hg2) ⟨(fun h => by cases h), fun t ht => by cases ht; exact ⟨_, _, _, rfl, hb2, fun a ha => Nat.le_trans hJ.grown.size (hn2 a ha)⟩⟩)
          | 4, _ =>
            cases ho
            have x1d := hdep { on := 3, ground := .data } (by simp) rfl
            obtain ⟨x1a, x1n, x1c, x1, x1P, x1B⟩ := hJ.made 3 (by omega) x1d rfl
            clear x1B hak hcw hadd
            simp [slotOf] at x1
            have cv := hcv _ _ _ _ x1P
            refine wpOp_step rfl (fun K hK => ?_)
            go_simp
            exact hK _ _ (hJ.next 4 (by omega) _ (grown_trans hJ.grown (grown_refl _ none) (by simp)) (fun _ _ _ _ h => h.grown (grown_refl _ none)) ⟨fun _ => rfl, fun t ht => by cases ht⟩)
          | 5, _ =>
            cases ho
            refine wpOp_step rfl (fun K hK => ?_)
            go_simp
            exact hK _ _ (hJ.next 5 (by omega) _ (grown_trans hJ.grown (grown_refl _ none) (by simp)) (fun _ _ _ _ h => h.grown (grown_refl _ none)) ⟨fun _ => rfl, fun t ht => by cases ht⟩)
          | 6, _ =>
            cases ho
            have x1d := hdep { on := 5, ground := .data } (by simp) rfl
            have x1 := hJ.at 5 (by omega) x1d rfl
            simp [slotOf] at x1
            have cv := hcw _ _ _ _ (b1d.grown hJ.grown)
            refine wpOp_step rfl (fun K hK => ?_)
            go_simp
            exact hK _ _ (hJ.next 6 (by omega) _ (grown_trans hJ.grown (grown_refl _ none) (by simp)) (fun _ _ _ _ h => h.grown (grown_refl _ none)) ⟨fun _ => rfl, fun t ht => by cases ht⟩)
          | 7, _ =>
            cases ho
            have x1d := hdep { on := 6, ground := .data } (by simp) rfl
            have x1 := hJ.at 6 (by omega) x1d rfl
            simp [slotOf] at x1
            refine wpOp_step rfl (fun K hK => ?_)
            go_simp
            exact hK _ _ (hJ.next 7 (by omega) _ (grown_trans hJ.grown (grown_refl _ none) (by simp)) (fun _ _ _ _ h => h.grown (grown_refl _ none)) ⟨fun _ => rfl, fun t ht => by cases ht⟩)
          | 8, _ =>
            cases ho
            have x1d := hdep { on := 4, ground := .data } (by simp) rfl
            have x1 := hJ.at 4 (by omega) x1d rfl
            have x2d := hdep { on := 7, ground := .data } (by simp) rfl
            have x2 := hJ.at 7 (by omega) x2d rfl
            simp [slotOf] at x1 x2
            refine wpOp_step rfl (fun K hK => ?_)
            go_simp
            exact hK _ _ (hJ.next 8 (by omega) _ (grown_trans hJ.grown (grown_refl _ none) (by simp)) (fun _ _ _ _ h => h.grown (grown_refl _ none)) ⟨fun _ => rfl, fun t ht => by cases ht⟩)
          | 9, _ =>
            cases ho
            have x1d := hdep { on := 8, ground := .data } (by simp) rfl
            have x1 := hJ.at 8 (by omega) x1d rfl
            simp [slotOf] at x1
            refine wpOp_step rfl (fun K hK => ?_)
            go_simp
            exact hK _ _ (hJ.next 9 (by omega) _ (grown_trans hJ.grown (grown_refl _ none) (by simp)) (fun _ _ _ _ h => h.grown (grown_refl _ none)) ⟨fun _ => rfl, fun t ht => by cases ht⟩)
          | 10, _ =>
            cases ho
            have x1d := hdep { on := 9, ground := .guard } (by simp) rfl
            have x1 := hJ.at 9 (by omega) x1d rfl
            simp [slotOf] at x1
            refine wpOp_step rfl (fun K hK => ?_)
            go_simp
            refine (works_any _ (hDd.grown hJ.grown)).mono ?_
            rintro e w2 ⟨rfl, hg2⟩
            try go_simp
            exact hK _ _ (hJ.next 10 (by omega) _ (grown_trans hJ.grown hg2 (by simp)) (fun _ _ _ _ h => h.grown hg2) ⟨fun _ => rfl, fun t ht => by cases ht⟩)
          | 11, _ =>
            cases ho
            have x1d := hdep { on := 9, ground := .data } (by simp) rfl
            have x1 := hJ.at 9 (by omega) x1d rfl
            have x2d := hdep { on := 10, ground := .data } (by simp) rfl
            have x2 := hJ.at 10 (by omega) x2d rfl
            simp [slotOf] at x1 x2
            refine wpOp_step rfl (fun K hK => ?_)
            go_simp
            exact hK _ _ (hJ.next 11 (by omega) _ (grown_trans hJ.grown (grown_refl _ none) (by simp)) (fun _ _ _ _ h => h.grown (grown_refl _ none)) ⟨fun _ => rfl, fun t ht => by cases ht⟩)
          | 12, _ =>
            cases ho
            have x1d := hdep { on := 11, ground := .data } (by simp) rfl
            have x1 := hJ.at 11 (by omega) x1d rfl
            simp [slotOf] at x1
            refine wpOp_step rfl (fun K hK => ?_)
            go_simp
            exact hK _ _ (hJ.next 12 (by omega) _ (grown_trans hJ.grown (grown_refl _ none) (by simp)) (fun _ _ _ _ h => h.grown (grown_refl _ none)) ⟨fun _ => rfl, fun t ht => by cases ht⟩)
end Go.Proofs.YtmjcjcpifahpaaaDoor
