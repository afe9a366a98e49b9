/-
  The document's body: all behind the sum.
-/
import Derived.Test.YtlfgikhjcimppaaE2
import Derived.Deep.RegionHeld3
namespace Go.Proofs.Ytlfgikhjcimppaa
open Go.RowKit
set_option linter.unusedVariables false

section
variable {P : Program}
/-- 'append(s, x...)' as one step of a region that draws its order. -/
theorem step_append_bs {ops : Array Oper} {o : Oper} {a : Act} {w : World} {K : Act → World → Prop} {Q : Exit → Act → World → Prop} {E : Prop} (hgd : o.guard = none) (s x : Operand) (t : TypeId)
    (ho : o.op = .call { callee := .builtin .append, args := #[s, x], argTypes := #[t, t] })
    (base : Nat) (e : TypeId) (ht : P.underlying t = some (.slice e)) (hinfo : (P.info? e).map (fun i => (i.zero, i.size, i.bytes)) = some (some (.int .u8 0), 1, 1))
    {ao : Option Addr} {n cap : Nat} {l : List UInt8} (hs : a.eval s = .slice ao n cap) (hown : Ow w base e ao n cap l)
    {xo : Option Addr} {m c : Nat} {k : List UInt8} (hx : a.eval x = .slice xo m c) (hb : Bs w xo m c k)
    (hsum : n + m ≤ 140737488355328) (hbase : base ≤ w.heap.size) (N : Nat) (lk : List UInt8) (hN : n + m = N) (hlk : l ++ k = lk)
    (h : ∀ ao' cap' w', Ow w' base e ao' N cap' lk → w.grownBy w' (blk ao) → K (a.put o.dst (.slice ao' N cap')) w') :
    if Region.wanted o (yielded ops a.tmps) = true then Oper.wp P o a w K Q else E := by
  have hw : Region.wanted o (yielded ops a.tmps) = true := by simp [Region.wanted, hgd]
  rw [if_pos hw]
  subst hN hlk
  obtain ⟨i, hi, hz, hz1, hz2⟩ := info_parts hinfo
  cases xo with
  | none =>
    obtain rfl := hb.nil rfl
    obtain rfl : m = 0 := Nat.le_zero.1 hb.room
    obtain rfl : k = [] := List.eq_nil_of_length_eq_zero hb.len
    have hrun := run_append_owned_none (P := P) (w := w) base t o.type e i 1 ht hi _ n _ hown.row
    unfold Oper.wp
    simp [execOp, ho, resolve, invoke, builtin, hs, hx, hrun, Result.andThen]
    have h2 : K (a.put o.dst (.slice ao n cap)) w := by
      have := h ao cap w (by simpa using hown) (grown_refl _ _)
      simpa using this
    exact h2
  | some ad =>
    refine wp_append_own w s x t ho base e i (.int .u8 0) 1 1 ht hi hz hz1 hz2 rfl (by decide) _ n _ hs hown.row ad m c (k.map bv) hx (by simp [hb.len]) (hb.cells ad rfl) (bv_one k) (by unfold maxLen; omega) (by omega) hbase ?_
    intro v' w' hown' hgrow _
    rw [← List.map_append] at hown'
    obtain ⟨ao', cap', rfl, h1⟩ := Ow.of (l := l ++ k) (by simp [hown.len, hb.len]) hown'
    exact h ao' cap' w' h1 (by rw [blk_own] at hgrow; exact hgrow)
end

theorem heap_kept {w w' : World} {row : Option Nat} {g : Nat} {x : Obj} (hg : w.grownBy w' row) (h : w.heap[g]? = some x) (hne : some g ≠ row) : w'.heap[g]? = some x := by
  rw [hg.block g (by rcases Nat.lt_or_ge g w.heap.size with h9 | h9; exact h9; rw [Array.getElem?_eq_none h9] at h; cases h) hne]; exact h

/-- A row of bytes is no block of another kind. -/
theorem Ow.apart {w : World} {base : Nat} {ao : Option Addr} {n cap : Nat} {l : List UInt8} {g : Nat} {cs : Array Value} {fr : Nat × Nat} (h : Ow w base 5 ao n cap l) (hh : w.heap[g]? = some (.cells cs 42 fr)) : some g ≠ blk ao := by
  intro e
  rcases h.row.2 with ⟨hv, _⟩ | ⟨g', c, cur, hv, _, hg, _⟩
  · simp only [Value.slice.injEq] at hv
    rw [hv.1] at e
    cases e
  · simp only [Value.slice.injEq] at hv
    rw [hv.1] at e
    obtain rfl : g = g' := by simpa [blk] using e
    rw [hh] at hg
    simp at hg

theorem szs_all {l : List Rc} {i : Nat} (h : l.length ≤ i) : szs (l.take i) = szs l := by rw [List.take_of_length_le h]

set_option maxRecDepth 100000 in
set_option maxHeartbeats 8000000 in
theorem rbody_any (w : World) (base : Int) (ao : Option Addr) (n cap : Nat) (l : List Rc) (ha : Rs w ao n cap l) (hn : n ≤ 256) (hsz : szs l ≤ 65536) :
    Calls Try.prog 42 #[.agg #[.int .i64 base, .slice ao n cap]] w fun e w' => ∃ ao' cap', e = .returned (.slice ao' (12 + szs l : Nat) cap') ∧ Ow w' w.heap.size 5 ao' (12 + szs l) cap' (bodyB base l) ∧ w.grownBy w' none := by
  have hlen := ha.len
  have hX : Hid (IntKind.u64.wrap base = (((base % 18446744073709551616).toNat : Nat) : Int)) := wrapU64 base
  have hXl : (base % 18446744073709551616).toNat < 18446744073709551616 := by omega
  have hXe : Hid (i8 base = low (base % 18446744073709551616).toNat 8) := rfl
  have hY : Hid (IntKind.u64.wrap (n : Int) = (n : Int)) := by show _ = _; rw [wrapU64]; omega
  generalize (base % 18446744073709551616).toNat = X at *
  go_enter Try.func42, Try.ntmps42
  go_wp2_with fail
  have ga := alloc_grown w (.cells #[.int .i64 base, .slice ao n cap] 35)
  have k3 := heap_alloc_new w (.cells #[.int .i64 base, .slice ao n cap] 35)
  have c0 := cell_of (i := 0) (v := .int .i64 base) k3 rfl
  have c1 := cell_of (i := 1) (v := .slice ao n cap) k3 rfl
  have hz0 : Hid ((w.alloc (.cells #[.int .i64 base, .slice ao n cap] 35)).heap.size = w.heap.size + 1) := by show _ = _; simp
  have ha0 := ha.grown ga
  clear k3 ha
  generalize w.alloc (.cells #[.int .i64 base, .slice ao n cap] 35) = w0 at *
  generalize hz : w.heap.size = z at *
  have h2 : ∀ W, w0.grownBy W none → W.cell? ⟨z, 0, none⟩ = some (.int .i64 base) ∧ W.cell? ⟨z, 1, none⟩ = some (.slice ao n cap) := fun W hW => ⟨hW.cell c0 (by simp), hW.cell c1 (by simp)⟩
  have h8 : ∀ W, w0.grownBy W none → Calls Try.prog 43 #[.int .u64 (X : Int), .int .i64 8] W fun e w' => ∃ ao' cap', e = .returned (.slice ao' 8 cap') ∧ Ow w' W.heap.size 5 ao' 8 cap' (low X 8) ∧ W.grownBy w' none := fun W hW => rnum_any W X 8 hXl (by omega)
  have h4 : ∀ W, w0.grownBy W none → Calls Try.prog 43 #[.int .u64 (n : Int), .int .i64 4] W fun e w' => ∃ ao' cap', e = .returned (.slice ao' 4 cap') ∧ Ow w' W.heap.size 5 ao' 4 cap' (low n 4) ∧ W.grownBy w' none := fun W hW => rnum_any W n 4 (by omega) (by omega)
  go_region_held3 (fun w' => w'.cell? ⟨z, 0, none⟩ = some (.int .i64 base) ∧ w'.cell? ⟨z, 1, none⟩ = some (.slice ao n cap)) (first | exact ⟨c0, c1⟩ | exact mm | exact nn | exact ⟨mm.1, mm.2⟩ | go_keep)
    (first
      | (go_at_call 43; rw [hX.out]; refine (h8 _ (grown_drewN w0 1 none)).mono ?_; rintro e w1 ⟨a8, k8, rfl, ho8, hg1⟩; have hgd : w0.grownBy w1 none := grown_trans (grown_drewN w0 1 none) hg1 (by simp); have mm := h2 _ hgd; have hO8 : Ow w1 w0.heap.size 5 a8 8 k8 (low X 8) := ho8)
      | (go_at_call 43; rw [hY.out]; refine (h4 _ (grown_drewN w0 1 none)).mono ?_; rintro e w1 ⟨a4, k4, rfl, ho4, hg1⟩; have hgd : w0.grownBy w1 none := grown_trans (grown_drewN w0 1 none) hg1 (by simp); have mm := h2 _ hgd; have hO4 : Ow w1 w0.heap.size 5 a4 4 k4 (low n 4) := ho4)
      | (go_at_call 43; rw [hX.out]; refine (h8 _ hgd).mono ?_; rintro e w2 ⟨a8, k8, rfl, ho8, hg2⟩; have hge : w0.grownBy w2 none := grown_trans hgd hg2 (by simp); have nn := h2 _ hge; have hP8 : Ow w2 w0.heap.size 5 a8 8 k8 (low X 8) := ho8.rebase hgd.size; have hP4 : Ow w2 w0.heap.size 5 a4 4 k4 (low n 4) := hO4.grown hg2)
      | (go_at_call 43; rw [hY.out]; refine (h4 _ hgd).mono ?_; rintro e w2 ⟨a4, k4, rfl, ho4, hg2⟩; have hge : w0.grownBy w2 none := grown_trans hgd hg2 (by simp); have nn := h2 _ hge; have hP4 : Ow w2 w0.heap.size 5 a4 4 k4 (low n 4) := ho4.rebase hgd.size; have hP8 : Ow w2 w0.heap.size 5 a8 8 k8 (low X 8) := hO8.grown hg2)
      | (refine step_append_bs (by rfl) (.tmp 9) (.tmp 14) 31 (by rfl) w0.heap.size 5 Try.underlying31 Try.info5 (by rfl) hP8 (by rfl) hP4.shows (by omega) hge.size 12 (low X 8 ++ low n 4) rfl rfl ?_; intro ao3 cap3 w3 ho3 hg3; have hgf : w0.grownBy w3 none := grown_trans hge hg3 (fun k hk => Or.inr (hP8.from_base k hk).1); have pp := h2 _ hgf))
  all_goals
    clear hO8 mm nn pp hP8 hP4 ho8 ho4 hg1 hg2 hgd hge hg3 h8 h4 c0 c1 hX hXl hY
    go_wp2_with fail
    go_loopw [3, 4, 5] (fun o' i' _ wr => ∃ (i N : Nat) (ao1 : Option Addr) (cap1 : Nat) (L : List UInt8), i ≤ n ∧ i' = .int .i64 i ∧ o' = .slice ao1 N cap1 ∧ N ≤ 65548 ∧ Hid (N = 12 + szs (l.take i)) ∧ Ow wr w0.heap.size 5 ao1 N cap1 L ∧ Hid (L = i8 base ++ low n 4 ++ ((l.take i).map rby).flatten) ∧ w0.grownBy wr none) (fun _ i' _ _ => n - (intOf i').toNat)
    case atStart => exact ⟨0, 12, _, _, _, Nat.zero_le _, rfl, rfl, by omega, (by simp [szs] : 12 = 12 + szs (l.take 0)), ho3, (by rw [hXe.out]; simp : low X 8 ++ low n 4 = i8 base ++ low n 4 ++ ((l.take 0).map rby).flatten), hgf⟩
    case round =>
      clear ho3 hgf
      obtain ⟨i, N, ao1, cap1, L, hi, rfl, rfl, hN, hNe, ho, hL, hG⟩ := hrel
      obtain ⟨p0, p1⟩ := h2 _ hG
      by_cases hlt : i < n
      · obtain ⟨b, o, rfl, hbl⟩ := ha0.addr (by omega)
        have h1 : i < l.length := by omega
        obtain ⟨a1, a2, a3, ak⟩ := (ha0.grown hG).at h1
        have hkk : ∀ W, w0.grownBy W none → Rk W l[i] := fun W hW => (ha0.grown hW).shows _ (List.getElem_mem h1)
        have hd : decide ((i : Int) < (n : Int)) = true := by simp; omega
        have hz2 : Hid (szs (l.take (i + 1)) = szs (l.take i) + (12 + (l[i]).kn + (l[i]).vn)) := szs_snoc h1
        have hfl : Hid (((l.take (i + 1)).map rby).flatten = ((l.take i).map rby).flatten ++ rby l[i]) := flat_rby h1
        have hzt : szs (l.take (i + 1)) ≤ szs l := szs_take l (i + 1)
        generalize l[i] = x at *
        have hkv : x.kn + x.vn ≤ 65536 := by have := hz2.out; omega
        have k1 := ak.key.room
        have k2 := ak.kb
        have k3 := ak.value.room
        have k4 := ak.vb
        have hXt : Hid (IntKind.u64.wrap x.t = (((x.t % 18446744073709551616).toNat : Nat) : Int)) := wrapU64 x.t
        have hXtl : (x.t % 18446744073709551616).toNat < 18446744073709551616 := by omega
        have hrb : Hid (rby x = low (x.t % 18446744073709551616).toNat 8 ++ low x.kn 2 ++ low x.vn 2 ++ x.k ++ x.v) := rfl
        generalize (x.t % 18446744073709551616).toNat = T at *
        have hi1 : (0 : Int) ≤ (i : Int) := by omega
        have hi2 : (i : Int) < (n : Int) := by omega
        go_wp2_with fail
        have ga := alloc_grown wr (.cells #[.int .i64 x.t, .slice x.ko x.kn x.kc, .slice x.vo x.vn x.vc] 42)
        have hr := heap_alloc_new wr (.cells #[.int .i64 x.t, .slice x.ko x.kn x.kc, .slice x.vo x.vn x.vc] 42)
        have ho3 := ho.grown ga
        have hG3 := grown_trans hG ga (by simp)
        clear a1 a2 a3 ak p0 p1 ga ho hG
        generalize wr.alloc (.cells #[.int .i64 x.t, .slice x.ko x.kn x.kc, .slice x.vo x.vn x.vc] 42) = w3 at *
        generalize wr.heap.size = g at *
        rw [hXt.out]
        refine (rnum_any _ T 8 (by omega) (by omega)).mono ?_
        rintro e w4 ⟨a4, k4, rfl, oo, gg⟩
        have ho4 := ho3.grown gg
        have hr4 := heap_kept gg hr (by simp)
        have hG4 := grown_trans hG3 gg (by simp)
        have hS4 := hG4.size
        have bb := oo.shows
        clear hr oo gg ho3 hG3
        have hr := hr4
        clear hr4
        have ge := cell_of (i := 0) (v := .int .i64 x.t) hr rfl
        have gk := cell_of (i := 1) (v := .slice x.ko x.kn x.kc) hr rfl
        have gv := cell_of (i := 2) (v := .slice x.vo x.vn x.vc) hr rfl
        go_wp2_with (at_builtin; refine wpList_append_bs _ rfl _ _ 31 rfl w0.heap.size 5 Try.underlying31 Try.info5 rfl ho4 rfl bb (by omega) (by omega) ?_)
        intro a5 c5 w5 ho5 gg
        have hr5 := heap_kept gg hr (ho4.apart hr)
        have hG5 := grown_trans hG4 gg (fun k hk => Or.inr (ho4.from_base k hk).1)
        have hS5 := hG5.size
        clear hr gg ho4 hG4 ge gk gv
        have hr := hr5
        clear hr5
        have ge := cell_of (i := 0) (v := .int .i64 x.t) hr rfl
        have gk := cell_of (i := 1) (v := .slice x.ko x.kn x.kc) hr rfl
        have gv := cell_of (i := 2) (v := .slice x.vo x.vn x.vc) hr rfl
        clear bb
        go_wp2_with fail
        clear ge gk gv
        refine (rnum_any _ x.kn 2 (by omega) (by omega)).mono ?_
        rintro e w6 ⟨a6, k6, rfl, oo, gg⟩
        have ho6 := ho5.grown gg
        have hr6 := heap_kept gg hr (by simp)
        have hG6 := grown_trans hG5 gg (by simp)
        have hS6 := hG6.size
        have bb := oo.shows
        clear hr oo gg ho5 hG5
        have hr := hr6
        clear hr6
        have ge := cell_of (i := 0) (v := .int .i64 x.t) hr rfl
        have gk := cell_of (i := 1) (v := .slice x.ko x.kn x.kc) hr rfl
        have gv := cell_of (i := 2) (v := .slice x.vo x.vn x.vc) hr rfl
        go_wp2_with (at_builtin; refine wpList_append_bs _ rfl _ _ 31 rfl w0.heap.size 5 Try.underlying31 Try.info5 rfl ho6 rfl bb (by omega) (by omega) ?_)
        intro a7 c7 w7 ho7 gg
        have hr7 := heap_kept gg hr (ho6.apart hr)
        have hG7 := grown_trans hG6 gg (fun k hk => Or.inr (ho6.from_base k hk).1)
        have hS7 := hG7.size
        clear hr gg ho6 hG6 ge gk gv
        have hr := hr7
        clear hr7
        have ge := cell_of (i := 0) (v := .int .i64 x.t) hr rfl
        have gk := cell_of (i := 1) (v := .slice x.ko x.kn x.kc) hr rfl
        have gv := cell_of (i := 2) (v := .slice x.vo x.vn x.vc) hr rfl
        clear bb
        go_wp2_with fail
        clear ge gk gv
        refine (rnum_any _ x.vn 2 (by omega) (by omega)).mono ?_
        rintro e w8 ⟨a8, k8, rfl, oo, gg⟩
        have ho8 := ho7.grown gg
        have hr8 := heap_kept gg hr (by simp)
        have hG8 := grown_trans hG7 gg (by simp)
        have hS8 := hG8.size
        have bb := oo.shows
        clear hr oo gg ho7 hG7
        have hr := hr8
        clear hr8
        have ge := cell_of (i := 0) (v := .int .i64 x.t) hr rfl
        have gk := cell_of (i := 1) (v := .slice x.ko x.kn x.kc) hr rfl
        have gv := cell_of (i := 2) (v := .slice x.vo x.vn x.vc) hr rfl
        go_wp2_with (at_builtin; refine wpList_append_bs _ rfl _ _ 31 rfl w0.heap.size 5 Try.underlying31 Try.info5 rfl ho8 rfl bb (by omega) (by omega) ?_)
        intro a9 c9 w9 ho9 gg
        have hr9 := heap_kept gg hr (ho8.apart hr)
        have hG9 := grown_trans hG8 gg (fun k hk => Or.inr (ho8.from_base k hk).1)
        have hS9 := hG9.size
        clear hr gg ho8 hG8 ge gk gv
        have hr := hr9
        clear hr9
        have ge := cell_of (i := 0) (v := .int .i64 x.t) hr rfl
        have gk := cell_of (i := 1) (v := .slice x.ko x.kn x.kc) hr rfl
        have gv := cell_of (i := 2) (v := .slice x.vo x.vn x.vc) hr rfl
        clear bb ge gk gv
        have ge := cell_of (i := 0) (v := .int .i64 x.t) hr rfl
        have gk := cell_of (i := 1) (v := .slice x.ko x.kn x.kc) hr rfl
        have gv := cell_of (i := 2) (v := .slice x.vo x.vn x.vc) hr rfl
        go_wp2_with (at_builtin; refine wpList_append_bs _ rfl _ _ 31 rfl w0.heap.size 5 Try.underlying31 Try.info5 rfl ho9 rfl (hkk _ hG9).key (by omega) (by omega) ?_)
        intro a10 c10 w10 ho10 gg
        have hr10 := heap_kept gg hr (ho9.apart hr)
        have hG10 := grown_trans hG9 gg (fun k hk => Or.inr (ho9.from_base k hk).1)
        have hS10 := hG10.size
        clear hr gg ho9 hG9 ge gk gv
        have hr := hr10
        clear hr10
        have ge := cell_of (i := 0) (v := .int .i64 x.t) hr rfl
        have gk := cell_of (i := 1) (v := .slice x.ko x.kn x.kc) hr rfl
        have gv := cell_of (i := 2) (v := .slice x.vo x.vn x.vc) hr rfl
        clear ge gk gv
        have ge := cell_of (i := 0) (v := .int .i64 x.t) hr rfl
        have gk := cell_of (i := 1) (v := .slice x.ko x.kn x.kc) hr rfl
        have gv := cell_of (i := 2) (v := .slice x.vo x.vn x.vc) hr rfl
        go_wp2_with (at_builtin; refine wpList_append_bs _ rfl _ _ 31 rfl w0.heap.size 5 Try.underlying31 Try.info5 rfl ho10 rfl (hkk _ hG10).value (by omega) (by omega) ?_)
        intro a11 c11 w11 ho11 gg
        have hr11 := heap_kept gg hr (ho10.apart hr)
        have hG11 := grown_trans hG10 gg (fun k hk => Or.inr (ho10.from_base k hk).1)
        have hS11 := hG11.size
        clear hr gg ho10 hG10 ge gk gv
        have hr := hr11
        clear hr11
        have ge := cell_of (i := 0) (v := .int .i64 x.t) hr rfl
        have gk := cell_of (i := 1) (v := .slice x.ko x.kn x.kc) hr rfl
        have gv := cell_of (i := 2) (v := .slice x.vo x.vn x.vc) hr rfl
        clear ge gk gv hr
        go_wp2
        go_roundw
        case rel => exact ⟨i + 1, N + 8 + 2 + 2 + x.kn + x.vn, _, _, _, by omega, by go_num, rfl, by have := hNe.out; have := hz2.out; omega, (by have := hNe.out; have := hz2.out; omega : N + 8 + 2 + 2 + x.kn + x.vn = 12 + szs (l.take (i + 1))), ho11, (by rw [hfl.out, hrb.out, hL.out]; simp only [List.append_assoc] : L ++ (low T 8 ++ (low x.kn 2 ++ (low x.vn 2 ++ (x.k ++ x.v)))) = i8 base ++ low n 4 ++ ((l.take (i + 1)).map rby).flatten), hG11⟩
        case measure => simp [intOf]; omega
      · obtain rfl : i = n := by omega
        have hd : decide ((i : Int) < (i : Int)) = false := by simp
        have hNl : N = 12 + szs l := by rw [hNe.out, szs_all (by omega)]
        have hLl : L = bodyB base l := by rw [hL.out, List.take_of_length_le (by omega), bodyB, hlen]
        subst hNl
        subst hLl
        go_wp2
        go_ret
        exact ⟨_, _, rfl, ho.rebase (by have := hz0.out; omega), grown_trans ga hG (by simp)⟩
end Go.Proofs.Ytlfgikhjcimppaa
