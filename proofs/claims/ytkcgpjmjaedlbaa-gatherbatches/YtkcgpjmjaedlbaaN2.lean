/-
  Batches: the walk.
-/
import Derived.Test.YtkcgpjmjaedlbaaN1
namespace Go.Proofs.Ytkcgpjmjaedlbaa
open Go.RowKit
set_option linter.unusedVariables false

/-- The row of batches as it is filled. -/
structure Fill (w : World) (gb pl : Nat) (bs : List (Int × Rl)) : Prop where
  row : ∃ cur, w.heap[gb]? = some (.cells cur 94 (0, 0)) ∧ cur.size = pl * 2 ∧ ∀ j x, bs[j]? = some x → cur[j * 2]? = some (.int .i64 x.1) ∧ cur[j * 2 + 1]? = some (.slice x.2.o x.2.n x.2.c)
  each : ∀ x ∈ bs, Rs w x.2.o x.2.n x.2.c x.2.l ∧ Rin (gb + 1) w.heap.size x.2
theorem Fill.grown {w w' : World} {gb pl : Nat} {bs : List (Int × Rl)} (h : Fill w gb pl bs) (hg : w.grownBy w' none) : Fill w' gb pl bs := by
  obtain ⟨cur, h1, h2, h3⟩ := h.row
  exact ⟨⟨cur, heap_kept hg h1 (by simp), h2, h3⟩, fun x hx => ⟨(h.each x hx).1.grown hg, (h.each x hx).2.mono (Nat.le_refl _) hg.size⟩⟩
theorem Fill.set {w : World} {gb pl : Nat} {bs : List (Int × Rl)} (h : Fill w gb pl bs) (hl : bs.length < pl) (x : Int × Rl) (hx : Rs w x.2.o x.2.n x.2.c x.2.l) (hr : Rin (gb + 1) w.heap.size x.2) :
    Fill ((w.setCell ⟨gb, bs.length * 2, none⟩ (.int .i64 x.1)).setCell ⟨gb, bs.length * 2 + 1, none⟩ (.slice x.2.o x.2.n x.2.c)) gb pl (bs ++ [x]) := by
  obtain ⟨cur, h1, h2, h3⟩ := h.row
  have hsz : ∀ (w : World) i v, (w.setCell ⟨gb, i, none⟩ v).heap.size = w.heap.size := fun w i v => by simp
  have e1 : (w.setCell ⟨gb, bs.length * 2, none⟩ (.int .i64 x.1)).heap[gb]? = some (.cells (cur.setIfInBounds (bs.length * 2) (.int .i64 x.1)) 94 (0, 0)) := by
    rw [setCell_eq_setRow w gb _ cur 94 (0, 0) _ h1]; exact setRow_heap w gb cur _ 94 _ h1
  have e2 := setRow_heap _ gb _ ((cur.setIfInBounds (bs.length * 2) (.int .i64 x.1)).setIfInBounds (bs.length * 2 + 1) (.slice x.2.o x.2.n x.2.c)) 94 (0, 0) e1
  rw [← setCell_eq_setRow _ gb _ _ 94 (0, 0) _ e1] at e2
  have hE : Eqv (gb + 1) w.heap.size w ((w.setCell ⟨gb, bs.length * 2, none⟩ (.int .i64 x.1)).setCell ⟨gb, bs.length * 2 + 1, none⟩ (.slice x.2.o x.2.n x.2.c)) :=
    ⟨Nat.le_refl _, by simp, fun k h4 h5 => by
      rw [Below.heap_setCell _ _ _ _ (by show _ ≠ gb; omega), Below.heap_setCell _ _ _ _ (by show _ ≠ gb; omega)]⟩
  have hs2 : ((w.setCell ⟨gb, bs.length * 2, none⟩ (.int .i64 x.1)).setCell ⟨gb, bs.length * 2 + 1, none⟩ (.slice x.2.o x.2.n x.2.c)).heap.size = w.heap.size := by rw [hsz, hsz]
  refine ⟨⟨_, e2, by simp [h2], fun j y hy => ?_⟩, fun y hy => ?_⟩
  · by_cases hj : j < bs.length
    · rw [List.getElem?_append_left hj] at hy
      obtain ⟨q1, q2⟩ := h3 j y hy
      refine ⟨?_, ?_⟩
      · rw [Array.getElem?_setIfInBounds_ne (by omega), Array.getElem?_setIfInBounds_ne (by omega)]; exact q1
      · rw [Array.getElem?_setIfInBounds_ne (by omega), Array.getElem?_setIfInBounds_ne (by omega)]; exact q2
    · have hj2 : j < bs.length + 1 := by have := (List.getElem?_eq_some_iff.1 hy).1; simpa using this
      obtain rfl : j = bs.length := by omega
      have : y = x := by simpa using hy.symm
      subst this
      refine ⟨?_, ?_⟩
      · rw [Array.getElem?_setIfInBounds_ne (by omega), Array.getElem?_setIfInBounds_self, if_pos (by omega)]
      · rw [Array.getElem?_setIfInBounds_self, if_pos (by simp; omega)]
  · rw [hs2]
    rcases List.mem_append.1 hy with hy | hy
    · exact ⟨(h.each y hy).1.eqv hE (h.each y hy).2, (h.each y hy).2⟩
    · obtain rfl : y = x := by simpa using hy
      exact ⟨hx.eqv hE hr, hr⟩

set_option maxRecDepth 100000 in
set_option maxHeartbeats 4000000 in
theorem batches_ok (w : World) (take base : Int) (ao : Option Addr) (n cap : Nat) (L : List Rl) (ha : Ls w ao n cap L) (hs : ∀ x ∈ L, x.n ≤ 4096) (hn3 : n ≤ 300) (hr : refR take L = 0) (hb0 : 0 ≤ base) (hb1 : base ≤ 9007199254740992) (hle : base + ((flat L).length : Nat) ≤ 9007199254740993) :
    Calls Try.prog 33 #[.int .i64 take, .int .i64 base, .slice ao n cap] w fun e w' => (∃ bb bp gb po pl pc ps bs, e = .returned (.tuple #[.func (.func 48) #[] #[.pointer (some ⟨bb, 0, none⟩), .pointer (some ⟨bp, 0, none⟩)], .int .i64 0]) ∧ Bt w' w.heap.size w'.heap.size bb bp gb po pl pc ps bs ∧ Pn take L ps ∧ Bsay base L ps bs) ∧ w.grownBy w' none := by
  have hlen := ha.len
  have hp := plan_ok w take ao n cap L ha hs (by omega) hr
  obtain ⟨ht, hl⟩ := refR_pos hr
  clear hr
  have hmf : ∀ (fn : Fn) (first cap : Array Value) (w : World), (Instr.makeFunc fn first cap).run Try.prog w = .ok (.func fn first cap) w := fun _ _ _ _ => rfl
  go_enter Try.func33, Try.ntmps33
  go_wp2_with fail
  refine hp.mono ?_
  rintro e w1 ⟨⟨ps, po, pc, rfl, hPn, hV⟩, hg1⟩
  have hpl := hPn.len
  have hsum := hPn.sum
  have hpos := hPn.pos
  have ga := alloc_grown w1 (.cells #[.slice po ps.length pc] 29)
  have kP := heap_alloc_new w1 (.cells #[.slice po ps.length pc] 29)
  have hG1 := grown_trans hg1 ga (by simp)
  have ho := offsets_ok (w1.alloc (.cells #[.slice po ps.length pc] 29)) base ao n cap L (ha.grown hG1) hs (by omega) hb0 hb1 hl
  have hV1 := hV.grown ga
  have hP1 : w.heap.size ≤ w1.heap.size := hg1.size
  clear hp hV
  go_wp2_with fail
  refine ho.mono ?_
  rintro e w2 ⟨hO, hg2⟩
  obtain ⟨gf, rfl, hgf, hRo⟩ : ∃ gf, e = .returned (.tuple #[.slice (some ⟨gf, 0, none⟩) n n, .int .i64 (base + ((flat L).length : Nat)), .int .i64 0]) ∧ (w1.alloc (.cells #[.slice po ps.length pc] 29)).heap.size ≤ gf ∧ Ro w2 gf 2 (offL base L n) := by
    rcases hO with ⟨h1, _⟩ | ⟨_, gf, h1, h2, h3⟩
    · omega
    · exact ⟨gf, h1, h2, h3⟩
  have kP2 := heap_kept hg2 kP (by simp)
  have cP2 := cell_of (i := 0) (v := .slice po ps.length pc) kP2 rfl
  have hG2 := grown_trans hG1 hg2 (by simp)
  have hV2 := hV1.grown hg2
  obtain ⟨bp, hbp⟩ : ∃ bp, w1.heap.size = bp := ⟨_, rfl⟩
  rw [hbp] at kP2 cP2 ⊢
  have hbp1 : w.heap.size ≤ bp := by omega
  have hbp2 : bp < w2.heap.size := lt_of_heap kP2
  clear ho hO kP ga hg1 hg2 hV1 hG1 hbp hgf
  generalize hpll : ps.length = pl at *
  go_wp2_with (at_make; refine wpList_make_bts _ rfl _ _ rfl pl rfl rfl (by omega) ?_)
  intro cur w3 kG hcs hg3 hsz3
  have gb2 := alloc_grown w3 (.cells #[.slice (some ⟨w2.heap.size, 0, none⟩) pl pl] 92)
  have kB := heap_alloc_new w3 (.cells #[.slice (some ⟨w2.heap.size, 0, none⟩) pl pl] 92)
  have hg23 := grown_trans hg3 gb2 (by simp)
  have hF0 : Fill (w3.alloc (.cells #[.slice (some ⟨w2.heap.size, 0, none⟩) pl pl] 92)) w2.heap.size pl [] := ⟨⟨cur, heap_kept gb2 kG (by simp), hcs, fun j x hx => by simp at hx⟩, fun x hx => by cases hx⟩
  have kP3 := heap_kept hg23 kP2 (by simp)
  have cP3 := cell_of (i := 0) (v := .slice po pl pc) kP3 rfl
  have hV3 := hV2.grown hg23
  have hRo3 := hRo.grown hg23
  have hG3 := grown_trans hG2 hg23 (by simp)
  have hgfl := hRo.lt
  obtain ⟨gb, hgb⟩ : ∃ gb, w2.heap.size = gb := ⟨_, rfl⟩
  have hbb : w3.heap.size = gb + 1 := by omega
  have hW3 : (w3.alloc (.cells #[.slice (some ⟨w2.heap.size, 0, none⟩) pl pl] 92)).heap.size = gb + 2 := by simp [hbb]
  have hgw : w.heap.size ≤ gb := by have := hG2.size; omega
  rw [hbb] at kB
  rw [hgb] at kB hF0 hgfl hbp2 kP3 cP3 hV3 hRo3 hG3 hW3
  have hVlt : ∀ k, blk po = some k → w.heap.size ≤ k ∧ k < gb := fun k hk => by have := hV2.from_base k hk; omega
  clear cP2 kP2 hV2 hRo hG2 hg3 gb2 kG hg23
  go_wp2_with fail
  clear hgb hbb hsz3
  generalize w3.alloc (.cells #[.slice (some ⟨gb, 0, none⟩) pl pl] 92) = w4 at *
  go_loopw [13, 14, 15, 40] (fun s' _ _ i' wr => ∃ (i s : Nat) (bs : List (Int × Rl)), i ≤ pl ∧ i' = .int .i64 i ∧ s' = .int .i64 s ∧ Hid ((ps.take i).sum = s) ∧ bs.length = i ∧ Fill wr gb pl bs ∧ Hid (Bsay base L ps bs) ∧ w4.grownBy wr (some gb) ∧ w.grownBy wr none) (fun _ _ _ i' _ => pl - (intOf i').toNat)
  case atStart => exact ⟨0, 0, [], Nat.zero_le _, rfl, rfl, (by simp : _ = _), rfl, hF0, (fun j x p hx => by simp at hx), grown_refl _ _, hG3⟩
  case round =>
    obtain ⟨i, s, bs, hi, rfl, rfl, hS, hbl, hF, hB, hg4, hG⟩ := hrel
    by_cases hlt : i < pl
    · have h1 : i < ps.length := by omega
      obtain ⟨p, hpe⟩ : ∃ p, ps[i] = p := ⟨_, rfl⟩
      have hp1 : 1 ≤ p := hpos p (by rw [← hpe]; exact List.getElem_mem h1)
      have hS1 : Hid ((ps.take (i + 1)).sum = s + p) := by show _ = _; rw [sum_take_succ h1, hS.out, hpe]
      have hsp : s + p ≤ n := by have h9 := sum_take_le ps (i + 1); rw [hS1.out, hsum, hlen] at h9; exact h9
      obtain ⟨b, o, rfl, hbl2⟩ := ha.vs.addr (by omega)
      obtain ⟨pb, hpo, _, _⟩ := hV3.addr (by omega)
      subst hpo
      have hpb := hVlt pb rfl
      have hroom := ha.vs.room
      have cP : ∀ W, w4.grownBy W (some gb) → W.cell? ⟨pb, i, none⟩ = some (.int .i64 (p : Nat)) := fun W hW => by
        have h9 := hV3.shows.at (j := i) (u := iv p) (by rw [List.getElem?_map, List.getElem?_eq_getElem h1, hpe]; rfl)
        rw [Nat.zero_add] at h9
        exact hW.cell h9 (by simp; omega)
      have cF : ∀ W, w4.grownBy W (some gb) → W.cell? ⟨gf, s, none⟩ = some (.int .i64 (base + ((flat (L.take s)).length : Nat))) := fun W hW => by
        have h9 : w4.cell? ⟨gf, s, none⟩ = some (.int .i64 (base + ((flat (L.take s)).length : Nat))) := by
          rw [hRo3.cell]
          unfold offL
          rw [List.getElem?_map, List.getElem?_range (by omega)]
          rfl
        exact hW.cell h9 (by simp; omega)
      have cB : ∀ W, w4.grownBy W (some gb) → W.cell? ⟨gb + 1, 0, none⟩ = some (.slice (some ⟨gb, 0, none⟩) pl pl) := fun W hW => cell_of (i := 0) (heap_kept hW kB (by simp)) rfl
      have hLs : ∀ W, w.grownBy W none → Ls W (some ⟨b, o + s, none⟩) p (cap - s) ((L.drop s).take p) := fun W hW => by
        have h9 := ha.grown hW
        exact h9.part (h9.vs.cut s p hsp (o + s) (Or.inr rfl) (cap - s) (by omega) (by have := h9.vs.top; omega)) (Or.inr ⟨_, _, rfl⟩)
      have hfl : (flat ((L.drop s).take p)).length ≤ 100000 := by have := flat_len (lref_part hl s p); omega
      have hjn : ∀ W, w.grownBy W none → Calls Try.prog 41 #[.slice (some ⟨b, o + s, none⟩) p (cap - s)] W fun e w' => ∃ g rs, e = .returned (.slice (some ⟨g, 0, none⟩) (flat ((L.drop s).take p)).length (flat ((L.drop s).take p)).length) ∧ W.heap.size ≤ g ∧ Rw w' g (some ⟨g, 0, none⟩) (flat ((L.drop s).take p)).length (flat ((L.drop s).take p)).length rs ∧ ds rs = ds (flat ((L.drop s).take p)) ∧ (∀ r ∈ rs, Own w' (g + 1) r) ∧ W.grownBy w' none := fun W hW => joined_any W _ _ _ _ (hLs W hW) (by omega) hfl
      have hBn : Hid (∀ x : Int × Rl, x.1 = base + ((flat (L.take s)).length : Nat) → x.2.n = (flat ((L.drop s).take p)).length → ds x.2.l = ds (flat ((L.drop s).take p)) → Bsay base L ps (bs ++ [x])) := fun x h2 h3 h4 j y q hy hq => by
        by_cases hj : j < bs.length
        · rw [List.getElem?_append_left hj] at hy
          exact hB.out j y q hy hq
        · have hj2 : j < bs.length + 1 := by have := (List.getElem?_eq_some_iff.1 hy).1; simpa using this
          obtain rfl : j = i := by omega
          obtain rfl : y = x := by rw [List.getElem?_append_right (by omega), hbl, Nat.sub_self] at hy; simpa using hy.symm
          obtain rfl : q = p := by rw [List.getElem?_eq_getElem h1, hpe] at hq; exact (Option.some.inj hq).symm
          rw [hS.out]
          exact ⟨h2, h3, h4⟩
      generalize (flat ((L.drop s).take p)).length = NN at *
      generalize hFB : base + ((flat (L.take s)).length : Nat) = FB at *
      obtain ⟨T, hT, hTw, t0, t1, t2⟩ : ∃ T : Nat, (s : Int) + (p : Int) = (T : Int) ∧ IntKind.i64.wrap (T : Int) = (T : Int) ∧ (0 : Int) ≤ (T : Int) ∧ (s : Int) ≤ (T : Int) ∧ (T : Int) ≤ (cap : Int) := ⟨s + p, by push_cast; rfl, by rw [IntWalk.i64_in _ (by push_cast; omega)], by omega, by push_cast; omega, by push_cast; omega⟩
      have hTs : T - s = p := by omega
      have hcs0 : ¬ cap = s := by omega
      have hd : decide ((i : Int) < (pl : Int)) = true := by simp; omega
      have i1 : (0 : Int) ≤ (i : Int) := by omega
      have i2 : (i : Int) < (pl : Int) := by omega
      have s1 : (0 : Int) ≤ (s : Int) := by omega
      have s2 : (s : Int) < (n : Int) := by omega
      have a1 := cP _ hg4
      have a2 := cF _ hg4
      have a3 := cB _ hg4
      obtain ⟨cur9, hc9, hc9s, _⟩ := hF.row
      clear hS hB hLs
      have hrowc : ∀ W, wr.grownBy W none → ∃ v1 v2, W.cell? ⟨gb, i * 2, none⟩ = some v1 ∧ W.cell? ⟨gb, i * 2 + 1, none⟩ = some v2 ∧ ∀ q, W.frozen? ⟨gb, q, none⟩ = false := fun W hW => by
        have h9 := heap_kept hW hc9 (by simp)
        exact ⟨_, _, cell_of h9 (Array.getElem?_eq_getElem (by omega)), cell_of h9 (Array.getElem?_eq_getElem (by omega)), frozen_of h9⟩
      have hne1 : some gf ≠ some gb := by simp; omega
      have hne2 : some (gb + 1) ≠ some gb := by simp
      go_wp2_with fail
      go_region_held3 (fun w' => w'.cell? ⟨gf, s, none⟩ = some (.int .i64 FB) ∧ w'.cell? ⟨gb + 1, 0, none⟩ = some (.slice (some ⟨gb, 0, none⟩) pl pl)) (first | exact ⟨a2, a3⟩ | exact ⟨m2, m3⟩ | exact ⟨(setCell_grown _ _ _ _).cell ((setCell_grown _ _ _ _).cell m2 hne1) hne1, (setCell_grown _ _ _ _).cell ((setCell_grown _ _ _ _).cell m3 hne2) hne2⟩ | exact ⟨(setCell_grown _ _ _ _).cell m2 hne1, (setCell_grown _ _ _ _).cell m3 hne2⟩ | go_keep)
        ((go_at_call 41; refine (hjn _ (grown_trans hG (grown_drewN wr 1 none) (by simp))).mono ?_; rintro e w5 ⟨g, rs, rfl, hgg, hRw, hDs, hOw, hg5⟩; have hgd : wr.grownBy w5 none := grown_trans (grown_drewN wr 1 none) hg5 (by simp); have hg45 : w4.grownBy w5 (some gb) := grown_trans hg4 hgd (by simp); have m2 := cF _ hg45; have m3 := cB _ hg45; obtain ⟨v1, v2, n1, n2, nf⟩ := hrowc _ hgd))
      have hRs := hRw.shows (fun r hr => (hOw r hr).rk)
      have hggl : gb + 1 ≤ g := by have h8 := hg4.size; have h7 : (wr.drewN 1).heap.size = wr.heap.size := rfl; omega
      have hRin : Rin (gb + 1) w5.heap.size ⟨some ⟨g, 0, none⟩, NN, NN, rs⟩ := ⟨fun a ha => by cases ha; exact ⟨hggl, (hRw.from_base g rfl).2⟩, fun r hr a ha => ⟨by have := ((hOw r hr).kin a ha).1; omega, ((hOw r hr).kin a ha).2⟩, fun r hr a ha => ⟨by have := ((hOw r hr).vin a ha).1; omega, ((hOw r hr).vin a ha).2⟩⟩
      have hF6 := (hF.grown hgd).set (by omega) (FB, ⟨some ⟨g, 0, none⟩, NN, NN, rs⟩) hRs hRin
      rw [hbl] at hF6
      have hB6 : Hid (Bsay base L ps (bs ++ [(FB, ⟨some ⟨g, 0, none⟩, NN, NN, rs⟩)])) := hBn.out _ rfl rfl hDs
      have q9 := grown_trans (setCell_grown w5 gb (i * 2) (.int .i64 FB)) (setCell_grown _ gb (i * 2 + 1) (.slice (some ⟨g, 0, none⟩) NN NN)) (fun k hk => Or.inl hk)
      have hg46 := grown_trans hg45 q9 (fun k hk => Or.inl hk)
      have hG6 := grown_trans (grown_trans hG hgd (by simp)) q9 (fun k hk => Or.inr (by cases hk; exact hgw))
      clear hRw hOw hRs hRin hDs hF m2 m3 a1 a2 a3 n1 n2 nf q9 hBn hjn cP cF cB hrowc
      go_wp2
      go_roundw
      case rel => exact ⟨i + 1, s + p, _, by omega, by go_num, by rw [← hT]; push_cast; rfl, hS1, by simp [hbl], hF6, hB6, hg46, hG6⟩
      case measure => simp [intOf]; omega
    · obtain rfl : i = pl := by omega
      have hd : decide ((i : Int) < (i : Int)) = false := by simp
      go_wp2
      go_ret2
      obtain ⟨cur9, hc9, hc9s, hcr⟩ := hF.row
      have hsz := hg4.size
      refine ⟨⟨gb + 1, bp, gb, po, i, pc, ps, bs, rfl, ⟨Nat.le_refl _, heap_kept hg4 kB (by simp), heap_kept hg4 kP3 (by simp; omega), ⟨by omega, by omega⟩, ⟨by omega, by omega⟩, ⟨by omega, by omega⟩, fun a ha => ?_, hpll, hbl, (hV3.kept hg4 ?_).shows, fun j x hx => ?_⟩, hPn, hB.out⟩, hG⟩
      · have := hVlt a.block (by rw [ha]; rfl)
        omega
      · cases hpo : blk po with
        | none => exact Or.inl rfl
        | some k => have := hVlt k hpo; right; simp; omega
      · obtain ⟨c1, c2⟩ := hcr j x hx
        obtain ⟨h3, h4⟩ := hF.each x (List.mem_of_getElem? hx)
        exact ⟨cell_of hc9 c1, cell_of hc9 c2, h3, h4.mono (by omega) (Nat.le_refl _)⟩
end Go.Proofs.Ytkcgpjmjaedlbaa
