/-
  What a queue of calls shows: queued, Look.
-/
import Derived.Test.YtkcgpjmjaedlbaaR1
namespace Go.Proofs.Ytkcgpjmjaedlbaa
open Go.RowKit
set_option linter.unusedVariables false
section
variable {P : Program} (w : World)
/-- 'make([]T, n)' of slices. -/
theorem wpList_make_ro24 {ops : Array Oper} {rest : List Oper} {o : Oper} {a : Act} {Q : Exit → Act → World → Prop} (hgd : o.guard = none) (lo co : Operand) (t : TypeId) (ho : o.op = Op.makeSlice t lo co)
    (e : TypeId) (z : Value) (bs : Nat) (ht : P.underlying t = some (.slice e)) (hinfo : (P.info? e).map (fun i => (i.zero, i.size, i.bytes)) = some (some z, 1, bs)) (hz1 : z.cells = #[z]) (hbs : bs ≤ 24)
    (n : Nat) {L C : Int} (hl : a.eval lo = .int .i64 L) (hc : a.eval co = .int .i64 C) (hL : L = (n : Int)) (hC : C = (n : Int)) (hb : n ≤ 1000)
    (h : ∀ w', Ro w' w.heap.size e (List.replicate n z) → w.grownBy w' none → w.heap.size < w'.heap.size → wpList P ops Q rest (a.put o.dst (.slice (some ⟨w.heap.size, 0, none⟩) n n)) w') : wpList P ops Q (o :: rest) a w := by
  obtain ⟨i, hi, hz, hzs, hz2⟩ := info_parts hinfo
  subst hL
  subst hC
  refine wpList_plain hgd fun K hK => ?_
  have hbb : n * i.bytes ≤ 24000 := by rw [hz2]; exact Nat.le_trans (Nat.mul_le_mul hb hbs) (by omega)
  have h8 : i.bytes * n ≤ 24000 := by rw [Nat.mul_comm]; omega
  have h9 : (i.bytes : Int) * (n : Int) ≤ 281474976710656 := by rw [← Int.natCast_mul]; omega
  have hr := run_make (P := P) w t e i z ht hi hz .i64 .i64 n n (by omega) (by omega) h9 (by omega)
  unfold Oper.wp
  simp [execOp, ho, hl, hc, hr, Result.andThen]
  refine hK _ _ (h _ ?_ (World.grownBy_alloc w _ none) (by simp))
  unfold Ro
  rw [heap_alloc_new, hzs, Nat.mul_one, hz1]
  congr 2
  apply Array.ext
  · simp [size_madeCells]
  · intro j h1 h2
    simp [madeCells, Nat.mod_one]
end
/-- All are Produces. -/
def allP (l : List Cl) : Bool := l.all fun c => decide (c.k = 1)
theorem allP_take {l : List Cl} {i : Nat} (h : i < l.length) (hp : allP (l.take i) = true) (hk : (l[i]).k = 1) : allP (l.take (i + 1)) = true := by
  unfold allP at hp ⊢
  rw [List.take_succ_eq_append_getElem h, List.all_append, hp]
  simp [hk]
theorem allP_no {l : List Cl} {i : Nat} (h : i < l.length) (hk : ¬ (l[i]).k = 1) : allP l = false := by
  unfold allP
  rw [List.all_eq_false]
  exact ⟨_, List.getElem_mem h, by simpa using hk⟩
/-- What queued answers. -/
def QueE (w0 : World) (l : List Cl) (e : Ending) (w' : World) : Prop :=
  (allP l = false ∧ e = .returned (.tuple #[.slice none 0 0, .int .i64 2])) ∨
  (allP l = true ∧ ∃ o, e = .returned (.tuple #[.slice (some ⟨o, 0, none⟩) l.length l.length, .int .i64 0]) ∧ Vs w' (some ⟨o, 0, none⟩) l.length l.length ((ys l).map Rl.head))
namespace Rq
set_option maxRecDepth 100000 in
set_option maxHeartbeats 4000000 in
theorem queued_any (w : World) (b g bnd f : Nat) (l : List Cl) (h : Rg w b g bnd f l) :
    Calls Try.prog 43 #[.pointer (some ⟨b, 0, none⟩)] w fun e w' => QueE w l e w' ∧ w.grownBy w' none := by
  have hpos := h.pos
  have hlen := h.len
  have htop := h.top
  have hd0 : decide ((bnd : Int) = 0) = false := by simp; omega
  go_enter Try.func43, Try.ntmps43
  go_wp2_with fail
  refine (bound_any _ b g bnd f _ h.hd hpos).mono ?_
  rintro e w1 ⟨rfl, rfl⟩
  go_wp2_with fail
  refine (len_any _ b g bnd f _ h.hd hpos).mono ?_
  rintro e w1 ⟨rfl, rfl⟩
  go_wp2_with (at_make; refine wpList_make_ro24 _ rfl _ _ 22 rfl 32 (.slice none 0 0) 24 Try.underlying22 Try.info32 rfl (by decide) l.length rfl rfl rfl rfl (by omega) ?_)
  intro w2 hro2 hg2 hs2
  obtain ⟨o, ho⟩ : ∃ o, w1.heap.size = o := ⟨_, rfl⟩
  rw [ho] at hro2 hs2 ⊢
  have hol := hro2.lt
  generalize hn : l.length = n at *
  go_wp2_with fail
  go_loopw [5, 6, 7, 16] (fun _ _ _ i' wr => ∃ (i : Nat) (cur : List Value), i ≤ n ∧ i' = .int .i64 i ∧ Ro wr o 32 cur ∧ cur.length = n ∧ Hid (∀ j, j < i → cur[j]? = ((ys l).map Rl.head)[j]?) ∧ Hid (allP (l.take i) = true) ∧ w1.grownBy wr none ∧ o < wr.heap.size) (fun _ _ _ i' _ => n - (intOf i').toNat)
  case atStart => exact ⟨0, _, Nat.zero_le _, rfl, hro2, by simp, fun j hj => absurd hj (by omega), (by simp [allP] : _ = _), hg2, hol⟩
  case round =>
    obtain ⟨i, cur, hi, rfl, hro, hcl, hcs, hap, hgr, hor⟩ := hrel
    have hA := h.grown hgr
    by_cases hlt : i < n
    · have h1 : i < l.length := by omega
      have hd : decide ((i : Int) < (n : Int)) = true := by simp; omega
      have hu := List.getElem?_eq_getElem h1
      have hyu : Hid (((ys l).map Rl.head)[i]? = some (l[i]).y.head) := by show _ = _; unfold ys; simp [h1]
      have hap1 : (l[i]).k = 1 → Hid (allP (l.take (i + 1)) = true) := fun hk => allP_take h1 hap.out hk
      have hap0 : ¬ (l[i]).k = 1 → Hid (allP l = false) := fun hk => allP_no h1 hk
      have hpk := peek_any wr b g bnd f i l _ hA hu
      generalize l[i] = u at *
      unfold Cl.val at hpk
      have i1 : (0 : Int) ≤ (i : Int) := by omega
      have i2 : (i : Int) < (n : Int) := by omega
      go_wp2_with fail
      refine hpk.mono ?_
      rintro e w3 ⟨rfl, hg3⟩
      have hro3 := hro.grown hg3
      have hgr3 := grown_trans hgr hg3 (by simp)
      have hs3 := hg3.size
      clear hpk hro hA hu
      have hX : ∀ W, w3.grownBy W none → ∃ v, W.cell? ⟨o, i, none⟩ = some v ∧ ∀ q, W.frozen? ⟨o, q, none⟩ = false := fun W hW => by
        have h9 := hro3.grown hW
        exact ⟨cur[i], by rw [h9.cell, List.getElem?_eq_getElem (by omega)], h9.frozen⟩
      have ga := alloc_grown w3 (.cells #[.int .i64 u.k, .int .i64 u.p, .slice u.y.o u.y.n u.y.c, .int .i64 u.b, .int .i64 u.i] 55)
      by_cases hk : u.k = 1
      · have hap2 := hap1 hk
        have hkd : (u.k != 1) = false := by simpa using hk
        obtain ⟨v, a1, af⟩ := hX _ ga
        have hroA := hro3.grown ga
        have hroB := (hroA.set i (.slice u.y.o u.y.n u.y.c)).1
        have hcB := (hroA.set i (.slice u.y.o u.y.n u.y.c)).2
        have hgB : w1.grownBy ((w3.alloc (.cells #[.int .i64 u.k, .int .i64 u.p, .slice u.y.o u.y.n u.y.c, .int .i64 u.b, .int .i64 u.i] 55)).setCell ⟨o, i, none⟩ (.slice u.y.o u.y.n u.y.c)) none :=
          (((Chg.of_grown hgr3 (fun k => k = o)).trans (Chg.of_grown ga _)).trans hcB).grown (fun k hk e => by omega)
        have hcsB : Hid (∀ j, j < i + 1 → (cur.set i (.slice u.y.o u.y.n u.y.c))[j]? = ((ys l).map Rl.head)[j]?) := fun j hj => by
          by_cases hji : j = i
          · subst hji
            rw [List.getElem?_set_self (by omega), hyu.out]
            rfl
          · rw [List.getElem?_set_ne (Ne.symm hji)]
            exact hcs.out j (by omega)
        have hsB := hgB.size
        have hoB : o < ((w3.alloc (.cells #[.int .i64 u.k, .int .i64 u.p, .slice u.y.o u.y.n u.y.c, .int .i64 u.b, .int .i64 u.i] 55)).setCell ⟨o, i, none⟩ (.slice u.y.o u.y.n u.y.c)).heap.size := hroB.lt
        clear hX hro3 hroA hcB ga hap1 hap0 hcs hyu hsB hk
        go_wp2
        go_roundw
        case rel => exact ⟨i + 1, _, by omega, by go_num, hroB, by simp [hcl], hcsB, hap2, hgB, hoB⟩
        case measure => simp [intOf]; omega
      · have hap2 := hap0 hk
        have hkd : (u.k != 1) = true := by simpa using hk
        have hG := grown_trans hgr3 ga (by simp)
        clear hX hro3 hap1 hap0 hcs hyu
        go_wp2
        go_ret2
        exact ⟨Or.inl ⟨hap2.out, rfl⟩, hG⟩
    · obtain rfl : i = n := by omega
      have hd : decide ((i : Int) < (i : Int)) = false := by simp
      have hap2 : Hid (allP l = true) := by have := hap.out; rw [List.take_of_length_le (by omega)] at this; exact this
      have hcur : Hid (cur = (ys l).map Rl.head) := by
        apply List.ext_getElem?
        intro j
        by_cases hj : j < i
        · exact hcs.out j hj
        · rw [List.getElem?_eq_none (by omega), List.getElem?_eq_none (by simp [ys_len]; omega)]
      clear hcs hap
      go_wp2
      go_ret2
      refine ⟨Or.inr ⟨hap2.out, o, by rw [hn]; rfl, ?_⟩, hgr⟩
      rw [hn]
      have hsh := hro.shows (fun u hu => by rw [hcur.out] at hu; obtain ⟨x, _, rfl⟩ := List.mem_map.1 hu; rfl) (by unfold maxLen; omega)
      rw [hcl] at hsh
      rw [← hcur.out]
      exact hsh
end Rq
end Go.Proofs.Ytkcgpjmjaedlbaa
