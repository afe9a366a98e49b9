/-
  The walk of the reader's List.
-/
import Derived.Test.YtocicepnlepfeaaLists2
namespace Go.Proofs.Ytocicepnlepfeaa
open Go.RowKit
set_option linter.unusedVariables false

def sItem (l : List UInt8) : List UInt8 := (l.drop 4).take (val (l.take 4))
def sRest (l : List UInt8) : List UInt8 := (l.drop 4).drop (val (l.take 4))
/-- What is left behind k strings. -/
def rst : Nat → List UInt8 → List UInt8
  | 0, l => l
  | k + 1, l => sRest (rst k l)
/-- The first k strings. -/
def its : Nat → List UInt8 → List (List UInt8)
  | 0, _ => []
  | k + 1, l => its k l ++ [sItem (rst k l)]
/-- The first error among k strings of at most m bytes. -/
def lErr (m : Nat) : Nat → List UInt8 → Nat
  | 0, _ => 0
  | k + 1, l => if lErr m k l ≠ 0 then lErr m k l else sErr (rst k l) m
theorem sItem_le (l : List UInt8) : (sItem l).length ≤ l.length := by simp only [sItem, List.length_take, List.length_drop]; omega
theorem rst_le (k : Nat) (l : List UInt8) : (rst k l).length ≤ l.length := by
  induction k with
  | zero => exact Nat.le_refl _
  | succ k ih => simp only [rst, sRest, List.length_drop]; omega
theorem its_length (k : Nat) (l : List UInt8) : (its k l).length = k := by
  induction k with
  | zero => rfl
  | succ k ih => simp [its, ih]
theorem lErr_mono {m k c : Nat} {l : List UInt8} (h : lErr m k l ≠ 0) (hk : k ≤ c) : lErr m c l = lErr m k l := by
  induction c with
  | zero => obtain rfl : k = 0 := by omega
            rfl
  | succ c ih =>
    by_cases e : k = c + 1
    · rw [e]
    · have h1 := ih (by omega)
      rw [lErr, if_pos (by rw [h1]; exact h), h1]
theorem lErr_zero {m k c : Nat} {l : List UInt8} (h : lErr m c l = 0) (hk : k ≤ c) : lErr m k l = 0 := by
  by_cases h1 : lErr m k l = 0
  · exact h1
  · rw [lErr_mono h1 hk] at h; exact h
theorem lErr_step {m k c : Nat} {l : List UInt8} (h : lErr m c l = 0) (hk : k < c) : sErr (rst k l) m = 0 := by
  have h1 := lErr_zero h hk
  have h2 := lErr_zero h (Nat.le_of_lt hk)
  rw [lErr, if_neg (by simp [h2])] at h1
  exact h1
theorem its_take {k c : Nat} (l : List UInt8) (h : k ≤ c) : (its c l).take k = its k l := by
  induction c with
  | zero => obtain rfl : k = 0 := by omega
            rfl
  | succ c ih =>
    by_cases e : k = c + 1
    · rw [e, List.take_of_length_le (by rw [its_length]; exact Nat.le_refl _)]
    · rw [its, List.take_append_of_le_length (by rw [its_length]; omega), ih (by omega)]
theorem its_get {k c : Nat} (l : List UInt8) (h : k < c) : (its c l)[k]? = some (sItem (rst k l)) := by
  have h1 : ((its c l).take (k + 1))[k]? = (its c l)[k]? := by rw [List.getElem?_take, if_pos (by omega)]
  rw [← h1, its_take l h, its, List.getElem?_append_right (by rw [its_length]; exact Nat.le_refl _), its_length]
  simp

/-- Of the slices us the first q are copies of their own, in blocks of their own. -/
structure FrsTo (w : World) (base : Nat) (us : List (Option Addr × Nat × Nat)) (ls : List (List UInt8)) (q : Nat) : Prop where
  own : ∀ (j : Nat) (u : Option Addr × Nat × Nat) (s : List UInt8), j < q → us[j]? = some u → ls[j]? = some s → ∃ gg, u = (some ⟨gg, 0, none⟩, s.length, s.length) ∧ Ow w base 5 (some ⟨gg, 0, none⟩) s.length s.length s
  apart : ∀ (i j : Nat) (u v : Option Addr × Nat × Nat), i < j → j < q → us[i]? = some u → us[j]? = some v → blk u.1 ≠ blk v.1

/-- The slices us show ls, and from q on they lie in block g. -/
structure InG (w : World) (g : Nat) (us : List (Option Addr × Nat × Nat)) (ls : List (List UInt8)) (q : Nat) : Prop where
  shows : ∀ (j : Nat) (u : Option Addr × Nat × Nat) (s : List UInt8), q ≤ j → us[j]? = some u → ls[j]? = some s → Bs w u.1 u.2.1 u.2.2 s ∧ blk u.1 = some g

theorem InG.kept {w w' : World} {g q : Nat} {us : List (Option Addr × Nat × Nat)} {ls : List (List UInt8)} {row : Option Nat} (h : InG w g us ls q) (hg : w.grownBy w' row) (hne : some g ≠ row) : InG w' g us ls q := by
  refine ⟨fun j u s hj hu hs => ?_⟩
  obtain ⟨h1, h2⟩ := h.shows j u s hj hu hs
  exact ⟨h1.kept hg (fun a ha => by rw [ha] at h2; simp only [blk, Option.map_some] at h2; rw [h2]; exact hne), h2⟩

theorem InG.snoc {w : World} {g k : Nat} {us : List (Option Addr × Nat × Nat)} {l : List UInt8} {v : Option Addr × Nat × Nat} (h : InG w g us (its k l) 0) (hk : us.length = k) (hb : Bs w v.1 v.2.1 v.2.2 (sItem (rst k l))) (hv : blk v.1 = some g) : InG w g (us ++ [v]) (its (k + 1) l) 0 := by
  refine ⟨fun j u s _ hu hs => ?_⟩
  by_cases hj : j < k
  · rw [List.getElem?_append_left (by omega)] at hu
    rw [its, List.getElem?_append_left (by rw [its_length]; omega)] at hs
    exact h.shows j u s (Nat.zero_le _) hu hs
  · have hj2 : j = k := by
      have := (List.getElem?_eq_some_iff.1 hu).1
      simp at this; omega
    subst hj2
    rw [List.getElem?_append_right (by omega), hk, Nat.sub_self] at hu
    rw [its, List.getElem?_append_right (by rw [its_length]; exact Nat.le_refl _), its_length, Nat.sub_self] at hs
    simp at hu hs
    subst hu hs
    exact ⟨hb, hv⟩

theorem InG.set {w : World} {g q : Nat} {us : List (Option Addr × Nat × Nat)} {ls : List (List UInt8)} (h : InG w g us ls q) (x : Option Addr × Nat × Nat) : InG w g (us.set q x) ls (q + 1) :=
  ⟨fun j u s hj hu hs => h.shows j u s (by omega) (by rw [List.getElem?_set_ne (by omega)] at hu; exact hu) hs⟩

theorem FrsTo.kept {w w' : World} {base q : Nat} {us : List (Option Addr × Nat × Nat)} {ls : List (List UInt8)} {row : Option Nat} (h : FrsTo w base us ls q) (hg : w.grownBy w' row) (hne : ∀ k, base ≤ k → row ≠ some k) : FrsTo w' base us ls q := by
  refine ⟨fun j u s hj hu hs => ?_, h.apart⟩
  obtain ⟨gg, h1, h2⟩ := h.own j u s hj hu hs
  exact ⟨gg, h1, h2.kept hg (Or.inr (fun e => hne gg ((h2.from_base gg rfl).1) e.symm))⟩

theorem FrsTo.grown {w w' : World} {base q : Nat} {us : List (Option Addr × Nat × Nat)} {ls : List (List UInt8)} (h : FrsTo w base us ls q) (hg : w.grownBy w' none) : FrsTo w' base us ls q := h.kept hg (by simp)

theorem FrsTo.rebase {w : World} {base base' q : Nat} {us : List (Option Addr × Nat × Nat)} {ls : List (List UInt8)} (h : FrsTo w base us ls q) (hb : base' ≤ base) : FrsTo w base' us ls q :=
  ⟨fun j u s hj hu hs => by obtain ⟨gg, h1, h2⟩ := h.own j u s hj hu hs; exact ⟨gg, h1, h2.rebase hb⟩, h.apart⟩

/-- Writes into the row of slices itself leave the copies as they are. -/
theorem FrsTo.row {w w' : World} {base base' q n c : Nat} {us vs : List (Option Addr × Nat × Nat)} {ls : List (List UInt8)} {lo : Option Addr} (h : FrsTo w base us ls q) (hr : Lr w base' 22 lo n c vs) (hg : w.grownBy w' (blk lo)) : FrsTo w' base us ls q :=
  ⟨fun j u s hj hu hs => by obtain ⟨gg, h1, h2⟩ := h.own j u s hj hu hs; exact ⟨gg, h1, h2.kept hg (hr.apart h2 (by decide))⟩, h.apart⟩

/-- One copy more. -/
theorem FrsTo.set {w : World} {base q gg : Nat} {us : List (Option Addr × Nat × Nat)} {ls : List (List UInt8)} {s : List UInt8} (h : FrsTo w base us ls q) (hs : ls[q]? = some s) (ho : Ow w base 5 (some ⟨gg, 0, none⟩) s.length s.length s) (hq : q < us.length)
    (hnew : ∀ (j : Nat) (u : Option Addr × Nat × Nat), j < q → us[j]? = some u → blk u.1 ≠ some gg) : FrsTo w base (us.set q (some ⟨gg, 0, none⟩, s.length, s.length)) ls (q + 1) := by
  refine ⟨fun j u t hj hu ht => ?_, fun i j u v hij hj hu hv => ?_⟩
  · by_cases e : j = q
    · subst e
      rw [List.getElem?_set_self hq] at hu
      rw [hs] at ht
      obtain rfl := Option.some.inj hu
      obtain rfl := Option.some.inj ht
      exact ⟨gg, rfl, ho⟩
    · rw [List.getElem?_set_ne (fun e1 => e e1.symm)] at hu
      exact h.own j u t (by omega) hu ht
  · rw [List.getElem?_set_ne (by omega)] at hu
    by_cases e : j = q
    · subst e
      rw [List.getElem?_set_self hq] at hv
      obtain rfl := Option.some.inj hv
      exact hnew i u hij hu
    · rw [List.getElem?_set_ne (fun e1 => e e1.symm)] at hv
      exact h.apart i j u v hij (by omega) hu hv

theorem Lr.set {w : World} {base : Nat} {e : TypeId} {g n cap : Nat} {us : List (Option Addr × Nat × Nat)} (h : Lr w base e (some ⟨g, 0, none⟩) n cap us) (j : Nat) (u : Option Addr × Nat × Nat) : Lr (w.setCell ⟨g, j, none⟩ (sv u)) base e (some ⟨g, 0, none⟩) n cap (us.set j u) := by
  have h2 := h.row.2
  refine ⟨by simp [h.len], by simp [h.len], ?_⟩
  rcases h2 with ⟨hv, _⟩ | ⟨g', c, cur, hv, hb, hg, hn, hm, hs, ht⟩
  · cases hv
  · simp only [Value.slice.injEq, Option.some.injEq, Addr.mk.injEq] at hv
    obtain ⟨⟨rfl, _, _⟩, _, rfl⟩ := hv
    refine Or.inr ⟨g, cap, cur.setIfInBounds j (sv u), rfl, hb, ?_, hn, hm, by simp [hs], ?_⟩
    · rw [setCell_eq_setRow w g j cur e (0, 0) (sv u) hg]
      exact setRow_heap w g _ _ e _ hg
    · rw [Array.toList_setIfInBounds, List.map_set, ← ht, List.take_set]

theorem Lr.there {w : World} {base : Nat} {e : TypeId} {g n cap : Nat} {us : List (Option Addr × Nat × Nat)} (h : Lr w base e (some ⟨g, 0, none⟩) n cap us) (i : Nat) : w.frozen? ⟨g, i, none⟩ = false := by
  rcases h.row.2 with ⟨hv, _⟩ | ⟨g', c, cur, hv, hb, hg, hn, hm, hs, ht⟩
  · cases hv
  · simp only [Value.slice.injEq, Option.some.injEq, Addr.mk.injEq] at hv
    obtain ⟨⟨rfl, _, _⟩, _, rfl⟩ := hv
    simp [World.frozen?, hg]

theorem Lr.cell {w : World} {base : Nat} {e : TypeId} {g n cap : Nat} {us : List (Option Addr × Nat × Nat)} {u : Option Addr × Nat × Nat} (h : Lr w base e (some ⟨g, 0, none⟩) n cap us) {j : Nat} (hj : us[j]? = some u) : w.cell? ⟨g, j, none⟩ = some (.slice u.1 u.2.1 u.2.2) := by
  have := h.row.cells (g := g) rfl j (sv u) (by simp [hj])
  rw [Addr.add_lit, Nat.zero_add] at this
  exact this

theorem Lr.addr {w : World} {base : Nat} {e : TypeId} {ao : Option Addr} {n cap : Nat} {us : List (Option Addr × Nat × Nat)} (h : Lr w base e ao n cap us) (hn : 0 < n) : ∃ g, ao = some ⟨g, 0, none⟩ ∧ base ≤ g ∧ g < w.heap.size := by
  rcases h.row.2 with ⟨_, h0⟩ | ⟨g, c, cur, hv, hg, hh, _⟩
  · omega
  · simp only [Value.slice.injEq] at hv
    exact ⟨g, hv.1, hg, (Array.getElem?_eq_some_iff.1 hh).1⟩

section
variable {P : Program} (w : World)

/-- 'make([][]byte, 0, c)'. -/
theorem wpList_make_lr {ops : Array Oper} {rest : List Oper} {o : Oper} {a : Act} {Q : Exit → Act → World → Prop} (hgd : o.guard = none) (lo co : Operand) (t : TypeId) (ho : o.op = Op.makeSlice t lo co)
    (base : Nat) (e : TypeId) (ht : P.underlying t = some (.slice e)) (hinfo : (P.info? e).map (fun i => (i.zero, i.size, i.bytes)) = some (some (.slice none 0 0), 1, 24))
    {k : IntKind} {C : Int} (hl : a.eval lo = .int .i64 0) (hc : a.eval co = .int k C) (h0 : 0 ≤ C) (h1 : C ≤ 4294967296) (hbase : base ≤ w.heap.size)
    (h : ∀ g cap w', Lr w' base e (some ⟨g, 0, none⟩) 0 cap [] → w.grownBy w' none → wpList P ops Q rest (a.put o.dst (.slice (some ⟨g, 0, none⟩) 0 cap)) w') : wpList P ops Q (o :: rest) a w := by
  obtain ⟨i, hi, hz, hz1, hz2⟩ := info_parts hinfo
  obtain ⟨c, rfl⟩ := Int.eq_ofNat_of_zero_le h0
  refine wpList_plain hgd fun K hK => ?_
  have hr := run_make (P := P) w t e i (.slice none 0 0) ht hi hz .i64 k 0 c (by omega) (by omega) (by rw [hz2]; omega) (by omega)
  unfold Oper.wp
  simp [execOp, ho, hl, hc, hr, Result.andThen]
  exact hK _ _ (h w.heap.size c _ ⟨rfl, World.ownsRow_made w _ c hbase (by unfold maxLen; omega) (by simp [size_madeCells, hz1])⟩ (World.grownBy_alloc w _ none))
end

theorem ownsRow_le' {w : World} {base base' size n : Nat} {e : TypeId} {v : Value} {xs : List Value} (h : w.ownsRow base e size v n xs) (hb : base' ≤ base) : w.ownsRow base' e size v n xs :=
  ⟨h.1, h.2.elim Or.inl (fun ⟨g, cap, cur, hv, hg, r⟩ => Or.inr ⟨g, cap, cur, hv, Nat.le_trans hb hg, r⟩)⟩

/-- What List answers where the count may be. -/
structure ListOk (w w' : World) (b g n at' v : Nat) (l : List UInt8) (e : Ending) : Prop where
  ok : ∃ lo lc us o2 cap2 at2 n2, e = .returned (.tuple #[.slice lo v lc, .int .i64 0]) ∧ Lr w' w.heap.size 22 lo v lc us ∧ FrsTo w' w.heap.size us (its v l) v ∧ Rd w' b g o2 n2 cap2 (rst v l) at2 ∧ at2 + n2 = at' + n

theorem sErr_ok {l : List UInt8} {m n : Nat} (h : sErr l m = 0) (hn : l.length = n) : 4 ≤ n ∧ val (l.take 4) ≤ m ∧ val (l.take 4) ≤ n - 4 := by
  unfold sErr at h
  rw [hn] at h
  split at h
  · cases h
  · split at h
    · cases h
    · split at h
      · cases h
      · omega

set_option maxRecDepth 100000 in
set_option maxHeartbeats 4000000 in
theorem list_any (w : World) (b g o n cap i m v : Nat) (l : List UInt8) (at' : Nat) (hR : Rd w b g o n cap l at') (hi : i < 9223372036854775808) (hm : m < 9223372036854775808) (hn : 4 ≤ n) (hV : Hid (v = val (l.take 4))) (hvl : v < 4294967296) (hv : v ≤ i) :
    Calls Try.prog 49 #[.pointer (some ⟨b, 0, none⟩), .int .i64 i, .int .i64 m] w fun e w' =>
      (lErr m v (l.drop 4) = 0 ∧ ListOk w w' b g n at' v (l.drop 4) e ∧ w.grownBy w' (some b)) ∨ (lErr m v (l.drop 4) ≠ 0 ∧ e = .returned (.tuple #[.slice none 0 0, .int .i64 (lErr m v (l.drop 4) : Nat)]) ∧ w.grownBy w' none) := by
  have h0 := hR.c0
  have h1 := hR.c1
  have h2 := hR.c2
  have hnb : n ≤ 140737488355328 := by have := hR.bd; have := hR.bs.room; omega
  have hin : ¬ (i : Int) < 0 := by omega
  have hmn : ¬ (m : Int) < 0 := by omega
  go_enter Try.func49, Try.ntmps49
  go_wp2_with fail
  refine (there_any _ _ h2).mono ?_
  rintro e w1 ⟨rfl, rfl⟩
  go_wp2_with fail
  refine (readCount_ok _ _ g o n cap i l at' hR.copied hn hi (by rw [← hV.out]; exact hv)).mono ?_
  rw [← hV.out]
  rintro e w2 ⟨rfl, o2, cap2, hr2, hg2⟩
  have k0 := hr2.c0
  have kr := hr2.bs.room
  have hgl := hR.gl
  have hG2 := grown_trans (World.grownBy_alloc w1 (.cells #[.slice (some ⟨g, o, none⟩) n cap, .int .i64 at', .bool true] 82) none) hg2 (fun k hk => Or.inr (by simp at hk; omega))
  have hB2 : w1.heap.size < w2.heap.size := by have := hg2.size; simp at this; omega
  clear hg2
  go_wp2_with (at_make; refine wpList_make_lr _ rfl _ _ 42 rfl w2.heap.size 22 Try.underlying42 Try.info22 rfl rfl (by omega) (by omega) (Nat.le_refl _) ?_)
  all_goals
    intro g3 c3 w3 hl3 hg3
    have hr3 := hr2.grown hg3
    have hG3 := grown_trans hG2 hg3 (by simp)
    have hs3 := hg3.size
    clear hg3 k0 kr
    go_wp2_with fail
    go_loopw [11, 12, 13, 45] (fun x _ _ i wr => ∃ (k : Nat) (lo : Option Addr) (lc : Nat) (us : List (Option Addr × Nat × Nat)) (o' cap' at2 n2 : Nat), k ≤ v ∧ i = .int .u64 k ∧ x = .slice lo k lc ∧ Lr wr w2.heap.size 22 lo k lc us ∧
        InG wr g us (its k (l.drop 4)) 0 ∧ Rd wr w1.heap.size g o' n2 cap' (rst k (l.drop 4)) at2 ∧ Hid (at2 + n2 = at' + n) ∧ Hid (lErr m k (l.drop 4) = 0) ∧ w1.grownBy wr none ∧ w2.heap.size ≤ wr.heap.size) (fun _ _ _ i _ => v - (intOf i).toNat)
    case atStart => exact ⟨0, _, _, [], o2, cap2, at' + 4, n - 4, Nat.zero_le _, rfl, rfl, hl3, ⟨fun j u s _ hu => by simp at hu⟩, hr3, (show at' + 4 + (n - 4) = at' + n by omega), rfl, hG3, hs3⟩
    case round =>
      obtain ⟨k, lo, lc, us, o4, cap4, at4, n4, hk, rfl, rfl, hLr, hIn, hRd, hat, hEr, hGr, hSr⟩ := hrel
      clear hr2 hl3 hr3 hG3 hs3 hG2
      by_cases hlt : k < v
      · have hn4b : n4 ≤ 140737488355328 := by have := hRd.bd; have := hRd.bs.room; omega
        by_cases hse : sErr (rst k (l.drop 4)) m = 0
        · have hso := sErr_ok hse hRd.bs.len
          obtain ⟨vv, hvv⟩ : ∃ vv, vv = val ((rst k (l.drop 4)).take 4) := ⟨_, rfl⟩
          have hVV : Hid (vv = val ((rst k (l.drop 4)).take 4)) := hvv
          have hvvl : vv < 4294967296 := by
            have h3 := val_lt ((rst k (l.drop 4)).take 4)
            rw [List.length_take, hRd.bs.len, Nat.min_eq_left (by omega), ← hvv] at h3
            exact h3
          rw [← hvv] at hso
          have hit : Hid (((rst k (l.drop 4)).drop 4).take vv = sItem (rst k (l.drop 4))) := by show _ = _; rw [sItem, hvv]
          have hrs : Hid (((rst k (l.drop 4)).drop 4).drop vv = rst (k + 1) (l.drop 4)) := by show _ = _; rw [rst, sRest, hvv]
          have hEr2 : Hid (lErr m (k + 1) (l.drop 4) = 0) := by show _ = _; rw [lErr, if_neg (by simp [hEr.out]), hse]
          obtain ⟨ha1, ha2, ha3⟩ := hso
          clear hse hvv
          go_wp2_with fail
          refine (piece_ok _ w1.heap.size g o4 n4 cap4 m vv _ at4 hRd hm ha1 hVV hvvl ha2 ha3).mono ?_
          rintro e w5 ⟨o5, rfl, hbs5, o6, cap6, hr5, hg5⟩
          rw [hit.out] at hbs5
          rw [hrs.out] at hr5
          have hLr5 := hLr.kept hg5 (Or.inr (fun e1 => by have := hLr.from_base _ e1; omega))
          have hIn5 := hIn.kept hg5 (by simp; omega)
          have hga := World.grownBy_alloc w5 (.cells #[.slice (some ⟨g, o5, none⟩) vv vv] 22) none
          have hs5 := hg5.size
          go_wp2_with (at_builtin; refine wpList_append_lr _ rfl _ _ 42 rfl w2.heap.size 22 Try.underlying42 Try.info22 rfl (hLr5.grown hga) (some ⟨g, o5, none⟩, vv, vv) rfl (by simp [sv]) (by omega) (by simp; omega) ?_)
          intro lo6 lc6 w6 hLr6 hg6
          have hne : some g ≠ blk lo := fun e1 => by have := hLr.from_base _ e1.symm; omega
          have hIn6 := ((hIn5.kept hga (by simp)).snoc (v := (some ⟨g, o5, none⟩, vv, vv)) hLr.len (hbs5.grown hga) rfl).kept hg6 hne
          have hr6 := (hr5.grown hga).kept hg6 (fun e1 => by have := hLr.from_base _ e1.symm; omega) hne
          have hG6 := grown_trans (grown_trans (grown_trans hGr hg5 (fun q hq => Or.inr (by simp at hq; omega))) hga (by simp)) hg6 (fun q hq => Or.inr (by have := hLr.from_base q hq; omega))
          have hS6 : w2.heap.size ≤ w6.heap.size := by have := hg6.size; simp at this; omega
          have hat6 : Hid (at4 + 4 + vv + (n4 - 4 - vv) = at' + n) := by have := hat.out; show _ = _; omega
          clear hLr hIn hRd hat hEr hGr hSr hVV hbs5 hr5 hg5 hLr5 hIn5 hga hg6 hne hit hrs
          go_wp2
          go_roundw
          case rel => exact ⟨k + 1, lo6, lc6, _, o6, cap6, _, _, by omega, by go_num, rfl, hLr6, hIn6, hr6, hat6, hEr2, hG6, hS6⟩
          case measure => simp [intOf]; omega
        · obtain ⟨c, hc⟩ : ∃ c, sErr (rst k (l.drop 4)) m = c := ⟨_, rfl⟩
          rw [hc] at hse
          have hfin : Hid (lErr m v (l.drop 4) = c) := by
            have h3 : lErr m (k + 1) (l.drop 4) = c := by rw [lErr, if_neg (by simp [hEr.out]), hc]
            have h4 := lErr_mono (c := v) (by rw [h3]; exact hse) hlt
            show _ = _
            rw [h4, h3]
          have HC : Hid (sErr (rst k (l.drop 4)) m = c) := hc
          have hcb : ((c : Int) != 0) = true := by rw [bne_iff_ne]; omega
          clear hc
          go_wp2_with fail
          refine (piece_err _ w1.heap.size g o4 n4 cap4 m c _ at4 hRd hm HC hse).mono ?_
          rintro e w5 ⟨rfl, hg5⟩
          have hG5 := grown_trans hGr hg5 (by simp)
          clear hLr hIn hRd hat hEr hGr hSr hg5 HC
          go_wp2
          go_ret2
          exact Or.inr ⟨by rw [hfin.out]; exact hse, by rw [hfin.out]; rfl, hG5⟩
      · obtain rfl : k = v := by omega
        go_wp2_with fail
        go_loopw [14, 15, 62] (fun _ _ i w7 => ∃ (q : Nat) (xs : List (Option Addr × Nat × Nat)), q ≤ k ∧ i = .int .i64 q ∧ Lr w7 w2.heap.size 22 lo k lc xs ∧ FrsTo w7 w2.heap.size xs (its k (l.drop 4)) q ∧ InG w7 g xs (its k (l.drop 4)) q ∧
            Rd w7 w1.heap.size g o4 n4 cap4 (rst k (l.drop 4)) at4 ∧ w1.grownBy w7 none ∧ w2.heap.size ≤ w7.heap.size) (fun _ _ i _ => k - (intOf i).toNat)
        case atStart => exact ⟨0, us, Nat.zero_le _, rfl, hLr, ⟨fun j u s hj => absurd hj (Nat.not_lt_zero _), fun i j u v hij hj => absurd hj (Nat.not_lt_zero _)⟩, hIn, hRd, hGr, hSr⟩
        case round =>
          obtain ⟨q, xs, hq, rfl, hLq, hFq, hIq, hRq, hGq, hSq⟩ := hrel
          clear hLr hIn hRd hGr hSr
          by_cases hlt2 : q < k
          · obtain ⟨lb, hlo, hlb1, hlb2⟩ := hLq.addr (by omega)
            subst hlo
            have hql : q < xs.length := by rw [hLq.len]; exact hlt2
            obtain ⟨uo, um, uc, hu⟩ : ∃ uo um uc, xs[q]? = some (uo, um, uc) := ⟨_, _, _, by rw [List.getElem?_eq_getElem hql]⟩
            have hs := its_get (l.drop 4) hlt2
            obtain ⟨hbs, hbg⟩ := hIq.shows q _ _ (Nat.le_refl _) hu hs
            have hcq := hLq.cell hu
            have hfz := hLq.there
            have hum : um ≤ 140737488355328 := by
              have h3 : (sItem (rst q (l.drop 4))).length = um := hbs.len
              have h4 := sItem_le (rst q (l.drop 4))
              have h5 := rst_le q (l.drop 4)
              have h6 := hR.bs.len
              simp only [List.length_drop] at h5
              omega
            generalize sItem (rst q (l.drop 4)) = sit at *
            have HS : Hid _ := hs
            have HU : Hid _ := hu
            have hsl : Hid (sit.length = um) := hbs.len
            clear hs hu
            go_wp2_with fail
            refine (withRoom_any _ uo um uc 0 sit hbs (by omega)).mono ?_
            rintro e w8 ⟨gg, rfl, ho8, hg8⟩
            have hs8 := hg8.size
            have hgg := ho8.from_base gg rfl
            have hL8 := hLq.grown hg8
            have hf8 := hL8.there
            have hc8 := hL8.cell HU.out
            have hF8 := (hFq.grown hg8).set (gg := gg) HS.out (by rw [hsl.out]; exact ho8.rebase hSq) hql (fun j u hj hu => by
              obtain ⟨g9, h9, h10⟩ := hFq.own j u _ hj hu (its_get (l.drop 4) (by omega))
              have h11 := h10.from_base g9 rfl
              rw [h9]
              simp only [blk, Option.map_some, ne_eq, Option.some.injEq]
              omega)
            rw [hsl.out] at hF8
            have hset : w8.grownBy (w8.setCell ⟨lb, q, none⟩ (sv (some ⟨gg, 0, none⟩, um, um))) (some lb) := setCell_grown w8 lb q _
            have hF9 := hF8.row hL8 hset
            have hL9 := hL8.set q (some ⟨gg, 0, none⟩, um, um)
            have hI9 := ((hIq.kept hg8 (by simp)).set (some ⟨gg, 0, none⟩, um, um)).kept hset (by simp; omega)
            have hR9 := (hRq.grown hg8).kept hset (by simp; omega) (by simp; omega)
            have hG9 := grown_trans (grown_trans hGq hg8 (by simp)) hset (fun x hx => Or.inr (by simp at hx; omega))
            have hS9 : w2.heap.size ≤ (w8.setCell ⟨lb, q, none⟩ (sv (some ⟨gg, 0, none⟩, um, um))).heap.size := by simp; omega
            clear hLq hFq hIq hRq hGq HU HS hbs hg8 ho8 hF8 hset
            go_wp2
            go_roundw
            case rel => exact ⟨q + 1, _, by omega, by go_num, hL9, hF9, hI9, hR9, hG9, hS9⟩
            case measure => simp [intOf]; omega
          · obtain rfl : q = k := by omega
            have j0 := hRq.c0
            have j1 := hRq.c1
            have j2 := hRq.c2
            have hRb := hR.grown hGq
            have i0 := hRb.c0
            have i1 := hRb.c1
            have i2 := hRb.c2
            have i3 := hRb.fz
            have hL := hRq.laid _ _ _ i0 i1 i2 i3 hR.ap
            have hbb := hR.lt
            have hLf := hLq.kept hL.2 (Or.inr (fun e1 => by have := hLq.from_base _ e1; omega))
            have hFf := hFq.kept hL.2 (fun x hx e1 => by simp at e1; omega)
            have hGf := grown_trans (grown_any hGq (some b)) hL.2 (fun x hx => Or.inl hx)
            have hs12 : w1.heap.size ≤ w2.heap.size := by omega
            clear hIq
            go_wp2
            go_ret2
            exact Or.inl ⟨hEr.out, ⟨_, _, _, _, _, _, _, rfl, ⟨hLf.len, ownsRow_le' hLf.row hs12⟩, hFf.rebase hs12, hL.1, hat.out⟩, hGf⟩

end Go.Proofs.Ytocicepnlepfeaa
