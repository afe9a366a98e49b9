/-
  Slices of byte slices in memory, and AppendList.
-/
import Derived.Test.YtocicepnlepfeaaW5
namespace Go.Proofs.Ytocicepnlepfeaa
open Go.RowKit
set_option linter.unusedVariables false

/-- The slice 'ao, n, cap' shows the slices vs, and these the bytes ls. -/
structure Ls (w : World) (ao : Option Addr) (n cap : Nat) (vs : List (Option Addr × Nat × Nat)) (ls : List (List UInt8)) : Prop where
  len : vs.length = n
  len2 : ls.length = n
  room : n ≤ cap
  top : cap ≤ maxLen
  nil : ao = none → cap = 0
  cells : ∀ a, ao = some a → ∀ (j : Nat) (v : Option Addr × Nat × Nat), vs[j]? = some v → w.cell? (a.add j) = some (.slice v.1 v.2.1 v.2.2)
  items : ∀ (j : Nat) (v : Option Addr × Nat × Nat) (s : List UInt8), vs[j]? = some v → ls[j]? = some s → Bs w v.1 v.2.1 v.2.2 s

/-- The bytes of strings, each behind its length. -/
def encL (ls : List (List UInt8)) : List UInt8 := ls.flatMap fun s => low s.length 4 ++ s
theorem encL_snoc (ls : List (List UInt8)) (s : List UInt8) : encL (ls ++ [s]) = encL ls ++ (low s.length 4 ++ s) := by simp [encL]
theorem encL_take {ls : List (List UInt8)} {k : Nat} (h : k < ls.length) : encL (ls.take (k + 1)) = encL (ls.take k) ++ (low ls[k].length 4 ++ ls[k]) := by
  rw [List.take_succ_eq_append_getElem h, encL_snoc]
theorem encL_le (ls : List (List UInt8)) (k : Nat) : (encL (ls.take k)).length ≤ (encL ls).length := by
  have h : encL ls = encL (ls.take k) ++ encL (ls.drop k) := by
    unfold encL
    rw [← List.flatMap_append, List.take_append_drop]
  rw [h, List.length_append]
  omega

theorem Ls.kept {w w' : World} {ao : Option Addr} {n cap : Nat} {vs : List (Option Addr × Nat × Nat)} {ls : List (List UInt8)} {row : Option Nat} (h : Ls w ao n cap vs ls) (hg : w.grownBy w' row)
    (hne : ∀ a, ao = some a → some a.block ≠ row) (hni : ∀ v, v ∈ vs → ∀ a, v.1 = some a → some a.block ≠ row) : Ls w' ao n cap vs ls :=
  ⟨h.len, h.len2, h.room, h.top, h.nil, fun a ha j v hv => hg.cell (h.cells a ha j v hv) (by
    have : (a.add j).block = a.block := by unfold Addr.add; split <;> rfl
    rw [this]; exact hne a ha), fun j v s hv hs => (h.items j v s hv hs).kept hg (hni v (List.mem_of_getElem? hv))⟩

theorem Ls.grown {w w' : World} {ao : Option Addr} {n cap : Nat} {vs : List (Option Addr × Nat × Nat)} {ls : List (List UInt8)} (h : Ls w ao n cap vs ls) (hg : w.grownBy w' none) : Ls w' ao n cap vs ls :=
  h.kept hg (by simp) (by simp)

theorem Ls.addr {w : World} {ao : Option Addr} {n cap : Nat} {vs : List (Option Addr × Nat × Nat)} {ls : List (List UInt8)} (h : Ls w ao n cap vs ls) (hn : 0 < n) : ∃ b o, ao = some ⟨b, o, none⟩ ∧ b < w.heap.size := by
  cases ao with
  | none => have := h.nil rfl; have := h.room; omega
  | some a =>
    have hl : 0 < vs.length := by rw [h.len]; exact hn
    have h0 := h.cells a rfl 0 vs[0] (by simp [hl])
    have h1 : a.add 0 = a := by simp [Addr.add]
    rw [h1] at h0
    have h2 := World.block_lt_of_cell? w a h0
    obtain ⟨b, o, sp⟩ := a
    cases sp with
    | none => exact ⟨b, o, rfl, h2⟩
    | some q => simp only [World.cell?, Option.isSome_some, if_true] at h0; split at h0 <;> cases h0

/-- The k-th of them. -/
theorem Ls.at {w : World} {b o n cap : Nat} {vs : List (Option Addr × Nat × Nat)} {ls : List (List UInt8)} (h : Ls w (some ⟨b, o, none⟩) n cap vs ls) {k : Nat} (hk : k < n) :
    ∃ so sm sc, ∃ s, ls[k]? = some s ∧ w.cell? ⟨b, o + k, none⟩ = some (.slice so sm sc) ∧ Bs w so sm sc s := by
  have h1 : k < vs.length := by rw [h.len]; exact hk
  have h2 : k < ls.length := by rw [h.len2]; exact hk
  have hc := h.cells _ rfl k vs[k] (by simp [h1])
  rw [Addr.add_lit] at hc
  exact ⟨_, _, _, ls[k], by simp [h2], hc, h.items k _ _ (by simp [h1]) (by simp [h2])⟩

theorem below_bs {B : Nat} {w w' : World} {ao : Option Addr} {n cap : Nat} {l : List UInt8} (h : Bs w ao n cap l) (hb : Below B w w') (hB : w.heap.size ≤ B) : Bs w' ao n cap l :=
  h.grown (below_grownBy (hb.mono hB))

set_option maxRecDepth 100000 in
set_option maxHeartbeats 400000 in
theorem appendList_many (w : World) (ao lo : Option Addr) (n cap m c : Nat) (hm : 65536 < m) :
    Calls Try.prog 25 #[.slice ao n cap, .slice lo m c] w fun e w' => e = .returned (.tuple #[.slice none 0 0, .int .i64 3]) ∧ w' = w := by
  go_enter Try.func25, Try.ntmps25
  go_wp2
  go_ret2
  exact ⟨rfl, rfl⟩

set_option maxRecDepth 100000 in
set_option maxHeartbeats 1000000 in
theorem appendList_yes (w : World) (ao lo : Option Addr) (n cap m c : Nat) (l : List UInt8) (vs : List (Option Addr × Nat × Nat)) (ls : List (List UInt8)) (hb : Bs w ao n cap l) (hl : Ls w lo m c vs ls) (hm : m ≤ 65536)
    (hall : ∀ s, s ∈ ls → s.length ≤ 16777216) (hsz : n + 4 + (encL ls).length ≤ 140737488355328) :
    Calls Try.prog 25 #[.slice ao n cap, .slice lo m c] w fun e w' => ∃ ao' cap', e = .returned (.tuple #[.slice ao' (n + 4 + (encL ls).length) cap', .int .i64 0]) ∧ Ow w' w.heap.size 5 ao' (n + 4 + (encL ls).length) cap' (l ++ low m 4 ++ encL ls) ∧ w.grownBy w' none := by
  have hm' : ¬ (65536 : Int) < (m : Int) := by omega
  go_enter Try.func25, Try.ntmps25
  go_wp2_with fail
  go_loop [6, 8, 17] (fun z _ i => ∃ k : Nat, k ≤ m ∧ i = .int .i64 k ∧ z = .int .i64 ((4 + (encL (ls.take k)).length : Nat) : Int)) (fun _ _ i => m - (intOf i).toNat)
  case atStart => exact ⟨0, Nat.zero_le _, rfl, by simp [encL]⟩
  case round =>
    obtain ⟨k, hk, rfl, rfl⟩ := hrel
    have hle := encL_le ls k
    by_cases hlt : k < m
    · obtain ⟨b, o, hbo, _⟩ := hl.addr (by omega)
      subst hbo
      obtain ⟨so, sm, sc, s, hs, hcell, hbs⟩ := hl.at hlt
      have hsl : sm ≤ 16777216 := by rw [← hbs.len]; exact hall s (List.mem_of_getElem? hs)
      have hk2 : k < ls.length := by rw [hl.len2]; exact hlt
      have hle2 := encL_le ls (k + 1)
      have hstep : Hid ((encL (ls.take (k + 1))).length = (encL (ls.take k)).length + (4 + sm)) := by
        have hsk : ls[k] = s := by simpa [hk2] using hs
        show _ = _
        rw [encL_take hk2, hsk, List.length_append, List.length_append, low_length, hbs.len]
      generalize (encL (ls.take k)).length = q at *
      have hsl' : ¬ (16777216 : Int) < (sm : Int) := by omega
      go_wp2
      go_round
      case rel => exact ⟨k + 1, by omega, by go_num, by rw [hstep.out]; go_num⟩
      case measure => simp [intOf]; omega
    · obtain rfl : k = m := by omega
      have hall2 : Hid (ls.take k = ls) := List.take_of_length_le (by rw [hl.len2]; exact Nat.le_refl _)
      rw [hall2.out]
      have hnk : k < 18446744073709551616 := by omega
      go_wp2_with fail
      refine (withRoom_int _ ao n cap (4 + (encL ls).length) _ (by omega) l hb (by omega)).mono ?_
      rintro e w1 ⟨g, rfl, ho1, hg1⟩
      go_wp2_with fail
      refine (putNumber_any _ w.heap.size _ n _ k 4 l ho1 hg1.size hnk (by omega) (by omega)).mono ?_
      rintro e w2 ⟨ao2, cap2, rfl, ho2, hb2⟩
      have hB2 := (grownBy_below hg1).trans hb2
      clear ho1 hg1 hb2
      go_wp2_with fail
      go_loopw [9, 11, 39] (fun v _ i wr => ∃ (j : Nat) (ao' : Option Addr) (cap' q : Nat), j ≤ k ∧ i = .int .i64 j ∧ v = .slice ao' (n + 4 + q) cap' ∧ Hid (q = (encL (ls.take j)).length) ∧ Ow wr w.heap.size 5 ao' (n + 4 + q) cap' (l ++ low k 4 ++ encL (ls.take j)) ∧ Below w.heap.size w wr) (fun _ _ i _ => k - (intOf i).toNat)
      case atStart => exact ⟨0, ao2, cap2, 0, Nat.zero_le _, rfl, rfl, (show 0 = _ by simp [encL]), by simpa [encL] using ho2, hB2⟩
      case round =>
        obtain ⟨j, ao3, cap3, q, hj, rfl, rfl, hq, ho3, hB3⟩ := hrel
        by_cases hlt2 : j < k
        · obtain ⟨b, o, hbo, hbl⟩ := hl.addr (by omega)
          subst hbo
          obtain ⟨so, sm, sc, s, hs, hcell, hbs⟩ := hl.at hlt2
          have hsl : sm ≤ 16777216 := by rw [← hbs.len]; exact hall s (List.mem_of_getElem? hs)
          have hk2 : j < ls.length := by rw [hl.len2]; exact hlt2
          have hsk : ls[j] = s := by simpa [hk2] using hs
          have hle2 := encL_le ls (j + 1)
          have hstep : Hid (q + 4 + sm = (encL (ls.take (j + 1))).length) := by
            show _ = _
            rw [encL_take hk2, hsk, List.length_append, List.length_append, low_length, hbs.len, hq.out]; omega
          have hstep2 : Hid (encL (ls.take (j + 1)) = encL (ls.take j) ++ (low sm 4 ++ s)) := by
            show _ = _
            rw [encL_take hk2, hsk, hbs.len]
          have hqb : q + 4 + sm ≤ (encL ls).length := by rw [hstep.out]; exact hle2
          have hcell3 : wr.cell? ⟨b, o + j, none⟩ = some (.slice so sm sc) := by rw [hB3.cell hbl]; exact hcell
          have hbs3 := hbs.grown (below_grownBy hB3)
          have hso : ∀ a, so = some a → 0 < sm → a.block < w.heap.size := fun a ha hm0 => by
            obtain ⟨b', o', h1, h2⟩ := hbs.addr hm0
            rw [h1] at ha
            obtain rfl := Option.some.inj ha
            exact h2
          clear hle2 hsk hs
          go_wp2_with fail
          refine (putString_any _ w.heap.size ao3 so (n + 4 + q) cap3 sm sc _ s ho3 hB3.size hbs3 hso (by omega) (by omega)).mono ?_
          rintro e w4 ⟨ao4, cap4, rfl, ho4, hb4⟩
          go_wp2
          go_roundw
          case rel => exact ⟨j + 1, ao4, cap4, q + 4 + sm, by omega, by go_num, by rw [show n + 4 + (q + 4 + sm) = n + 4 + q + 4 + sm from by omega], hstep, by rw [hstep2.out, show n + 4 + (q + 4 + sm) = n + 4 + q + 4 + sm from by omega]; simpa [List.append_assoc] using ho4, hB3.trans hb4⟩
          case measure => simp [intOf]; omega
        · obtain rfl : j = k := by omega
          rw [hall2.out] at ho3 hq
          rw [hq.out] at ho3 ⊢
          go_wp2
          go_ret2
          exact ⟨_, _, rfl, ho3, below_grownBy hB3⟩

theorem Ls.take {w : World} {ao : Option Addr} {n cap : Nat} {vs : List (Option Addr × Nat × Nat)} {ls : List (List UInt8)} (h : Ls w ao n cap vs ls) (m : Nat) (hm : m ≤ n) : Ls w ao m cap (vs.take m) (ls.take m) :=
  ⟨by rw [List.length_take, h.len]; omega, by rw [List.length_take, h.len2]; omega, Nat.le_trans hm h.room, h.top, h.nil,
   fun a ha j v hv => h.cells a ha j v (by rw [List.getElem?_take] at hv; split at hv; exact hv; cases hv),
   fun j v s hv hs => h.items j v s (by rw [List.getElem?_take] at hv; split at hv; exact hv; cases hv) (by rw [List.getElem?_take] at hs; split at hs; exact hs; cases hs)⟩

theorem encL_nils (ls : List (List UInt8)) (h : ∀ s, s ∈ ls → s = []) : (encL ls).length = 4 * ls.length := by
  induction ls with
  | nil => rfl
  | cons s r ih =>
    obtain rfl := h s (by simp)
    have := ih (fun t ht => h t (by simp [ht]))
    simp only [encL, List.flatMap_cons, List.length_append, low_length, List.length_cons, List.length_nil] at this ⊢
    omega

section
variable {P : Program} (w : World)

theorem wpList_make_any {ops : Array Oper} {rest : List Oper} {o : Oper} {a : Act} {Q : Exit → Act → World → Prop} (hgd : o.guard = none) (lo co : Operand) (t : TypeId) (ho : o.op = Op.makeSlice t lo co)
    (base : Nat) (e : TypeId) (ht : P.underlying t = some (.slice e)) (hinfo : (P.info? e).map (fun i => (i.zero, i.size, i.bytes)) = some (some (.int .u8 0), 1, 1))
    (n c : Nat) {L C : Int} (hl : a.eval lo = .int .i64 L) (hc : a.eval co = .int .i64 C) (hL : L = (n : Int)) (hC : C = (c : Int)) (hnc : n ≤ c) (hb : c ≤ 281474976710656) (hbase : base ≤ w.heap.size)
    (h : ∀ g w' l, Ow w' base e (some ⟨g, 0, none⟩) n c l → w.grownBy w' none → wpList P ops Q rest (a.put o.dst (.slice (some ⟨g, 0, none⟩) n c)) w') : wpList P ops Q (o :: rest) a w :=
  wpList_make_bs w hgd lo co t ho base e ht hinfo n c hl hc hL hC hnc hb hbase (fun g w' h1 h2 => h g w' _ h1 h2)

/-- 'make([][]byte, n)': nil slices. -/
theorem wpList_make_nils {ops : Array Oper} {rest : List Oper} {o : Oper} {a : Act} {Q : Exit → Act → World → Prop} (hgd : o.guard = none) (lo co : Operand) (t : TypeId) (ho : o.op = Op.makeSlice t lo co)
    (e : TypeId) (ht : P.underlying t = some (.slice e)) (hinfo : (P.info? e).map (fun i => (i.zero, i.size, i.bytes)) = some (some (.slice none 0 0), 1, 24))
    (n : Nat) {L C : Int} (hl : a.eval lo = .int .i64 L) (hc : a.eval co = .int .i64 C) (hL : L = (n : Int)) (hC : C = (n : Int)) (hb : n ≤ 1000000)
    (h : ∀ w' vs ls, Ls w' (some ⟨w.heap.size, 0, none⟩) n n vs ls → (∀ s, s ∈ ls → s = []) → w.grownBy w' none → wpList P ops Q rest (a.put o.dst (.slice (some ⟨w.heap.size, 0, none⟩) n n)) w') : wpList P ops Q (o :: rest) a w := by
  obtain ⟨i, hi, hz, hz1, hz2⟩ := info_parts hinfo
  subst hL
  subst hC
  refine wpList_plain hgd fun K hK => ?_
  have hr := run_make (P := P) w t e i (.slice none 0 0) ht hi hz .i64 .i64 n n (by omega) (by omega) (by rw [hz2]; omega) (by omega)
  unfold Oper.wp
  simp [execOp, ho, hl, hc, hr, Result.andThen]
  refine hK _ _ (h _ (List.replicate n (none, 0, 0)) (List.replicate n []) ⟨by simp, by simp, Nat.le_refl _, by unfold maxLen; omega, by simp, ?_, ?_⟩ (fun s hs => (List.mem_replicate.1 hs).2) (World.grownBy_alloc w _ none))
  · intro ad had j v hv
    obtain rfl := Option.some.inj had
    rw [List.getElem?_replicate] at hv
    split at hv
    · rename_i hj
      obtain rfl := Option.some.inj hv
      rw [Addr.add_lit, Nat.zero_add, World.cell?_alloc_new, hz1]
      simp [madeCells, hj, Nat.mod_one, Value.cells]
    · cases hv
  · intro j v s hv hs
    rw [List.getElem?_replicate] at hv hs
    split at hv
    · rename_i hj
      rw [if_pos hj] at hs
      obtain rfl := Option.some.inj hv
      obtain rfl := Option.some.inj hs
      exact Bs.empty _
    · cases hv
end

theorem Try.info22 : (Try.prog.info? 22).map (fun i => (i.zero, i.size, i.bytes)) = some (some (.slice none 0 0), 1, 24) := by kernel_rfl

end Go.Proofs.Ytocicepnlepfeaa
