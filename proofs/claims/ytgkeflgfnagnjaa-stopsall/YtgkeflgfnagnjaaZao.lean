import Derived.Test.YtgkeflgfnagnjaaZan
import Derived.Test.YtgkeflgfnagnjaaZal
import Derived.Test.YtgkeflgfnagnjaaZah
/-
  The document's New, Feed, Create.
-/
namespace Go.Proofs.Ytgkeflgfnagnjaa
open Go.RowKit
set_option linter.unusedVariables false
set_option maxRecDepth 100000

/-- A slice that shows files. -/
structure Rs (w : World) (o : Option Addr) (n c : Nat) (L : List Rf) : Prop where
  len : L.length = n
  room : n ≤ c
  top : c ≤ maxLen
  nil : o = none → c = 0
  k : ∀ a, o = some a → ∀ j u, (rcells L)[j]? = some u → w.cell? (a.add j) = some u
theorem rcells_app (L K : List Rf) : rcells (L ++ K) = rcells L ++ rcells K := by simp [rcells]
theorem rcells_take (L : List Rf) (m : Nat) : rcells (L.take m) = (rcells L).take (m * 5) := by
  have h1 := rcells_app (L.take m) (L.drop m)
  rw [List.take_append_drop] at h1
  rw [h1]
  have h2 := rcells_len (L.take m)
  rcases Nat.le_total m L.length with h | h
  · rw [List.length_take, Nat.min_eq_left h] at h2
    rw [← h2, List.take_left']
    rfl
  · rw [List.drop_eq_nil_of_le h]
    simp only [rcells, List.map_nil, List.flatten_nil, List.append_nil]
    have h3 : (rcells (L.take m)).length ≤ m * 5 := by rw [h2, List.length_take]; omega
    exact (List.take_of_length_le h3).symm
theorem rcells_drop (L : List Rf) (m : Nat) (h : m ≤ L.length) : rcells (L.drop m) = (rcells L).drop (m * 5) := by
  have h1 := rcells_app (L.take m) (L.drop m)
  rw [List.take_append_drop] at h1
  rw [h1]
  have h2 := rcells_len (L.take m)
  rw [List.length_take, Nat.min_eq_left h] at h2
  rw [← h2, List.drop_left']
  rfl
theorem Rr.shows {w : World} {base n c : Nat} {ao : Option Addr} {L : List Rf} (h : Rr w base ao n c L) : Rs w ao n c L := by
  refine ⟨h.len, h.room.1, h.room.2, fun e => ?_, fun a e j u hu => ?_⟩
  · rcases h.row.2 with ⟨h4, _⟩ | ⟨g, cp, cur, hv, _⟩
    · injection h4
    · rw [e] at hv; cases hv
  · rcases h.row.2 with ⟨h4, _⟩ | ⟨g, cp, cur, hv, _⟩
    · rw [e] at h4; cases h4
    · cases hv
      cases e
      exact h.row.cells (g := g) rfl _ _ hu
theorem Rs.take {w : World} {o : Option Addr} {n c : Nat} {L : List Rf} (h : Rs w o n c L) (m : Nat) (hm : m ≤ n) : Rs w o m c (L.take m) :=
  ⟨by rw [List.length_take, h.len]; omega, Nat.le_trans hm h.room, h.top, h.nil, fun a e j u hu => by
    rw [rcells_take, List.getElem?_take] at hu
    split at hu
    · exact h.k a e j u hu
    · cases hu⟩
theorem Rs.drop {w : World} {b i : Nat} {n c : Nat} {L : List Rf} (h : Rs w (some ⟨b, i, none⟩) n c L) (m : Nat) (hm : m ≤ n) (i' : Nat) (hi : c - m = 0 ∨ i' = i + m * 5) : Rs w (some ⟨b, i', none⟩) (n - m) (c - m) (L.drop m) := by
  have hl := h.len
  have hr := h.room
  refine ⟨by rw [List.length_drop, h.len], by omega, by have := h.top; omega, (fun e => by cases e), fun a e j u hu => ?_⟩
  cases e
  rw [rcells_drop _ _ (by omega), List.getElem?_drop] at hu
  have h9 := h.k _ rfl _ u hu
  rw [Addr.add_lit] at h9 ⊢
  have hj : m * 5 + j < (rcells L).length := (List.getElem?_eq_some_iff.1 hu).1
  rw [rcells_len] at hj
  rcases hi with hi | hi
  · omega
  · rw [hi, Nat.add_assoc]; exact h9
theorem Rs.grown {w w' : World} {o : Option Addr} {n c : Nat} {L : List Rf} (h : Rs w o n c L) (hg : w.grownBy w' none) : Rs w' o n c L := ⟨h.len, h.room, h.top, h.nil, fun a e j u hu => hg.cell (h.k a e j u hu) (by simp)⟩
theorem Rs.kept {w w' : World} {o : Option Addr} {n c : Nat} {L : List Rf} {row : Option Nat} (h : Rs w o n c L) (hg : w.grownBy w' row) (hn : ∀ a, o = some a → row ≠ some a.block) : Rs w' o n c L := ⟨h.len, h.room, h.top, h.nil, fun a e j u hu => hg.cell (h.k a e j u hu) (fun e9 => hn a e (by rw [add_block] at e9; exact e9.symm))⟩
/-- An append of files behind a row of files. -/
theorem wpList_append_rf {w : World} {ops : Array Oper} {rest : List Oper} {op : Oper} {a : Act} {Q : Exit → Act → World → Prop} (hgd : op.guard = none) (s x : Operand)
    (ho : op.op = .call { callee := .builtin .append, args := #[s, x], argTypes := #[72, 72] }) {base : Nat} {ro : Option Addr} {n rc : Nat} {L : List Rf} (hs : a.eval s = .slice ro n rc) (hL : Rr w base ro n rc L)
    {xo : Option Addr} {m xc : Nat} {K : List Rf} (hx : a.eval x = .slice xo m xc) (hX : Rs w xo m xc K) (hb : n + m ≤ 100000) (hbase : base ≤ w.heap.size)
    (h : ∀ ro' rc' w', Rr w' base ro' (n + m) rc' (L ++ K) → w.grownBy w' (blk ro) → wpList Try.prog ops Q rest (a.put op.dst (.slice ro' (n + m) rc')) w') :
    wpList Try.prog ops Q (op :: rest) a w := by
  obtain ⟨inf, hi, hz, hz1, hz2⟩ := info_parts info101
  cases xo with
  | none =>
    obtain rfl := hX.nil rfl
    obtain rfl : m = 0 := Nat.le_zero.1 hX.room
    obtain rfl : K = [] := List.eq_nil_of_length_eq_zero hX.len
    refine wpList_append_own_none hgd s x 72 ho base 82 inf 5 Try.underlying72 hi _ n _ hs hL.row hx ?_
    have := h ro rc w (by simpa using hL) (grown_refl _ _)
    simpa using this
  | some xa =>
    refine wpList_append_own _ hgd s x 72 ho base 82 inf _ 5 48 Try.underlying72 hi hz hz1 hz2 rfl (by decide) _ n _ hs hL.row xa m xc (rcells K) hx (by rw [rcells_len, hX.len]) (hX.k xa rfl) (rcells_one K) (by unfold maxLen; omega) (by omega) hbase ?_
    intro v' w2 hown hg2 _
    rw [blk_own] at hg2
    rcases hown.2 with ⟨rfl, h0⟩ | ⟨g, c', cur, rfl, h5⟩
    · have := h none 0 w2 ⟨by simp [hL.len, hX.len], by rw [h0]; rw [h0] at hown; exact (by rw [rcells_app]; exact hown)⟩ hg2
      rw [h0] at this
      exact this
    · exact h _ _ w2 ⟨by simp [hL.len, hX.len], by rw [rcells_app]; exact hown⟩ hg2
/-- The row of files is a new one. -/
theorem Rv.rerow {w w3 : World} {T : Nat → Prop} {rb base : Nat} {L L' : List Rf} {fs : List (Int × Int)} {st : Int} (h : Rv w T rb L fs st) (hg : w.grownBy w3 none) (hb : w.heap.size ≤ base) {ao : Option Addr} {n ac : Nat} (hr : Rr w3 base ao n ac L') : Rn w (w3.setCell ⟨rb, 0, none⟩ (.slice ao n ac)) T rb L' fs st := by
  obtain ⟨ao0, ac0, fo, fn, fc, h1, h2, h3, h4, h5⟩ := h.ex
  have hl := hr.len
  subst hl
  have hC := setCell_chg w3 rb 0 (.slice ao L'.length ac)
  have h13 := heap_kept hg h1 (by simp)
  have trb : Ty w3 rb 74 := ⟨_, _, h13⟩
  have hCw : Chg w (w3.setCell ⟨rb, 0, none⟩ (.slice ao L'.length ac)) (fun q => q = rb) := (Chg.of_grown hg _).trans hC
  have trw : Ty w rb 74 := ⟨_, _, h1⟩
  refine ⟨⟨fun k => T k ∨ (w.heap.size ≤ k ∧ k < w3.heap.size), ⟨⟨ao, ac, fo, fn, fc, ?_, ?_, h3.chg hCw (fun a e k => (h4 a e).2.ne trw (by decide) k), fun a e => ⟨Or.inl (h4 a e).1, (h4 a e).2.chg hCw (fun k => (h4 a e).2.ne trw (by decide) k)⟩, fun q hq => ?_⟩, Or.inl h.tb, fun k hk => ?_⟩, fun k hk => hk.imp id (fun h => h.1)⟩, hCw.mono (fun k _ e => e ▸ h.tb)⟩
  · have := heap_set h13 0 (.slice ao L'.length ac)
    simpa using this
  · have hr0 : Rr w3 0 ao L'.length ac L' := ⟨hr.len, hr.row.1, by
      rcases hr.row.2 with h9 | ⟨g, c', cur, hv, hb', h9⟩
      · exact .inl h9
      · exact .inr ⟨g, c', cur, hv, Nat.zero_le _, h9⟩⟩
    exact hr0.chg hC (fun q hq e => (hr.ty q hq).ne trb (by decide) e)
  · have := hr.from_base q hq
    exact Or.inr ⟨by omega, this.2⟩
  · rcases hk with hk | hk
    · have := h.lt k hk; have := hg.size; simp; omega
    · simpa using hk.2
/-- .. behind a step. -/
theorem Rn.after {w w2 w3 : World} {T : Nat → Prop} {rb : Nat} {L : List Rf} {fs : List (Int × Int)} {st : Int} (hc : Chg w w2 T) (h : Rn w2 w3 T rb L fs st) : Rn w w3 T rb L fs st := by
  obtain ⟨⟨T', h1, h2⟩, h3⟩ := h
  exact ⟨⟨T', h1, fun k hk => (h2 k hk).imp id (fun h => Nat.le_trans hc.size h)⟩, hc.trans h3⟩
theorem Rn.of {w w2 : World} {T : Nat → Prop} {rb : Nat} {L : List Rf} {fs : List (Int × Int)} {st : Int} (h : Rv w2 T rb L fs st) (hc : Chg w w2 T) : Rn w w2 T rb L fs st := ⟨⟨T, h, fun k hk => .inl hk⟩, hc⟩
/-- Where a name comes in. -/
def posL (L : List Rf) (s : ByteArray) : Nat := (L.takeWhile (fun f => Op.bytesLess f.s.toList s.toList)).length
def insL (L : List Rf) (s : ByteArray) : List Rf := L.take (posL L s) ++ [⟨s, [], 0, true, false⟩] ++ L.drop (posL L s)
theorem posL_eq {L : List Rf} {s : ByteArray} {p : Nat} (h1 : ∀ f ∈ L.take p, Op.bytesLess f.s.toList s.toList = true) (h2 : L.length ≤ p ∨ ∃ f, L[p]? = some f ∧ Op.bytesLess f.s.toList s.toList = false) (hp : p ≤ L.length) : posL L s = p := by
  unfold posL
  induction L generalizing p with
  | nil => simp at hp; simp [hp]
  | cons x r ih =>
    cases p with
    | zero =>
      rcases h2 with h2 | ⟨f, h2, h3⟩
      · simp at h2
      · simp at h2; subst h2; simp [List.takeWhile, h3]
    | succ p =>
      have hx := h1 x (by simp)
      have := ih (p := p) (fun f hf => h1 f (by simp; exact .inr hf)) (by simpa using h2) (by simpa using hp)
      simp [List.takeWhile, hx, this]
section
variable {w w' : World} {T : Nat → Prop} {rb : Nat} {L : List Rf} {fs : List (Int × Int)} {st : Int}

set_option maxRecDepth 100000 in
set_option maxHeartbeats 1000000 in
theorem new_r {o : Option Addr} {k c : Nat} {l : List (Int × Int)} (hf : Ft w o k c l) (hk : k ≤ 1000) : Calls Try.prog 32 #[.slice o k c] w fun e w' => ∃ rb, e = .returned (.pointer (some ⟨rb, 0, none⟩)) ∧ (∃ T, Rv w' T rb [] l 0 ∧ ∀ k, T k → w.heap.size ≤ k) ∧ w.grownBy w' none := by
  have hE : Ft w none 0 0 [] := ⟨rfl, Nat.le_refl _, Nat.zero_le _, (fun a e => by cases e), (fun _ => rfl), (fun b i e => by cases e)⟩
  go_enter Try.func32, Try.ntmps32
  go_wp2_with (at_builtin; (refine wpList_feed rfl _ _ rfl rfl hE (fun ad e => by cases e) rfl hf (by omega) ?_))
  intro fo' fc' w2 hft hab hc2
  have hg2 : w.grownBy w2 none := hc2.grown (fun k hk e => e)
  have ga := alloc_grown w2 (.cells #[.slice none 0 0, .slice fo' k fc', .int .i64 0] 74)
  have ka := World.alloc_heap_new w2 (.cells #[.slice none 0 0, .slice fo' k fc', .int .i64 0] 74)
  have hG := grown_trans hg2 ga (by simp)
  have hs2 := hg2.size
  have hfin : Hid (∃ T, Rv (w2.alloc (.cells #[.slice none 0 0, .slice fo' k fc', .int .i64 0] 74)) T w2.heap.size [] l 0 ∧ ∀ k, T k → w.heap.size ≤ k) := by
    refine ⟨fun k => w.heap.size ≤ k ∧ k < w2.heap.size + 1, ⟨⟨none, 0, fo', k, fc', ka, ⟨rfl, World.ownsRow_nil _ _ _ _⟩, hft.chg (Chg.of_grown ga (fun _ => False)) (fun _ _ e => e), fun a e => ?_, fun q hq => by cases hq⟩, ⟨hs2, Nat.lt_succ_self _⟩, fun k hk => by simp; exact hk.2⟩, fun k hk => hk.1⟩
    have h3 := (hab a e).1.ty
    exact ⟨⟨(hab a e).2, by have := h3.lt; omega⟩, h3.chg (Chg.of_grown ga (fun _ => False)) (fun e => e)⟩
  clear hft hab hc2 hf hE ka ga
  go_wp2
  go_ret
  exact ⟨_, rfl, hfin.out, hG⟩
/-- What Create answers, and leaves. -/
def creL (L : List Rf) (fs : List (Int × Int)) (s : ByteArray) : Int × Bool × List Rf :=
  if nameB s = false then (2, false, L) else match atN L s with | some _ => (170, false, L) | none => ((stepC fs).1, true, if (stepC fs).1 = 0 then insL L s else L)
set_option maxRecDepth 100000 in
set_option maxHeartbeats 4000000 in
theorem create_r (h : Rv w T rb L fs st) (hl : L.length ≤ 4000) (h0 : 0 ≤ st) (h1 : st < 4611686018427387904) (s : ByteArray) :
    Calls Try.prog 33 #[.pointer (some ⟨rb, 0, none⟩), .string s] w fun e w' => e = .returned (.int .i64 (creL L fs s).1) ∧ Rn w w' T rb (creL L fs s).2.2 (if (creL L fs s).2.1 then fs.tail else fs) (if (creL L fs s).2.1 then st + 1 else st) := by
  have hnm := named_any w s
  have hat := at_r h (by omega) s
  have hst := step_r h h0 h1
  have hid : Rn w w T rb L fs st := Rn.of h (Chg.refl _ _)
  obtain ⟨ao, ac, fo, fn, fc, c0, _, _, _, hr, _⟩ := h.cells
  cases hn : nameB s with
  | false =>
    rw [hn] at hnm
    have hF : creL L fs s = (2, false, L) := by unfold creL; rw [if_pos hn]
    rw [hF]
    clear hr hat h hst
    go_enter Try.func33, Try.ntmps33
    go_wp2_with fail
    refine hnm.mono ?_
    rintro e w1 ⟨rfl, rfl⟩
    go_wp2
    go_ret
    exact ⟨rfl, by simpa using hid⟩
  | true =>
    rw [hn] at hnm
    cases ha : atN L s with
    | some i =>
      have hI : atI L s = (i : Int) := by unfold atI; rw [ha]
      rw [hI] at hat
      have hF : creL L fs s = (170, false, L) := by unfold creL; rw [if_neg (by simp [hn]), ha]
      rw [hF]
      have d1 : decide ((0 : Int) ≤ (i : Int)) = true := by simp
      clear hr h hst
      go_enter Try.func33, Try.ntmps33
      go_wp2_with fail
      refine hnm.mono ?_
      rintro e w1 ⟨rfl, rfl⟩
      go_wp2_with fail
      refine hat.mono ?_
      rintro e w1 ⟨rfl, rfl⟩
      go_wp2
      go_ret
      exact ⟨rfl, by simpa using hid⟩
    | none =>
      have hI : atI L s = -1 := by unfold atI; rw [ha]
      rw [hI] at hat
      have hF : creL L fs s = ((stepC fs).1, true, if (stepC fs).1 = 0 then insL L s else L) := by unfold creL; rw [if_neg (by simp [hn]), ha]
      rw [hF]
      have d1 : decide ((4096 : Int) ≤ (L.length : Int)) = false := by simp; omega
      have d1n : decide (4096 ≤ L.length) = false := by simp; omega
      simp only [if_true]
      by_cases hc : (stepC fs).1 = 0
      · rw [hc] at hst ⊢
        rw [if_pos rfl]
        generalize (stepC fs).2 = kp at *
        clear hr h hid hc
        go_enter Try.func33, Try.ntmps33
        go_wp2_with fail
        refine hnm.mono ?_
        rintro e w1 ⟨rfl, rfl⟩
        go_wp2_with fail
        refine hat.mono ?_
        rintro e w1 ⟨rfl, rfl⟩
        go_wp2_with fail
        refine hst.mono ?_
        clear hst hat hnm c0
        rintro e w2 ⟨rfl, hR2, hC2⟩
        obtain ⟨ao, ac, fo, fn, fc, c0, c1', c2', fz, hr, _⟩ := hR2.cells
        have hrm := hr.room
        unfold maxLen at hrm
        obtain ⟨hrm1, hrm2⟩ := hrm
        have HR : Hid _ := hr
        clear c1' c2' hr
        go_wp2_with fail
        go_loopw [9] (fun i' wr => ∃ i : Nat, i' = .int .i64 i ∧ i ≤ L.length ∧ wr = w2 ∧ Hid (∀ f ∈ L.take i, Op.bytesLess f.s.toList s.toList = true)) (fun i' _ => L.length - (intOf i').toNat)
        case atStart => exact ⟨0, rfl, Nat.zero_le _, rfl, (show ∀ f ∈ L.take 0, _ by simp)⟩
        case round =>
          obtain ⟨i, rfl, hi, rfl, hall⟩ := hrel
          by_cases hlt : i < L.length
          · have dl : decide ((i : Int) < (L.length : Int)) = true := by simp; omega
            have dl2 : decide (i < L.length) = true := by simpa using hlt
            obtain ⟨f, hf⟩ : ∃ f, L[i]? = some f := ⟨_, List.getElem?_eq_getElem hlt⟩
            cases hb : Op.bytesLess f.s.toList s.toList with
            | true =>
              obtain ⟨g, rfl, _, _⟩ := HR.out.addr (by omega)
              have q0 := HR.out.at hf 0 (by decide)
              simp only [Rf.cells, List.getElem?_cons_zero, Nat.add_zero] at q0
              have i1 : (0 : Int) ≤ (i : Int) := by omega
              have i2 : (i : Int) < (L.length : Int) := by omega
              have wz : IntKind.i64.wrap ((i : Int) + 1) = ((i + 1 : Nat) : Int) := by rw [IntWalk.i64_in _ (by omega)]; push_cast; rfl
              have hall2 : Hid (∀ f ∈ L.take (i + 1), Op.bytesLess f.s.toList s.toList = true) := (by
                show ∀ f ∈ L.take (i + 1), _
                intro g hg
                rw [List.take_add_one, hf] at hg
                rcases List.mem_append.1 hg with hg | hg
                · exact hall.out g hg
                · have : g = f := by simpa using hg
                  rw [this]; exact hb)
              clear hf hall
              go_wp2
              go_roundw
              case rel => exact ⟨i + 1, by first | rfl | simp, by omega, by first | trivial | rfl, hall2⟩
              case measure => simp [intOf]; omega
            | false =>
              have hp : posL L s = i := posL_eq hall.out (.inr ⟨f, hf, hb⟩) hi
              have dd : True := trivial
              obtain ⟨gq, hgq0, _, _⟩ := HR.out.addr (by omega)
              have q0 : wr.cell? ⟨gq, i * 5, none⟩ = some (.string f.s) := by
                have h9 := HR.out
                rw [hgq0] at h9
                have := h9.at hf 0 (by decide)
                simpa [Rf.cells] using this
              have i1 : (0 : Int) ≤ (i : Int) := by omega
              have i2 : (i : Int) < (L.length : Int) := by omega
              clear hf
              subst hgq0
              have aa : Addr := ⟨gq, 0, none⟩
              clear aa
              have hRs := HR.out.shows
              have hgl := (HR.out.from_base gq rfl).2
              have hX1 := hRs.take i (by omega)
              have s1 : (0 : Int) ≤ (i : Int) := by omega
              have s2 : (i : Int) ≤ (ac : Int) := by omega
              have s3 : (i : Int) ≤ (L.length : Int) := by omega
              have HALL : Hid _ := hall
              clear hall dd
              by_cases hia : ac = i
              · exfalso; omega
              · have hia2 : ¬ ac = i := hia
                have hia3 : i < ac := by omega
                go_wp2_with (at_builtin; (refine wpList_append_rf rfl _ _ rfl rfl (Rr.nil wr wr.heap.size) rfl hX1 (by omega) (Nat.le_refl _) ?_))
                intro ro1 rc1 w3 hr1 hg3
                have hg3 : wr.grownBy w3 none := hg3
                have ga := alloc_grown w3 (.cells #[.string s, .string ⟨#[]⟩, .int .i64 0, .bool true, .bool false] 82)
                have ka := World.alloc_heap_new w3 (.cells #[.string s, .string ⟨#[]⟩, .int .i64 0, .bool true, .bool false] 82)
                have hX2 : Rs (w3.alloc (.cells #[.string s, .string ⟨#[]⟩, .int .i64 0, .bool true, .bool false] 82)) (some ⟨w3.heap.size, 0, none⟩) 1 1 [⟨s, [], 0, true, false⟩] := ⟨rfl, Nat.le_refl _, by unfold maxLen; omega, (fun e => by cases e), fun a e j u hu => by
                  cases e
                  rw [Addr.add_lit, Nat.zero_add, cell_at ka]
                  simpa [rcells, Rf.cells] using hu⟩
                have hs3 := hg3.size
                have hr1a := hr1.own ga (fun r e => by cases e)
                clear ka
                go_wp2_with (at_builtin; (refine wpList_append_rf rfl _ _ rfl rfl hr1a rfl hX2 (by omega) (by simp; omega) ?_))
                intro ro2 rc2 w5 hr2 hg5
                have hb1 : ∀ q, blk ro1 = some q → wr.heap.size ≤ q := fun q hq => (hr1.from_base q hq).1
                have hg25 : wr.grownBy w5 none := grown_trans (grown_trans hg3 ga (by simp)) hg5 (fun k e => Or.inr (hb1 k e))
                have c05 := hg25.cell c0 (by simp)
                have hs5 := hg25.size
                have hX3 := Rs.drop (i := 0) (hRs.kept hg25 (fun a e => by simp)) i (by omega) (i * 5) (.inr (by omega))
                go_wp2_with (at_builtin; (refine wpList_append_rf rfl _ _ rfl rfl hr2 rfl hX3 (by omega) (by omega) ?_))
                intro ro3 rc3 w6 hr3 hg6
                have hb2 : ∀ q, blk ro2 = some q → wr.heap.size ≤ q := fun q hq => (hr2.from_base q hq).1
                have hg26 : wr.grownBy w6 none := grown_trans hg25 hg6 (fun k e => Or.inr (hb2 k e))
                have c06 := hg26.cell c0 (by simp)
                have f06 : w6.frozen? ⟨rb, 0, none⟩ = false := (World.frozen?_of_block (w := wr) (a := ⟨rb, 0, none⟩) (hg26.block rb (hR2.lt rb hR2.tb) (by simp))).trans (fz 0)
                have hfin : Hid (Rn w1 (w6.setCell ⟨rb, 0, none⟩ (.slice ro3 (i + 1 + (L.length - i)) rc3)) T rb (insL L s) fs.tail (st + 1)) := (by
                  have hQ := Rv.rerow hR2 hg26 (Nat.le_refl _) hr3
                  have e9 : insL L s = (L.take i ++ ⟨s, [], 0, true, false⟩ :: L.drop i) := by unfold insL; rw [hp]; simp
                  show Rn w1 _ T rb (insL L s) fs.tail (st + 1)
                  rw [e9]
                  exact Rn.after hC2 hQ)
                clear hr1 hr2 hr3 hr1a hX1 hX2 hg3 hg5 hg6 hR2 hC2 ga
                go_wp2
                go_ret
                exact ⟨rfl, hfin.out⟩
          · have dl : decide ((i : Int) < (L.length : Int)) = false := by simp; omega
            have hp : posL L s = i := posL_eq hall.out (.inl (by omega)) hi
            have dd : True := trivial
            cases ao with
            | none =>
              have hL0 : L = [] := by
                have := HR.out.room
                rcases HR.out.row.2 with ⟨h4, h5⟩ | ⟨g, cp, cur, hv, _⟩
                · exact List.eq_nil_of_length_eq_zero h5
                · cases hv
              have hac : ac = 0 := HR.out.shows.nil rfl
              obtain rfl : i = 0 := by rw [hL0] at hi; simpa using hi
              have hX1 : Rs wr none 0 0 [] := ⟨rfl, Nat.le_refl _, Nat.zero_le _, fun _ => rfl, (fun a e => by cases e)⟩
              have hln : L.length = 0 := by rw [hL0]; rfl
              rw [hln, hac] at c0
              have HL0 : Hid _ := hL0
              clear hL0 hall hln dd
              go_wp2_with (at_builtin; (refine wpList_append_rf rfl _ _ rfl rfl (Rr.nil wr wr.heap.size) rfl hX1 (by omega) (Nat.le_refl _) ?_))
              intro ro1 rc1 w3 hr1 hg3
              have hg3 : wr.grownBy w3 none := hg3
              have ga := alloc_grown w3 (.cells #[.string s, .string ⟨#[]⟩, .int .i64 0, .bool true, .bool false] 82)
              have ka := World.alloc_heap_new w3 (.cells #[.string s, .string ⟨#[]⟩, .int .i64 0, .bool true, .bool false] 82)
              have hX2 : Rs (w3.alloc (.cells #[.string s, .string ⟨#[]⟩, .int .i64 0, .bool true, .bool false] 82)) (some ⟨w3.heap.size, 0, none⟩) 1 1 [⟨s, [], 0, true, false⟩] := ⟨rfl, Nat.le_refl _, by unfold maxLen; omega, (fun e => by cases e), fun a e j u hu => by
                cases e
                rw [Addr.add_lit, Nat.zero_add, cell_at ka]
                simpa [rcells, Rf.cells] using hu⟩
              have hs3 := hg3.size
              have hr1a := hr1.own ga (fun r e => by cases e)
              clear ka
              go_wp2_with (at_builtin; (refine wpList_append_rf rfl _ _ rfl rfl hr1a rfl hX2 (by omega) (by simp; omega) ?_))
              intro ro2 rc2 w5 hr2 hg5
              have hb1 : ∀ q, blk ro1 = some q → wr.heap.size ≤ q := fun q hq => (hr1.from_base q hq).1
              have hg25 : wr.grownBy w5 none := grown_trans (grown_trans hg3 ga (by simp)) hg5 (fun k e => Or.inr (hb1 k e))
              have c05 := hg25.cell c0 (by simp)
              have hs5 := hg25.size
              have hX3 : Rs w5 none 0 0 [] := ⟨rfl, Nat.le_refl _, Nat.zero_le _, fun _ => rfl, (fun a e => by cases e)⟩
              go_wp2_with (at_builtin; (refine wpList_append_rf rfl _ _ rfl rfl hr2 rfl hX3 (by omega) (by omega) ?_))
              intro ro3 rc3 w6 hr3 hg6
              have hb2 : ∀ q, blk ro2 = some q → wr.heap.size ≤ q := fun q hq => (hr2.from_base q hq).1
              have hg26 : wr.grownBy w6 none := grown_trans hg25 hg6 (fun k e => Or.inr (hb2 k e))
              have c06 := hg26.cell c0 (by simp)
              have f06 : w6.frozen? ⟨rb, 0, none⟩ = false := (World.frozen?_of_block (w := wr) (a := ⟨rb, 0, none⟩) (hg26.block rb (hR2.lt rb hR2.tb) (by simp))).trans (fz 0)
              have hfin : Hid (Rn w1 (w6.setCell ⟨rb, 0, none⟩ (.slice ro3 (0 + 1 + 0) rc3)) T rb (insL L s) fs.tail (st + 1)) := (by
                have hQ := Rv.rerow hR2 hg26 (Nat.le_refl _) hr3
                have e9 : insL L s = [⟨s, [], 0, true, false⟩] := by unfold insL; rw [hp]; rw [HL0.out]; rfl
                show Rn w1 _ T rb (insL L s) fs.tail (st + 1)
                rw [e9]
                exact Rn.after hC2 hQ)
              clear hr1 hr2 hr3 hr1a hX1 hX2 hg3 hg5 hg6 hR2 hC2 ga
              go_wp2
              go_ret
              exact ⟨rfl, hfin.out⟩
            | some aa =>
              have hRs := HR.out.shows
              obtain ⟨g, hgq⟩ : ∃ g, aa = ⟨g, 0, none⟩ := by
                rcases HR.out.row.2 with ⟨h4, h5⟩ | ⟨g, cp, cur, hv, _⟩
                · cases h4
                · cases hv; exact ⟨g, rfl⟩
              subst hgq
              have hgl := (HR.out.from_base g rfl).2
              have hX1 := hRs.take i (by omega)
              have s1 : (0 : Int) ≤ (i : Int) := by omega
              have s2 : (i : Int) ≤ (ac : Int) := by omega
              have s3 : (i : Int) ≤ (L.length : Int) := by omega
              have HALL : Hid _ := hall
              clear hall dd
              by_cases hia : ac = i
              · have HIA : Hid (L.length ≤ ac) := (by show _ ≤ _; omega)
                subst hia
                go_wp2_with (at_builtin; (refine wpList_append_rf rfl _ _ rfl rfl (Rr.nil wr wr.heap.size) rfl hX1 (by omega) (Nat.le_refl _) ?_))
                intro ro1 rc1 w3 hr1 hg3
                have hg3 : wr.grownBy w3 none := hg3
                have ga := alloc_grown w3 (.cells #[.string s, .string ⟨#[]⟩, .int .i64 0, .bool true, .bool false] 82)
                have ka := World.alloc_heap_new w3 (.cells #[.string s, .string ⟨#[]⟩, .int .i64 0, .bool true, .bool false] 82)
                have hX2 : Rs (w3.alloc (.cells #[.string s, .string ⟨#[]⟩, .int .i64 0, .bool true, .bool false] 82)) (some ⟨w3.heap.size, 0, none⟩) 1 1 [⟨s, [], 0, true, false⟩] := ⟨rfl, Nat.le_refl _, by unfold maxLen; omega, (fun e => by cases e), fun a e j u hu => by
                  cases e
                  rw [Addr.add_lit, Nat.zero_add, cell_at ka]
                  simpa [rcells, Rf.cells] using hu⟩
                have hs3 := hg3.size
                have hr1a := hr1.own ga (fun r e => by cases e)
                clear ka
                go_wp2_with (at_builtin; (refine wpList_append_rf rfl _ _ rfl rfl hr1a rfl hX2 (by omega) (by simp; omega) ?_))
                intro ro2 rc2 w5 hr2 hg5
                have hb1 : ∀ q, blk ro1 = some q → wr.heap.size ≤ q := fun q hq => (hr1.from_base q hq).1
                have hg25 : wr.grownBy w5 none := grown_trans (grown_trans hg3 ga (by simp)) hg5 (fun k e => Or.inr (hb1 k e))
                have c05 := hg25.cell c0 (by simp)
                have hs5 := hg25.size
                have hX3 := Rs.drop (i := 0) (hRs.kept hg25 (fun a e => by simp)) ac (by omega) 0 (.inl (by omega))
                rw [Nat.sub_self, show L.length - ac = 0 by have := HIA.out; omega] at hX3
                go_wp2_with (at_builtin; (refine wpList_append_rf rfl _ _ rfl rfl hr2 rfl hX3 (by omega) (by omega) ?_))
                intro ro3 rc3 w6 hr3 hg6
                have hb2 : ∀ q, blk ro2 = some q → wr.heap.size ≤ q := fun q hq => (hr2.from_base q hq).1
                have hg26 : wr.grownBy w6 none := grown_trans hg25 hg6 (fun k e => Or.inr (hb2 k e))
                have c06 := hg26.cell c0 (by simp)
                have f06 : w6.frozen? ⟨rb, 0, none⟩ = false := (World.frozen?_of_block (w := wr) (a := ⟨rb, 0, none⟩) (hg26.block rb (hR2.lt rb hR2.tb) (by simp))).trans (fz 0)
                have hfin : Hid (Rn w1 (w6.setCell ⟨rb, 0, none⟩ (.slice ro3 (ac + 1) rc3)) T rb (insL L s) fs.tail (st + 1)) := (by
                  have hQ := Rv.rerow hR2 hg26 (Nat.le_refl _) hr3
                  have e9 : insL L s = (L.take ac ++ ⟨s, [], 0, true, false⟩ :: L.drop ac) := by unfold insL; rw [hp]; simp
                  show Rn w1 _ T rb (insL L s) fs.tail (st + 1)
                  rw [e9]
                  exact Rn.after hC2 hQ)
                clear hr1 hr2 hr3 hr1a hX1 hX2 hg3 hg5 hg6 hR2 hC2 ga
                go_wp2
                go_ret
                exact ⟨rfl, hfin.out⟩
              · have hia2 : ¬ ac = i := hia
                have hia3 : i < ac := by omega
                go_wp2_with (at_builtin; (refine wpList_append_rf rfl _ _ rfl rfl (Rr.nil wr wr.heap.size) rfl hX1 (by omega) (Nat.le_refl _) ?_))
                intro ro1 rc1 w3 hr1 hg3
                have hg3 : wr.grownBy w3 none := hg3
                have ga := alloc_grown w3 (.cells #[.string s, .string ⟨#[]⟩, .int .i64 0, .bool true, .bool false] 82)
                have ka := World.alloc_heap_new w3 (.cells #[.string s, .string ⟨#[]⟩, .int .i64 0, .bool true, .bool false] 82)
                have hX2 : Rs (w3.alloc (.cells #[.string s, .string ⟨#[]⟩, .int .i64 0, .bool true, .bool false] 82)) (some ⟨w3.heap.size, 0, none⟩) 1 1 [⟨s, [], 0, true, false⟩] := ⟨rfl, Nat.le_refl _, by unfold maxLen; omega, (fun e => by cases e), fun a e j u hu => by
                  cases e
                  rw [Addr.add_lit, Nat.zero_add, cell_at ka]
                  simpa [rcells, Rf.cells] using hu⟩
                have hs3 := hg3.size
                have hr1a := hr1.own ga (fun r e => by cases e)
                clear ka
                go_wp2_with (at_builtin; (refine wpList_append_rf rfl _ _ rfl rfl hr1a rfl hX2 (by omega) (by simp; omega) ?_))
                intro ro2 rc2 w5 hr2 hg5
                have hb1 : ∀ q, blk ro1 = some q → wr.heap.size ≤ q := fun q hq => (hr1.from_base q hq).1
                have hg25 : wr.grownBy w5 none := grown_trans (grown_trans hg3 ga (by simp)) hg5 (fun k e => Or.inr (hb1 k e))
                have c05 := hg25.cell c0 (by simp)
                have hs5 := hg25.size
                have hX3 := Rs.drop (i := 0) (hRs.kept hg25 (fun a e => by simp)) i (by omega) (i * 5) (.inr (by omega))
                go_wp2_with (at_builtin; (refine wpList_append_rf rfl _ _ rfl rfl hr2 rfl hX3 (by omega) (by omega) ?_))
                intro ro3 rc3 w6 hr3 hg6
                have hb2 : ∀ q, blk ro2 = some q → wr.heap.size ≤ q := fun q hq => (hr2.from_base q hq).1
                have hg26 : wr.grownBy w6 none := grown_trans hg25 hg6 (fun k e => Or.inr (hb2 k e))
                have c06 := hg26.cell c0 (by simp)
                have f06 : w6.frozen? ⟨rb, 0, none⟩ = false := (World.frozen?_of_block (w := wr) (a := ⟨rb, 0, none⟩) (hg26.block rb (hR2.lt rb hR2.tb) (by simp))).trans (fz 0)
                have hfin : Hid (Rn w1 (w6.setCell ⟨rb, 0, none⟩ (.slice ro3 (i + 1 + (L.length - i)) rc3)) T rb (insL L s) fs.tail (st + 1)) := (by
                  have hQ := Rv.rerow hR2 hg26 (Nat.le_refl _) hr3
                  have e9 : insL L s = (L.take i ++ ⟨s, [], 0, true, false⟩ :: L.drop i) := by unfold insL; rw [hp]; simp
                  show Rn w1 _ T rb (insL L s) fs.tail (st + 1)
                  rw [e9]
                  exact Rn.after hC2 hQ)
                clear hr1 hr2 hr3 hr1a hX1 hX2 hg3 hg5 hg6 hR2 hC2 ga
                go_wp2
                go_ret
                exact ⟨rfl, hfin.out⟩
      · rw [if_neg hc]
        have d2 : ((stepC fs).1 != 0) = true := by simpa using hc
        generalize (stepC fs).2 = kp at *
        generalize (stepC fs).1 = cd at *
        clear hr h hid hc
        go_enter Try.func33, Try.ntmps33
        go_wp2_with fail
        refine hnm.mono ?_
        rintro e w1 ⟨rfl, rfl⟩
        go_wp2_with fail
        refine hat.mono ?_
        rintro e w1 ⟨rfl, rfl⟩
        go_wp2_with fail
        refine hst.mono ?_
        clear hst hat hnm c0
        rintro e w2 ⟨rfl, hR2, hC2⟩
        go_wp2
        go_ret
        exact ⟨rfl, Rn.of hR2 hC2⟩
end
end Go.Proofs.Ytgkeflgfnagnjaa

/-
  The document's Remove: what it puts into a file's record.
-/
namespace Go.Proofs.Ytgkeflgfnagnjaa
open Go.RowKit
set_option linter.unusedVariables false
set_option maxRecDepth 100000

set_option maxRecDepth 100000 in
set_option maxHeartbeats 4000000 in
theorem reg26 (W : World) (rb g i n c z la : Nat) (s0 b0 : ByteArray) (hla : la ≤ b0.size) (c0 : W.cell? ⟨rb, 0, none⟩ = some (.slice (some ⟨g, 0, none⟩) n c)) (hrg : rb ≠ g) (hzg : z ≠ g) (hi : i < n) (x0 : W.cell? ⟨z, 0, none⟩ = some (.string s0)) (x1 : W.cell? ⟨z, 1, none⟩ = some (.string b0)) (x2 : W.cell? ⟨z, 2, none⟩ = some (.int .i64 (la : Int)))
    (y0 y1 y2 y3 y4 : Value) (g0 : W.cell? ⟨g, i * 5, none⟩ = some y0) (g1 : W.cell? ⟨g, i * 5 + 1, none⟩ = some y1) (g2 : W.cell? ⟨g, i * 5 + 2, none⟩ = some y2) (g3 : W.cell? ⟨g, i * 5 + 3, none⟩ = some y3) (g4 : W.cell? ⟨g, i * 5 + 4, none⟩ = some y4) (fz : ∀ k, W.frozen? ⟨g, k, none⟩ = false) (v1 v2 v3 v4 v6 v7 v8 v10 v11 v12 v13 v14 v15 v16 v17 v18 v19 v20 v21 v22 v23 v24 v25 v26 v27 v28 v29 v30 v31 v32 v33 v34 v35 v36 v37 v38 v39 v40 v41 v42 v43 v44 v45 v46 v47 v48 v49 v50 v51 v52 v53 v54 v55 v56 v57 v58 v59 v60 v61 v62 v63 v64 v65 v66 v67 v68 v69 v70 v71 v72 : Value) (dl : List Deferred) :
    (Code.region 9 #[{ dst := some 37, op := Op.move (Operand.tmp 0), type := 27, pos := "ref.go:220", after := #[], guard := none }, { dst := some 38, op := Op.nilCheck (Operand.tmp 37), type := 0, pos := "ref.go:220", after := #[{ on := 0, ground := Ground.data }], guard := none }, { dst := some 39, op := Op.fieldAddr 74 (Operand.tmp 38) 0, type := 0, pos := "ref.go:220", after := #[{ on := 1, ground := Ground.data }], guard := none }, { dst := some 40, op := Op.load 72 (Operand.tmp 39), type := 72, pos := "ref.go:220", after := #[{ on := 2, ground := Ground.data }], guard := none }, { dst := some 41, op := Op.move (Operand.tmp 5), type := 3, pos := "ref.go:220", after := #[], guard := none }, { dst := some 42, op := Op.fieldAddr 82 (Operand.tmp 9) 0, type := 0, pos := "ref.go:220", after := #[], guard := none }, { dst := some 43, op := Op.load 9 (Operand.tmp 42), type := 9, pos := "ref.go:220", after := #[{ on := 5, ground := Ground.data }], guard := none }, { dst := some 44, op := Op.fieldAddr 82 (Operand.tmp 9) 1, type := 0, pos := "ref.go:220", after := #[], guard := none }, { dst := some 45, op := Op.load 9 (Operand.tmp 44), type := 9, pos := "ref.go:220", after := #[{ on := 7, ground := Ground.data }], guard := none }, { dst := some 46, op := Op.fieldAddr 82 (Operand.tmp 9) 2, type := 0, pos := "ref.go:220", after := #[], guard := none }, { dst := some 47, op := Op.load 3 (Operand.tmp 46), type := 3, pos := "ref.go:220", after := #[{ on := 9, ground := Ground.data }], guard := none }, { dst := some 48, op := Op.slice 9 (Operand.tmp 45) none (some (Operand.tmp 47)) none, type := 9, pos := "ref.go:220", after := #[{ on := 8, ground := Ground.data }, { on := 10, ground := Ground.data }], guard := none }, { dst := some 49, op := Op.fieldAddr 82 (Operand.tmp 9) 2, type := 0, pos := "ref.go:220", after := #[], guard := none }, { dst := some 50, op := Op.load 3 (Operand.tmp 49), type := 3, pos := "ref.go:220", after := #[{ on := 12, ground := Ground.data }], guard := none }, { dst := some 51, op := Op.build 82 #[(0, Operand.tmp 43), (1, Operand.tmp 48), (2, Operand.tmp 50), (4, Operand.const (Value.bool true))], type := 82, pos := "ref.go:220", after := #[{ on := 6, ground := Ground.data }, { on := 11, ground := Ground.data }, { on := 13, ground := Ground.data }], guard := none }, { dst := some 52, op := Op.indexAddr 72 (Operand.tmp 40) (Operand.tmp 41), type := 0, pos := "ref.go:220", after := #[{ on := 3, ground := Ground.data }, { on := 4, ground := Ground.data }, { on := 0, ground := Ground.phase }, { on := 1, ground := Ground.phase }, { on := 2, ground := Ground.phase }, { on := 3, ground := Ground.phase }, { on := 4, ground := Ground.phase }, { on := 5, ground := Ground.phase }, { on := 6, ground := Ground.phase }, { on := 7, ground := Ground.phase }, { on := 8, ground := Ground.phase }, { on := 9, ground := Ground.phase }, { on := 10, ground := Ground.phase }, { on := 11, ground := Ground.phase }, { on := 12, ground := Ground.phase }, { on := 13, ground := Ground.phase }, { on := 14, ground := Ground.phase }], guard := none }, { dst := none, op := Op.store 82 (Operand.tmp 52) (Operand.tmp 51), type := 0, pos := "ref.go:220", after := #[{ on := 15, ground := Ground.data }, { on := 14, ground := Ground.data }, { on := 0, ground := Ground.phase }, { on := 1, ground := Ground.phase }, { on := 2, ground := Ground.phase }, { on := 3, ground := Ground.phase }, { on := 4, ground := Ground.phase }, { on := 5, ground := Ground.phase }, { on := 6, ground := Ground.phase }, { on := 7, ground := Ground.phase }, { on := 8, ground := Ground.phase }, { on := 9, ground := Ground.phase }, { on := 10, ground := Ground.phase }, { on := 11, ground := Ground.phase }, { on := 12, ground := Ground.phase }, { on := 13, ground := Ground.phase }, { on := 14, ground := Ground.phase }], guard := none }] true).wp Try.prog (fun e a' w' => e = .normal ∧ ∃ u37 u38 u39 u40 u41 u42 u43 u44 u45 u46 u47 u48 u49 u50 u51 u52 : Value, a' = { tmps := #[.pointer (some ⟨rb, 0, none⟩), v1, v2, v3, v4, .int .i64 (i : Int), v6, v7, v8, .pointer (some ⟨z, 0, none⟩), v10, v11, v12, v13, v14, v15, v16, v17, v18, v19, v20, v21, v22, v23, v24, v25, v26, v27, v28, v29, v30, v31, v32, v33, v34, v35, v36, u37, u38, u39, u40, u41, u42, u43, u44, u45, u46, u47, u48, u49, u50, u51, u52, v53, v54, v55, v56, v57, v58, v59, v60, v61, v62, v63, v64, v65, v66, v67, v68, v69, v70, v71, v72], defers := dl } ∧ w' = ((((W.drew.setCell ⟨g, i * 5, none⟩ (.string s0)).setCell ⟨g, i * 5 + 1, none⟩ (.string (b0.extract 0 la))).setCell ⟨g, i * 5 + 2, none⟩ (.int .i64 (la : Int))).setCell ⟨g, i * 5 + 3, none⟩ (.bool false)).setCell ⟨g, i * 5 + 4, none⟩ (.bool true)) { tmps := #[.pointer (some ⟨rb, 0, none⟩), v1, v2, v3, v4, .int .i64 (i : Int), v6, v7, v8, .pointer (some ⟨z, 0, none⟩), v10, v11, v12, v13, v14, v15, v16, v17, v18, v19, v20, v21, v22, v23, v24, v25, v26, v27, v28, v29, v30, v31, v32, v33, v34, v35, v36, v37, v38, v39, v40, v41, v42, v43, v44, v45, v46, v47, v48, v49, v50, v51, v52, v53, v54, v55, v56, v57, v58, v59, v60, v61, v62, v63, v64, v65, v66, v67, v68, v69, v70, v71, v72], defers := dl } W := by
  have i1 : (0 : Int) ≤ (i : Int) := by omega
  have i2 : (i : Int) < (n : Int) := by omega
  have l1 : (0 : Int) ≤ (la : Int) := by omega
  have l2 : (la : Int) ≤ (b0.size : Int) := by omega
  have hgd := grown_drew W none
  have d0 : W.drew.cell? ⟨g, i * 5, none⟩ = some y0 := hgd.cell g0 (by simp)
  have d1 : W.drew.cell? ⟨g, i * 5 + 1, none⟩ = some y1 := hgd.cell g1 (by simp)
  have d2 : W.drew.cell? ⟨g, i * 5 + 2, none⟩ = some y2 := hgd.cell g2 (by simp)
  have d3 : W.drew.cell? ⟨g, i * 5 + 3, none⟩ = some y3 := hgd.cell g3 (by simp)
  have d4 : W.drew.cell? ⟨g, i * 5 + 4, none⟩ = some y4 := hgd.cell g4 (by simp)
  have fd : ∀ k, W.drew.frozen? ⟨g, k, none⟩ = false := fz
  have hSS : ∀ V, Chg W V (fun q => q = g) → (fun w' => w'.cell? ⟨rb, 0, none⟩ = some (.slice (some ⟨g, 0, none⟩) n c) ∧ w'.cell? ⟨z, 0, none⟩ = some (.string s0) ∧ w'.cell? ⟨z, 1, none⟩ = some (.string b0) ∧ w'.cell? ⟨z, 2, none⟩ = some (.int .i64 (la : Int))) V := fun V hV => ⟨hV.cell c0 hrg, hV.cell x0 hzg, hV.cell x1 hzg, hV.cell x2 hzg⟩
  have hC0 : Chg W W.drew (fun q => q = g) := Chg.of_grown (grown_drew W none) _
  refine wp_region_held_drew (S := fun w' => w'.cell? ⟨rb, 0, none⟩ = some (.slice (some ⟨g, 0, none⟩) n c) ∧ w'.cell? ⟨z, 0, none⟩ = some (.string s0) ∧ w'.cell? ⟨z, 1, none⟩ = some (.string b0) ∧ w'.cell? ⟨z, 2, none⟩ = some (.int .i64 (la : Int))) (by kernel_rfl) (hSS _ hC0) (fun hHeld => ?_)
  refine wpAnyH_take (i := 0) (oi := { dst := some 37, op := Op.move (Operand.tmp 0), type := 27, pos := "ref.go:220", after := #[], guard := none }) (v := ?_) rfl (by kernel_rfl) (by kernel_rfl) (by kernel_rfl) (fun _ _ _ h => nomatch h.1) (Or.inl ⟨by rfl, ?_⟩) (by assumption) ?_
  rotate_left
  · intro w hSw; (try dsimp only at hSw); go_simp
    try with_reducible rfl
  try simp only [Act.put, List.setIfInBounds_toArray, List.set_cons_zero, List.set_cons_succ]
  refine wpAnyH_take (i := 1) (oi := { dst := some 38, op := Op.nilCheck (Operand.tmp 37), type := 0, pos := "ref.go:220", after := #[{ on := 0, ground := Ground.data }], guard := none }) (v := ?_) rfl (by kernel_rfl) (by kernel_rfl) (by kernel_rfl) (fun _ _ _ h => nomatch h.1) (Or.inl ⟨by rfl, ?_⟩) (by assumption) ?_
  rotate_left
  · intro w hSw; (try dsimp only at hSw); go_simp
    try with_reducible rfl
  try simp only [Act.put, List.setIfInBounds_toArray, List.set_cons_zero, List.set_cons_succ]
  refine wpAnyH_take (i := 2) (oi := { dst := some 39, op := Op.fieldAddr 74 (Operand.tmp 38) 0, type := 0, pos := "ref.go:220", after := #[{ on := 1, ground := Ground.data }], guard := none }) (v := ?_) rfl (by kernel_rfl) (by kernel_rfl) (by kernel_rfl) (fun _ _ _ h => nomatch h.1) (Or.inl ⟨by rfl, ?_⟩) (by assumption) ?_
  rotate_left
  · intro w hSw; (try dsimp only at hSw); go_simp
    try with_reducible rfl
  try simp only [Act.put, List.setIfInBounds_toArray, List.set_cons_zero, List.set_cons_succ]
  refine wpAnyH_take (i := 3) (oi := { dst := some 40, op := Op.load 72 (Operand.tmp 39), type := 72, pos := "ref.go:220", after := #[{ on := 2, ground := Ground.data }], guard := none }) (v := ?_) rfl (by kernel_rfl) (by kernel_rfl) (by kernel_rfl) (fun _ _ _ h => nomatch h.1) (Or.inl ⟨by rfl, ?_⟩) (by assumption) ?_
  rotate_left
  · intro w hSw; (try dsimp only at hSw); go_simp
    try with_reducible rfl
  try simp only [Act.put, List.setIfInBounds_toArray, List.set_cons_zero, List.set_cons_succ]
  refine wpAnyH_take (i := 4) (oi := { dst := some 41, op := Op.move (Operand.tmp 5), type := 3, pos := "ref.go:220", after := #[], guard := none }) (v := ?_) rfl (by kernel_rfl) (by kernel_rfl) (by kernel_rfl) (fun _ _ _ h => nomatch h.1) (Or.inl ⟨by rfl, ?_⟩) (by assumption) ?_
  rotate_left
  · intro w hSw; (try dsimp only at hSw); go_simp
    try with_reducible rfl
  try simp only [Act.put, List.setIfInBounds_toArray, List.set_cons_zero, List.set_cons_succ]
  refine wpAnyH_take (i := 5) (oi := { dst := some 42, op := Op.fieldAddr 82 (Operand.tmp 9) 0, type := 0, pos := "ref.go:220", after := #[], guard := none }) (v := ?_) rfl (by kernel_rfl) (by kernel_rfl) (by kernel_rfl) (fun _ _ _ h => nomatch h.1) (Or.inl ⟨by rfl, ?_⟩) (by assumption) ?_
  rotate_left
  · intro w hSw; (try dsimp only at hSw); go_simp
    try with_reducible rfl
  try simp only [Act.put, List.setIfInBounds_toArray, List.set_cons_zero, List.set_cons_succ]
  refine wpAnyH_take (i := 6) (oi := { dst := some 43, op := Op.load 9 (Operand.tmp 42), type := 9, pos := "ref.go:220", after := #[{ on := 5, ground := Ground.data }], guard := none }) (v := ?_) rfl (by kernel_rfl) (by kernel_rfl) (by kernel_rfl) (fun _ _ _ h => nomatch h.1) (Or.inl ⟨by rfl, ?_⟩) (by assumption) ?_
  rotate_left
  · intro w hSw; (try dsimp only at hSw); go_simp
    try with_reducible rfl
  try simp only [Act.put, List.setIfInBounds_toArray, List.set_cons_zero, List.set_cons_succ]
  refine wpAnyH_take (i := 7) (oi := { dst := some 44, op := Op.fieldAddr 82 (Operand.tmp 9) 1, type := 0, pos := "ref.go:220", after := #[], guard := none }) (v := ?_) rfl (by kernel_rfl) (by kernel_rfl) (by kernel_rfl) (fun _ _ _ h => nomatch h.1) (Or.inl ⟨by rfl, ?_⟩) (by assumption) ?_
  rotate_left
  · intro w hSw; (try dsimp only at hSw); go_simp
    try with_reducible rfl
  try simp only [Act.put, List.setIfInBounds_toArray, List.set_cons_zero, List.set_cons_succ]
  refine wpAnyH_take (i := 8) (oi := { dst := some 45, op := Op.load 9 (Operand.tmp 44), type := 9, pos := "ref.go:220", after := #[{ on := 7, ground := Ground.data }], guard := none }) (v := ?_) rfl (by kernel_rfl) (by kernel_rfl) (by kernel_rfl) (fun _ _ _ h => nomatch h.1) (Or.inl ⟨by rfl, ?_⟩) (by assumption) ?_
  rotate_left
  · intro w hSw; (try dsimp only at hSw); go_simp
    try with_reducible rfl
  try simp only [Act.put, List.setIfInBounds_toArray, List.set_cons_zero, List.set_cons_succ]
  refine wpAnyH_take (i := 9) (oi := { dst := some 46, op := Op.fieldAddr 82 (Operand.tmp 9) 2, type := 0, pos := "ref.go:220", after := #[], guard := none }) (v := ?_) rfl (by kernel_rfl) (by kernel_rfl) (by kernel_rfl) (fun _ _ _ h => nomatch h.1) (Or.inl ⟨by rfl, ?_⟩) (by assumption) ?_
  rotate_left
  · intro w hSw; (try dsimp only at hSw); go_simp
    try with_reducible rfl
  try simp only [Act.put, List.setIfInBounds_toArray, List.set_cons_zero, List.set_cons_succ]
  refine wpAnyH_take (i := 10) (oi := { dst := some 47, op := Op.load 3 (Operand.tmp 46), type := 3, pos := "ref.go:220", after := #[{ on := 9, ground := Ground.data }], guard := none }) (v := ?_) rfl (by kernel_rfl) (by kernel_rfl) (by kernel_rfl) (fun _ _ _ h => nomatch h.1) (Or.inl ⟨by rfl, ?_⟩) (by assumption) ?_
  rotate_left
  · intro w hSw; (try dsimp only at hSw); go_simp
    try with_reducible rfl
  try simp only [Act.put, List.setIfInBounds_toArray, List.set_cons_zero, List.set_cons_succ]
  refine wpAnyH_take (i := 11) (oi := { dst := some 48, op := Op.slice 9 (Operand.tmp 45) none (some (Operand.tmp 47)) none, type := 9, pos := "ref.go:220", after := #[{ on := 8, ground := Ground.data }, { on := 10, ground := Ground.data }], guard := none }) (v := ?_) rfl (by kernel_rfl) (by kernel_rfl) (by kernel_rfl) (fun _ _ _ h => nomatch h.1) (Or.inl ⟨by rfl, ?_⟩) (by assumption) ?_
  rotate_left
  · intro w hSw; (try dsimp only at hSw); go_simp
    try with_reducible rfl
  try simp only [Act.put, List.setIfInBounds_toArray, List.set_cons_zero, List.set_cons_succ]
  refine wpAnyH_take (i := 12) (oi := { dst := some 49, op := Op.fieldAddr 82 (Operand.tmp 9) 2, type := 0, pos := "ref.go:220", after := #[], guard := none }) (v := ?_) rfl (by kernel_rfl) (by kernel_rfl) (by kernel_rfl) (fun _ _ _ h => nomatch h.1) (Or.inl ⟨by rfl, ?_⟩) (by assumption) ?_
  rotate_left
  · intro w hSw; (try dsimp only at hSw); go_simp
    try with_reducible rfl
  try simp only [Act.put, List.setIfInBounds_toArray, List.set_cons_zero, List.set_cons_succ]
  refine wpAnyH_take (i := 13) (oi := { dst := some 50, op := Op.load 3 (Operand.tmp 49), type := 3, pos := "ref.go:220", after := #[{ on := 12, ground := Ground.data }], guard := none }) (v := ?_) rfl (by kernel_rfl) (by kernel_rfl) (by kernel_rfl) (fun _ _ _ h => nomatch h.1) (Or.inl ⟨by rfl, ?_⟩) (by assumption) ?_
  rotate_left
  · intro w hSw; (try dsimp only at hSw); go_simp
    try with_reducible rfl
  try simp only [Act.put, List.setIfInBounds_toArray, List.set_cons_zero, List.set_cons_succ]
  refine wpAnyH_take (i := 14) (oi := { dst := some 51, op := Op.build 82 #[(0, Operand.tmp 43), (1, Operand.tmp 48), (2, Operand.tmp 50), (4, Operand.const (Value.bool true))], type := 82, pos := "ref.go:220", after := #[{ on := 6, ground := Ground.data }, { on := 11, ground := Ground.data }, { on := 13, ground := Ground.data }], guard := none }) (v := ?_) rfl (by kernel_rfl) (by kernel_rfl) (by kernel_rfl) (fun _ _ _ h => nomatch h.1) (Or.inl ⟨by rfl, ?_⟩) (by assumption) ?_
  rotate_left
  · intro w hSw; (try dsimp only at hSw); go_simp
    try with_reducible rfl
  try simp only [Act.put, List.setIfInBounds_toArray, List.set_cons_zero, List.set_cons_succ]
  refine wpAnyH_take (i := 15) (oi := { dst := some 52, op := Op.indexAddr 72 (Operand.tmp 40) (Operand.tmp 41), type := 0, pos := "ref.go:220", after := #[{ on := 3, ground := Ground.data }, { on := 4, ground := Ground.data }, { on := 0, ground := Ground.phase }, { on := 1, ground := Ground.phase }, { on := 2, ground := Ground.phase }, { on := 3, ground := Ground.phase }, { on := 4, ground := Ground.phase }, { on := 5, ground := Ground.phase }, { on := 6, ground := Ground.phase }, { on := 7, ground := Ground.phase }, { on := 8, ground := Ground.phase }, { on := 9, ground := Ground.phase }, { on := 10, ground := Ground.phase }, { on := 11, ground := Ground.phase }, { on := 12, ground := Ground.phase }, { on := 13, ground := Ground.phase }, { on := 14, ground := Ground.phase }], guard := none }) (v := ?_) rfl (by kernel_rfl) (by kernel_rfl) (by kernel_rfl) (fun _ _ _ h => nomatch h.1) (Or.inl ⟨by rfl, ?_⟩) (by assumption) ?_
  rotate_left
  · intro w hSw; (try dsimp only at hSw); go_simp
    try with_reducible rfl
  try simp only [Act.put, List.setIfInBounds_toArray, List.set_cons_zero, List.set_cons_succ]
  refine wpAnyH_ready (rs := [16]) (by kernel_rfl) (by simp) ?_
  refine AllReadyH.cons (o := { dst := none, op := Op.store 82 (Operand.tmp 52) (Operand.tmp 51), type := 0, pos := "ref.go:220", after := #[{ on := 15, ground := Ground.data }, { on := 14, ground := Ground.data }, { on := 0, ground := Ground.phase }, { on := 1, ground := Ground.phase }, { on := 2, ground := Ground.phase }, { on := 3, ground := Ground.phase }, { on := 4, ground := Ground.phase }, { on := 5, ground := Ground.phase }, { on := 6, ground := Ground.phase }, { on := 7, ground := Ground.phase }, { on := 8, ground := Ground.phase }, { on := 9, ground := Ground.phase }, { on := 10, ground := Ground.phase }, { on := 11, ground := Ground.phase }, { on := 12, ground := Ground.phase }, { on := 13, ground := Ground.phase }, { on := 14, ground := Ground.phase }], guard := none }) rfl (fun K hK => ?_) (AllReadyH.nil)
  go_simp
  refine hK.out _ _ (hSS _ (hC0.trans (((((setCell_chg _ g _ _).trans (setCell_chg _ g _ _)).trans (setCell_chg _ g _ _)).trans (setCell_chg _ g _ _)).trans (setCell_chg _ g _ _)))) (fun hHeld => ?_)
  clear hK K
  try simp only [Act.put, List.setIfInBounds_toArray, List.set_cons_zero, List.set_cons_succ]
  refine wpAnyH_done (by kernel_rfl) ?_ _
  exact ⟨rfl, _, _, _, _, _, _, _, _, _, _, _, _, _, _, _, _, rfl, rfl⟩
end Go.Proofs.Ytgkeflgfnagnjaa
