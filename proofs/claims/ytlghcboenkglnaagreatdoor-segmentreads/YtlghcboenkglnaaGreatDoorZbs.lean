import Derived.Test.YtlghcboenkglnaaGreatDoorZbr
import Derived.OwnWalkIn
import Derived.Maps.OwnIn
import Derived.Test.YtlghcboenkglnaaGreatDoorZbq
import Derived.Test.YtlghcboenkglnaaGreatDoorZbd
import Derived.Test.YtlghcboenkglnaaGreatDoorZbp
/-
  batches' closure as an iterator, told; the records that are gathered.
-/
namespace Go.Proofs.YtlghcboenkglnaaGreatDoor
open Go.RowKit Go.Shelf
set_option linter.unusedVariables false

section
variable {d i : Nat} {fs : List (Int × Int)} {st : Int} {T : Nat → Prop} {L : List Dsk.Rf}
theorem iter_told (Bk m : Nat) (hm : 1 ≤ m) (zp zf q p : Nat) (f : Fi) (B : List UInt8) (Q : List (Nat × Int × List Rec.Dr)) (w : World) (hi : i ≤ 4000) (hzp : w.cell? ⟨zp, 0, none⟩ = some (.int .i64 (p : Nat))) (hzf : Lf w zf 102 f) (hfq : zf ≠ q) (hql : q < w.heap.size) (hpv : Dsk.Pv w T f.d L fs st i) (hT : ∀ k, T k → k < Bk ∧ k ≠ q)
    (hrd : ∀ a : Nat, a ≤ B.length → Dsk.readL L f.nm (a : Int) 65536 = ((B.drop a).take 65536, 0)) (hz : f.z = B.length) (hBl : B.length ≤ 16777216) (hch : Rec.Chn B p Q) :
    SeqFresh Fence.wide m Tryz.prog 144 #[.pointer (some ⟨zp, 0, none⟩), .pointer (some ⟨zf, 0, none⟩)] benc (fun x => x.g) (fun _ => Btold Q) (Rec.Kr Bk q) (fun ys => ys.length = Q.length) (fun _ => True) w := by
  intro l J Jx W hW hJ hJx hY h0
  have hg := below_grownBy hW
  have hpW := hpv.grown hg
  refine (iter1 (T := T) (L := L) (fs := fs) (st := st) (i := i) Bk l zp zf q p f B Q J Jx m hm hi (fun s A B hs hg => hJ s A B none hs hg (fun r e => by cases e)) hY W (hg.cell hzp (by simp)) (hzf.grown hg) hfq (Nat.lt_of_lt_of_le hql hW.size) (fun W' hk => pv_kr hpW hk hT) hrd hz hBl hch h0).mono ?_
  rintro e W' ⟨h1, ⟨ys, h2, h3⟩ | ⟨pre, h2⟩⟩
  · exact ⟨h1, .inl ⟨ys, h2, h3⟩⟩
  · exact ⟨h1, .inr ⟨pre, trivial, h2⟩⟩
end

/-- A row of records that the call owns, whose bytes lie in no row of records. -/
structure Gt (W : World) (base : Nat) (ro : Option Addr) (n rc : Nat) (rs : List Rec.Rc) : Prop where
  rw : Rec.Rw W base ro n rc rs
  rk : ∀ r ∈ rs, Rec.Rk W r
  nr : Rec.NR W rs
theorem Gt.nil (W : World) (base : Nat) : Gt W base none 0 0 [] := ⟨Rec.Rw.nil W base, fun r hr => (by cases hr), fun r hr => (by cases hr)⟩
/-- A row of records. -/
theorem row_of {W : World} {base : Nat} {ro : Option Addr} {n rc : Nat} {rs : List Rec.Rc} (h : Rec.Rw W base ro n rc rs) {k : Nat} (hk : blk ro = some k) : ¬ Rec.NoRow W k := by
  intro hn
  rcases h.row.2 with ⟨hv, _⟩ | ⟨g, c, cur, hv, hb, hg, _⟩
  · cases hv
    cases hk
  · cases hv
    cases hk
    have := hn _ hg
    simp [Rec.isRowR] at this
/-- A record stands where no row of bytes turns. -/
theorem rk_kept {W V : World} {r : Rec.Rc} {row : Option Nat} (h : Rec.Rk W r) (hn : (∀ a, r.ko = some a → Rec.ByR W a.block) ∧ ∀ a, r.vo = some a → Rec.ByR W a.block) (hg : W.grownBy V row) (hr : ∀ k, row = some k → ¬ Rec.ByR W k) : Rec.Rk V r :=
  ⟨h.low, h.high, h.key.kept hg (fun a ha e => hr _ e.symm (hn.1 a ha)), h.value.kept hg (fun a ha e => hr _ e.symm (hn.2 a ha)), h.kb, h.vb⟩
theorem not_cell {W : World} {k : Nat} {c : Array Value} {t : TypeId} {row : Option Nat} (h : W.heap[k]? = some (.cells c t)) (hr : ∀ r, row = some r → ∃ o : Obj, W.heap[r]? = some o ∧ o.isCells = false) : row ≠ some k := fun e => by
  obtain ⟨o, ho, hc⟩ := hr k e
  rw [h] at ho
  cases ho
  cases hc
/-- What was gathered stands where records of loops turn alone. -/
theorem Gt.own {W V : World} {base : Nat} {ro : Option Addr} {n rc : Nat} {rs : List Rec.Rc} {row : Option Nat} (h : Gt W base ro n rc rs) (hg : W.grownBy V row) (hr : ∀ r, row = some r → ∃ o : Obj, W.heap[r]? = some o ∧ o.isCells = false) : Gt V base ro n rc rs := by
  have hby : ∀ k, row = some k → ¬ Rec.ByR W k := fun k e hb => by
    obtain ⟨c, hc⟩ := hb
    exact not_cell hc hr e
  refine ⟨h.rw.kept hg ?_, fun r hx => rk_kept (h.rk r hx) (h.nr r hx) hg hby, h.nr.kept hg hby⟩
  cases hb : blk ro with
  | none => exact .inl rfl
  | some k =>
    right
    rcases h.rw.row.2 with ⟨hv, _⟩ | ⟨g, c, cur, hv, _, hg2, _⟩
    · cases hv
      cases hb
    · cases hv
      cases hb
      exact fun e => not_cell hg2 hr e.symm
theorem Gt.grown {W V : World} {base : Nat} {ro : Option Addr} {n rc : Nat} {rs : List Rec.Rc} (h : Gt W base ro n rc rs) (hg : W.grownBy V none) : Gt V base ro n rc rs := h.own hg (fun r e => by cases e)
end Go.Proofs.YtlghcboenkglnaaGreatDoor

/-
  Records appended to a row of records, in a fence; what is gathered then.
-/
namespace Go.Proofs.YtlghcboenkglnaaGreatDoor
open Go.RowKit Go.Shelf
set_option linter.unusedVariables false

/-- The cells of records that a slice shows. -/
theorem rs_cells {w : World} {g o n cap : Nat} {qs : List Rec.Rc} (h : Rec.Rs w (some ⟨g, o, none⟩) n cap qs) : ∀ (j : Nat) u, (Rec.rcells qs)[j]? = some u → w.cell? ((⟨g, o, none⟩ : Addr).add j) = some u := by
  intro j u hu
  have hj := (List.getElem?_eq_some_iff.1 hu).1
  rw [Rec.rcells_len] at hj
  have h1 : j / 3 < qs.length := by omega
  obtain ⟨a1, a2, a3⟩ := Rec.rcells_get (List.getElem?_eq_getElem h1)
  obtain ⟨b1, b2, b3⟩ := h.cells g o rfl (j / 3) _ (List.getElem?_eq_getElem h1)
  rw [Addr.add_lit]
  have h3 : j % 3 = 0 ∨ j % 3 = 1 ∨ j % 3 = 2 := by omega
  rcases h3 with h3 | h3 | h3
  · rw [show j = j / 3 * 3 by omega, a1] at hu
    cases hu
    rw [show o + j = o + j / 3 * 3 by omega]
    exact b1
  · rw [show j = j / 3 * 3 + 1 by omega, a2] at hu
    cases hu
    rw [show o + j = o + j / 3 * 3 + 1 by omega]
    exact b2
  · rw [show j = j / 3 * 3 + 2 by omega, a3] at hu
    cases hu
    rw [show o + j = o + j / 3 * 3 + 2 by omega]
    exact b3
theorem wpListIn_append_recs {F : Fence} {m : Nat} (w : World) {ops : Array Oper} {rest : List Oper} {o : Oper} {a : Act} {Q : Exit → Act → World → Prop}
    (hg : o.guard = none) (s x : Operand) (hop : o.op = Op.call { callee := Callee.builtin Builtin.append, args := #[s, x], argTypes := #[47, 47] })
    (base : Nat) (ro : Option Addr) (n rc : Nat) (rs : List Rec.Rc) (hs : a.eval s = .slice ro n rc) (h : Rec.Rw w base ro n rc rs) (qs : List Rec.Rc) (ad : Addr) (k c : Nat) (hx : a.eval x = .slice (some ad) k c) (hk : qs.length = k)
    (hc : ∀ j u, (Rec.rcells qs)[j]? = some u → w.cell? (ad.add j) = some u) (hn : n + k ≤ 1000000) (hbase : base ≤ w.heap.size)
    (hK : ∀ ro' rc' w', Rec.Rw w' base ro' (n + k) rc' (rs ++ qs) → w.grownBy w' (blk ro) → (blk ro' = blk ro ∨ blk ro' = some w.heap.size) → wpListIn F m Tryz.prog ops Q rest (a.put o.dst (.slice ro' (n + k) rc')) w') :
    wpListIn F m Tryz.prog ops Q (o :: rest) a w := by
  obtain ⟨i, hi, hz, hzs, hz2⟩ := info_parts Rec.Tryz.info148
  refine wpListIn_append_own_at w hg s x 47 hop base 148 i _ 3 56 Tryz.underlying47 hi hz hzs hz2 rfl (by decide) _ n _ hs h.row ad k c (Rec.rcells qs) hx (by rw [Rec.rcells_len, hk]) hc (Rec.rcells_one qs) (by unfold maxLen; omega) (by omega) hbase ?_
  intro v' w' h2 h3 _ h4
  rw [blk_own] at h3
  have hr : Rec.rcells (rs ++ qs) = Rec.rcells rs ++ Rec.rcells qs := by simp [Rec.rcells]
  rw [← hr] at h2
  have hlen : (rs ++ qs).length = n + k := by rw [List.length_append, h.len, hk]
  rcases h2.2 with ⟨hv, h0⟩ | ⟨g, c2, cur, hv, _⟩
  · subst hv
    have h9 := hK none 0 w'
    rw [h0] at h9 hlen h2
    exact h9 ⟨hlen, h2⟩ h3 (by rw [blk_own, blk_own] at h4; exact h4)
  · subst hv
    rw [blk_own, blk_own] at h4
    exact hK _ _ _ ⟨hlen, h2⟩ h3 h4
/-- One record more is gathered. -/
theorem Gt.more {W V : World} {base : Nat} {ro ro' : Option Addr} {n rc n' rc' : Nat} {rs qs : List Rec.Rc} (h : Gt W base ro n rc rs) (hrw : Rec.Rw V base ro' n' rc' (rs ++ qs)) (hg : W.grownBy V (blk ro)) (hk : ∀ r ∈ qs, Rec.Rk W r) (hnr : Rec.NR W qs) : Gt V base ro' n' rc' (rs ++ qs) := by
  have hby : ∀ k, blk ro = some k → ¬ Rec.ByR W k := fun k e hb => row_of h.rw e hb.no
  refine ⟨hrw, fun r hx => ?_, fun r hx => ?_⟩
  · rcases List.mem_append.1 hx with hx | hx
    · exact rk_kept (h.rk r hx) (h.nr r hx) hg hby
    · exact rk_kept (hk r hx) (hnr r hx) hg hby
  · rcases List.mem_append.1 hx with hx | hx
    · exact (h.nr.kept hg hby) r hx
    · exact (hnr.kept hg hby) r hx
/-- One more of a list that begins somewhere. -/
theorem drop_step {α : Type} (A l : List α) (K j : Nat) (hj : j < l.length) : (A ++ l.take (j + 1)).drop K = if K ≤ A.length + j then (A ++ l.take j).drop K ++ [l[j]] else (A ++ l.take j).drop K := by
  rw [List.take_succ_eq_append_getElem hj, ← List.append_assoc]
  have hl : (A ++ l.take j).length = A.length + j := by rw [List.length_append, List.length_take]; omega
  split
  · rw [List.drop_append_of_le_length (by omega)]
  · rw [List.drop_eq_nil_of_le (by rw [List.length_append, List.length_singleton]; omega), List.drop_eq_nil_of_le (by omega)]
/-- A beginning that is long enough. -/
theorem drop_enough {α : Type} (P R : List α) (K ct : Nat) (h : (P.drop K).length = ct) (h0 : 0 < ct) : ((P ++ R).drop K).take ct = P.drop K := by
  have hl := List.length_drop (i := K) (l := P)
  rw [List.drop_append_of_le_length (by omega), ← h, List.take_left]
/-- The records of batches, one behind the other. -/
def flat (Q : List (Nat × Int × List Rec.Dr)) : List Rec.Dr := (Q.map (·.2.2)).flatten
/-- The batches' bases follow one another from b0 on. -/
def Bases (b0 : Int) (Q : List (Nat × Int × List Rec.Dr)) : Prop := ∀ (k : Nat) y, Q[k]? = some y → y.2.1 = b0 + ((flat (Q.take k)).length : Nat)
theorem flat_split (Q : List (Nat × Int × List Rec.Dr)) (k : Nat) : flat Q = flat (Q.take k) ++ flat (Q.drop k) := by
  unfold flat
  rw [← List.flatten_append, ← List.map_append, List.take_append_drop]
theorem wrap_in {n : Int} (h : -9223372036854775808 ≤ n ∧ n ≤ 9223372036854775807) : wrap64 n = n := by unfold wrap64; omega
/-- Whether an offset is reached. -/
theorem past {fr b0 xb : Int} {K A j : Nat} (h : fr = b0 + K) (hb : xb = b0 + (A : Nat)) : (K ≤ A + j → decide (fr ≤ xb + (j : Int)) = true) ∧ (¬ K ≤ A + j → decide (fr ≤ xb + (j : Int)) = false) := by
  refine ⟨fun h1 => decide_eq_true (by omega), fun h1 => decide_eq_false (by omega)⟩
theorem flat_round {Q : List (Nat × Int × List Rec.Dr)} {p : Nat} {y : Nat × Int × List Rec.Dr} (h : Q[p]? = some y) {D : List Rec.Dr} (hd : y.2.2 = D) (j : Nat) : flat Q = (flat (Q.take p) ++ D.take j) ++ (D.drop j ++ flat (Q.drop (p + 1))) := by
  have h1 := List.getElem?_eq_some_iff.1 h
  have h2 : Q.drop p = y :: Q.drop (p + 1) := by rw [List.drop_eq_getElem_cons h1.1, h1.2]
  have h3 : flat (Q.drop p) = D ++ flat (Q.drop (p + 1)) := by rw [h2]; simp [flat, hd]
  rw [flat_split Q p, h3, List.append_assoc, ← List.append_assoc (List.take j D), List.take_append_drop]
theorem flat_next {Q : List (Nat × Int × List Rec.Dr)} {p : Nat} {y : Nat × Int × List Rec.Dr} (h : Q[p]? = some y) {D : List Rec.Dr} (hd : y.2.2 = D) : flat (Q.take (p + 1)) = flat (Q.take p) ++ D := by
  rw [List.take_add_one, h]
  simp [flat, hd]
theorem not_row {W : World} {base : Nat} {ro : Option Addr} {n rc : Nat} {rs : List Rec.Rc} (h : Rec.Rw W base ro n rc rs) {k : Nat} {cs : Array Value} {t : TypeId} (hk : W.heap[k]? = some (.cells cs t)) (ht : t ≠ 148) : some k ≠ blk ro := by
  intro e
  rcases h.row.2 with ⟨hv, _⟩ | ⟨g, c, cur, hv, _, hg, _⟩
  · cases hv
    cases e
  · cases hv
    obtain rfl : k = g := by simpa [blk] using e
    rw [hk] at hg
    cases hg
    exact ht rfl
theorem row_cells {W : World} {base : Nat} {ro : Option Addr} {n rc : Nat} {rs : List Rec.Rc} (h : Rec.Rw W base ro n rc rs) {k : Nat} (e : blk ro = some k) : base ≤ k ∧ ∃ cs, W.heap[k]? = some (.cells cs 148) := by
  rcases h.row.2 with ⟨hv, _⟩ | ⟨g, c, cur, hv, hb, hg, _⟩
  · cases hv
    cases e
  · cases hv
    obtain rfl : g = k := by simpa [blk] using e
    exact ⟨hb, cur, hg⟩
section
variable {V2 w2 V3 : World} {B q : Nat} {ro : Option Addr} {n rc : Nat} {rs : List Rec.Rc}
/-- A row is appended to and its box turns: what stands. -/
theorem kr_round (h : Rec.Rw V2 B ro n rc rs) (hg : V2.grownBy w2 (blk ro)) (hc : Chg w2 V3 (fun k => k = q)) : Rec.Kr B q V2 V3 :=
  ⟨hc.os.trans hg.os, hc.tape.trans hg.tape, hc.output.trans hg.output, Nat.le_trans hg.size hc.size, fun k o hk _ hkq hr => by
    have hkl := (Array.getElem?_eq_some_iff.1 hk).1
    have h1 : w2.heap[k]? = some o := (hg.block k hkl (fun e => by
      obtain ⟨hb, cs, h2⟩ := row_cells h e.symm
      rw [h2] at hk
      cases hk
      have := hr hb
      simp [Rec.isRowR] at this)).trans hk
    exact (hc.block k (Array.getElem?_eq_some_iff.1 h1).1 hkq).trans h1⟩
theorem keeps_round {cs : Array Value} {t : TypeId} (A : Nat) (h : Rec.Rw V2 B ro n rc rs) (hg : V2.grownBy w2 (blk ro)) (hc : Chg w2 V3 (fun k => k = q)) (hq : V2.heap[q]? = some (.cells cs t)) : KeepsFrom A V2 V3 :=
  ⟨Nat.le_trans hg.size hc.size, fun k o _ hk ho => by
    have hkl := (Array.getElem?_eq_some_iff.1 hk).1
    have h1 : w2.heap[k]? = some o := (hg.block k hkl (fun e => by
      obtain ⟨hb, cs, h2⟩ := row_cells h e.symm
      rw [h2] at hk
      cases hk
      cases ho)).trans hk
    exact (hc.block k (Array.getElem?_eq_some_iff.1 h1).1 (fun e => by
      rw [e, hq] at hk
      cases hk
      cases ho)).trans h1⟩
end
/-- A slice of records stands where neither its row nor a row of bytes turns. -/
theorem rs_kept {W V : World} {g n cap : Nat} {rs : List Rec.Rc} {row : Option Nat} (h : Rec.Rs W (some ⟨g, 0, none⟩) n cap rs) (hnr : Rec.NR W rs) (hg : W.grownBy V row) (hr : ∀ k, row = some k → k ≠ g ∧ ¬ Rec.ByR W k) : Rec.Rs V (some ⟨g, 0, none⟩) n cap rs := by
  refine ⟨h.len, h.room, h.top, h.nil, fun a ha hn => ?_, fun b o ha j r hj => ?_, fun r hx => rk_kept (h.shows r hx) (hnr r hx) hg (fun k e => (hr k e).2)⟩
  · obtain ⟨b, o, e, hb⟩ := h.place a ha hn
    exact ⟨b, o, e, Nat.lt_of_lt_of_le hb hg.size⟩
  · obtain ⟨h1, h2, h3⟩ := h.cells b o ha j r hj
    cases ha
    exact ⟨hg.cell h1 (fun e => (hr _ e.symm).1 rfl), hg.cell h2 (fun e => (hr _ e.symm).1 rfl), hg.cell h3 (fun e => (hr _ e.symm).1 rfl)⟩
theorem grown_box {W V : World} {b : Nat} (hc : Chg W V (fun k => k = b)) : W.grownBy V (some b) := ⟨hc.os, hc.tape, hc.output, hc.size, fun k hk hne => hc.block k hk (fun e => hne (by rw [e]))⟩
theorem not_byr {W : World} {k : Nat} {c : Array Value} {t : TypeId} (h : W.heap[k]? = some (.cells c t)) (ht : t ≠ 5) : ¬ Rec.ByR W k := fun ⟨c2, h2⟩ => by
  rw [h] at h2
  cases h2
  exact ht rfl
/-- A row of records is no box. -/
theorem rs_box {W : World} {g n cap q : Nat} {rs : List Rec.Rc} {v : Value} {t : TypeId} (h : Rec.Rs W (some ⟨g, 0, none⟩) n cap rs) (hn : 0 < n) (hq : W.heap[q]? = some (.cells #[v] t)) : g ≠ q := by
  rintro rfl
  have hl := h.len
  have hj : 0 < rs.length := by omega
  have hc := (h.cells g 0 rfl 0 _ (List.getElem?_eq_getElem hj)).2.1
  rw [cell_at hq] at hc
  simp at hc
theorem rs_lt {W : World} {g n cap : Nat} {rs : List Rec.Rc} (h : Rec.Rs W (some ⟨g, 0, none⟩) n cap rs) (hn : 0 < n) : g < W.heap.size := by
  obtain ⟨b, o, e, hb⟩ := h.place _ rfl hn
  cases e
  exact hb
theorem int_eq {a b : Nat} (h : a + 1 = b) : (((a : Int) + 1) == (b : Int)) = true := by simp; omega
theorem int_ne {a b : Nat} (h : ¬ a + 1 = b) : (((a : Int) + 1) == (b : Int)) = false := by simp; omega
theorem int_ne0 {a b : Nat} (h : a < b) : ((a : Int) == (b : Int)) = false := by simp; omega
theorem hid {P : Prop} (h : P) : Hid P := h
theorem meas_lt {j c : Nat} (h : j < c) : c - (intOf (.int .i64 ((j : Int) + 1))).toNat < c - (intOf (.int .i64 (j : Int))).toNat := by
  simp [intOf]
  omega
theorem int_succ (j : Nat) : Value.int .i64 ((j : Int) + 1) = .int .i64 ((j + 1 : Nat) : Int) := by simp
end Go.Proofs.YtlghcboenkglnaaGreatDoor

/-
  The batches that stand, and the index' spots: in numbers alone.
-/
namespace Go.Proofs.YtlghcboenkglnaaGreatDoor
open Go.RowKit
set_option linter.unusedVariables false

/-- Where batches end that stand one behind the other. -/
def pls (Q : List (Nat × Int × List Rec.Dr)) : Nat := (Q.map (·.1)).sum
theorem pls_snoc (Q : List (Nat × Int × List Rec.Dr)) (x : Nat × Int × List Rec.Dr) : pls (Q ++ [x]) = pls Q + x.1 := by simp [pls]
theorem flat_snoc (Q : List (Nat × Int × List Rec.Dr)) (x : Nat × Int × List Rec.Dr) : flat (Q ++ [x]) = flat Q ++ x.2.2 := by simp [flat]
theorem chn_drop {B : List UInt8} : ∀ (k p : Nat) (Q : List (Nat × Int × List Rec.Dr)), Rec.Chn B p Q → k ≤ Q.length → Rec.Chn B (p + pls (Q.take k)) (Q.drop k)
  | 0, p, Q, h, _ => by simpa [pls] using h
  | k + 1, p, [], h, hk => by simp at hk
  | k + 1, p, x :: Q, h, hk => by
    have := chn_drop k (p + x.1) Q h.2.2.2.2.2.2 (by simpa using hk)
    simpa [pls, Nat.add_assoc] using this
theorem chn_end2 {B : List UInt8} {p : Nat} {Q : List (Nat × Int × List Rec.Dr)} (h : Rec.Chn B p Q) : p + pls Q = B.length := by
  have := chn_drop Q.length p Q h (Nat.le_refl _)
  rw [List.take_length, List.drop_length] at this
  exact this
theorem bases_drop {b0 : Int} {Q : List (Nat × Int × List Rec.Dr)} (h : Bases b0 Q) (k : Nat) : Bases (b0 + ((flat (Q.take k)).length : Nat)) (Q.drop k) := by
  intro j y hy
  rw [List.getElem?_drop] at hy
  have h1 := h _ y hy
  have h2 : Q.take (k + j) = Q.take k ++ (Q.drop k).take j := by rw [List.take_add]
  have h3 : flat (Q.take (k + j)) = flat (Q.take k) ++ flat ((Q.drop k).take j) := by rw [h2]; simp [flat]
  rw [h1, h3, List.length_append]
  omega
theorem bases_snoc {b0 : Int} {Q : List (Nat × Int × List Rec.Dr)} (h : Bases b0 Q) {x : Nat × Int × List Rec.Dr} (hx : x.2.1 = b0 + ((flat Q).length : Nat)) : Bases b0 (Q ++ [x]) := by
  intro j y hy
  by_cases hj : j < Q.length
  · rw [List.getElem?_append_left hj] at hy
    rw [List.take_append_of_le_length (by omega)]
    exact h j y hy
  · rw [List.getElem?_append_right (by omega)] at hy
    have hj2 : j = Q.length := by
      cases hk : j - Q.length with
      | zero => omega
      | succ m => rw [hk] at hy; simp at hy
    subst hj2
    simp at hy
    subst hy
    rw [List.take_left]
    exact hx
/-- A batch put behind those that stand. -/
theorem chn_snoc {B : List UInt8} {base : Int} {rs : List Rec.Rc} (hg : ∀ r ∈ rs, r.k.length = r.kn ∧ r.v.length = r.vn) (hm : (Rec.measR base rs).2 = 0) :
    ∀ (Q : List (Nat × Int × List Rec.Dr)) (p : Nat), Rec.Chn B p Q → Rec.Chn (B ++ Rec.batB base rs) p (Q ++ [(20 + Rec.szs rs, base, Rec.ds rs)])
  | [], p, h => by
    obtain ⟨hgood, hW, hb, hc⟩ := Rec.bat_whole hg hm
    have hl := Rec.bat_len (base := base) hgood
    have hE := Rec.ext_bat hg hm []
    rw [List.append_nil] at hE
    obtain rfl : p = B.length := h
    have ht : (Rec.batB base rs).take (20 + Rec.szs rs) = Rec.batB base rs := by rw [← hl, List.take_length]
    simp only [List.nil_append, Rec.Chn]
    rw [List.drop_left, ht]
    refine ⟨by rw [List.length_append, hl]; omega, hE, hW, hb.symm, by rw [hc, Rec.ds_len], fun j d hj => ?_, by rw [List.length_append, hl]⟩
    obtain ⟨hjl, hjd⟩ := List.getElem?_eq_some_iff.1 hj
    rw [Rec.ds_len] at hjl
    obtain ⟨a1, a2, a3, a4, a5⟩ := Rec.bat_says base hgood hjl
    have hp := Rec.pos_bat base hgood j (by omega)
    have hd : d = (rs[j]).d := by rw [← hjd]; simp [Rec.ds]
    rw [hp, hd]
    refine ⟨?_, ?_, ?_⟩
    · rw [a1]; rfl
    · rw [a2, a4]; rfl
    · rw [a2, a3, a5]; rfl
  | x :: Q, p, h => by
    obtain ⟨h1, h2, h3, h4, h5, h6, h7⟩ := h
    have ih := chn_snoc hg hm Q (p + x.1) h7
    have hd : (B ++ Rec.batB base rs).drop p = B.drop p ++ Rec.batB base rs := by rw [List.drop_append_of_le_length (by omega)]
    have ht : (B.drop p ++ Rec.batB base rs).take x.1 = (B.drop p).take x.1 := by rw [List.take_append_of_le_length (by rw [List.length_drop]; omega)]
    have he : Rec.extR (B.drop p ++ Rec.batB base rs) = (x.1, 0) := by
      have h8 : (B.drop p ++ Rec.batB base rs).take (B.drop p).length = B.drop p := List.take_left
      rw [← h8] at h2
      exact (Rec.ext_untake h2).1
    show Rec.Chn _ _ (x :: (Q ++ [_]))
    simp only [Rec.Chn]
    rw [hd, ht]
    exact ⟨by rw [List.length_append]; omega, he, h3, h4, h5, h6, ih⟩
/-- Each spot is the place of a batch, and its base; or of the end. -/
def Spt (b0 : Int) (Q : List (Nat × Int × List Rec.Dr)) (l : List Idx.Sd) : Prop := ∀ s ∈ l, ∃ k, k ≤ Q.length ∧ s.o = b0 + ((flat (Q.take k)).length : Nat) ∧ s.p = (pls (Q.take k) : Nat)
theorem Spt.snoc {b0 : Int} {Q : List (Nat × Int × List Rec.Dr)} {l : List Idx.Sd} (h : Spt b0 Q l) (x : Nat × Int × List Rec.Dr) : Spt b0 (Q ++ [x]) l := fun s hs => by
  obtain ⟨k, h1, h2, h3⟩ := h s hs
  refine ⟨k, by rw [List.length_append]; omega, ?_, ?_⟩ <;> rw [List.take_append_of_le_length h1]
  · exact h2
  · exact h3
theorem Spt.add {b0 : Int} {Q : List (Nat × Int × List Rec.Dr)} {l : List Idx.Sd} (h : Spt b0 Q l) (step : Int) : Spt b0 Q (Idx.addR step l ⟨b0 + ((flat Q).length : Nat), (pls Q : Nat)⟩).2.2 := by
  unfold Idx.addR
  split
  · exact h
  · split
    · exact h
    · intro s hs
      simp only [List.mem_append, List.mem_singleton] at hs
      rcases hs with hs | rfl
      · exact h s hs
      · exact ⟨Q.length, Nat.le_refl _, by rw [List.take_length], by rw [List.take_length]⟩
/-- Find's spot is ahead of what is sought, or there is none. -/
theorem find_spot {l : List Idx.Sd} (hs : Idx.Srt l) (n : Int) : (Idx.findR n l).1 = ⟨0, 0⟩ ∨ ((Idx.findR n l).1 ∈ l ∧ (Idx.findR n l).1.o ≤ n) := by
  unfold Idx.findR Idx.lastR
  split
  · exact .inl rfl
  · rename_i hc
    right
    obtain ⟨k, hk⟩ : ∃ k, Idx.cnt (fun s : Idx.Sd => decide (n < s.o)) l = k + 1 := ⟨Idx.cnt (fun s : Idx.Sd => decide (n < s.o)) l - 1, by omega⟩
    have hle := Idx.cnt_le (fun s : Idx.Sd => decide (n < s.o)) l
    have ht := Idx.take_cnt (pB := fun s => decide (n < s.o)) hs (fun s t h1 _ h2 => by simp at h2 ⊢; omega)
    rw [hk] at ht hle ⊢
    have hkl : k < l.length := by omega
    have ha : Idx.ahead l (k + 1) = l[k] := by simp [Idx.ahead, hkl]
    have hm : l[k] ∈ l.take (k + 1) := List.mem_take_iff_getElem.2 ⟨k, by omega, rfl⟩
    rw [ht, List.mem_filter] at hm
    show Idx.ahead l (k + 1) ∈ l ∧ _
    rw [ha]
    refine ⟨List.getElem_mem hkl, ?_⟩
    have := hm.2
    simp at this
    exact this
/-- Find's place is that of a batch that begins at or ahead of the offset. -/
theorem find_place {b0 n : Int} {Q : List (Nat × Int × List Rec.Dr)} {l : List Idx.Sd} (h : Spt b0 Q l) (hs : Idx.Srt l) (hn : b0 ≤ n) : ∃ k, k ≤ Q.length ∧ (Idx.findR n l).1.p = (pls (Q.take k) : Nat) ∧ b0 + ((flat (Q.take k)).length : Nat) ≤ n := by
  rcases find_spot hs n with h1 | ⟨h1, h2⟩
  · exact ⟨0, Nat.zero_le _, by rw [h1]; simp [pls], by simpa [flat] using hn⟩
  · obtain ⟨k, h3, h4, h5⟩ := h _ h1
    exact ⟨k, h3, h5, by omega⟩
/-- An index between two Appends. -/
structure Lx (l : List Idx.Sd) (e z : Int) : Prop where
  good : Idx.Good l
  srt : Idx.Srt l
  lo : (Idx.ahead l l.length).o < e
  lp : (Idx.ahead l l.length).p < z
theorem Lx.nil {e z : Int} (he : 0 ≤ e) (hz : 0 ≤ z) : Lx [] e z := ⟨(fun t ht => nomatch ht), List.Pairwise.nil, Int.lt_of_lt_of_le (by decide) he, Int.lt_of_lt_of_le (by decide) hz⟩
theorem Lx.add {l : List Idx.Sd} {e z e' z' : Int} (h : Lx l e z) (step : Int) (he : e < e') (hz : z < z') : Lx (Idx.addR step l ⟨e, z⟩).2.2 e' z' := by
  have hg := Idx.addR_good h.good step ⟨e, z⟩
  unfold Idx.addR at hg ⊢
  split
  · exact ⟨h.good, h.srt, Int.lt_trans h.lo he, Int.lt_trans h.lp hz⟩
  · split
    · exact ⟨h.good, h.srt, Int.lt_trans h.lo he, Int.lt_trans h.lp hz⟩
    · rename_i h1 h2
      rw [if_neg h1, if_neg h2] at hg
      refine ⟨hg, Idx.last_max h.srt h.lo h.lp, ?_, ?_⟩
      · show (Idx.ahead (l ++ [_]) (l ++ [_]).length).o < e'
        rw [Idx.ahead_snoc]
        exact he
      · show (Idx.ahead (l ++ [_]) (l ++ [_]).length).p < z'
        rw [Idx.ahead_snoc]
        exact hz
/-- The disk of one segment: a read of it. -/
theorem read_one {s : ByteArray} (hs : Dsk.nameB s = true) (B : List UInt8) (la : Nat) (nl : Bool) (a k : Int) (ha : 0 ≤ a) (ha2 : a ≤ B.length) (hk : 0 ≤ k) (hk2 : k ≤ 16777216) : Dsk.readL [⟨s, B, la, true, nl⟩] s a k = ((B.drop a.toNat).take k.toNat, 0) := by
  have hat : Dsk.atN [⟨s, B, la, true, nl⟩] s = some 0 := by simp [Dsk.atN, List.findIdx?_cons]
  have hlk : Dsk.lk [⟨s, B, la, true, nl⟩] s = some ⟨s, B, la, true, nl⟩ := by simp [Dsk.lk]
  have hf : Dsk.findR [⟨s, B, la, true, nl⟩] s = (0, 0) := by
    unfold Dsk.findR
    rw [if_neg (by simp [hs]), hat]
    simp
  have hc : Dsk.readC B.length a k = false := by
    unfold Dsk.readC
    simp
    omega
  unfold Dsk.readL
  rw [hf, hlk]
  simp [hc]
/-- The disk of one segment: an append to it, no fates. -/
theorem app_one {s : ByteArray} (hs : Dsk.nameB s = true) (B : List UInt8) (la : Nat) (nl : Bool) (st : Int) (x : List UInt8) : Dsk.appA [⟨s, B, la, true, nl⟩] [] st s x = ⟨0, [⟨s, B ++ x, la, true, nl⟩], [], st + 1⟩ := by
  have hat : Dsk.atN [⟨s, B, la, true, nl⟩] s = some 0 := by simp [Dsk.atN, List.findIdx?_cons]
  have hf : Dsk.findR [⟨s, B, la, true, nl⟩] s = (0, 0) := by
    unfold Dsk.findR
    rw [if_neg (by simp [hs]), hat]
    simp
  unfold Dsk.appA Dsk.hitA
  rw [hf, hat]
  simp [Dsk.stepR]
/-- The disk of one segment: made. -/
theorem cre_one {s : ByteArray} (hs : Dsk.nameB s = true) (st : Int) : Dsk.creA [] [] st s = ⟨0, [⟨s, [], 0, true, false⟩], [], st + 1⟩ := by
  have hat : Dsk.atN [] s = none := rfl
  unfold Dsk.creA Dsk.creL
  rw [if_neg (by simp [hs]), hat]
  simp [Dsk.stepC, Dsk.insL]
/-- What All hands on of bytes in which these batches stand. -/
theorem pl_chn {B : List UInt8} {n : Nat} {Q : List (Nat × Int × List Rec.Dr)} (hc : Rec.Chn B 0 Q) {l : List (Nat × Int × List Rec.Dr)} {Z : Nat} (h : Rec.Pl B n l Z) : l.length ≤ Q.length ∧ Z = pls (Q.take l.length) ∧ l.map (·.2.2) = (Q.take l.length).map (·.2.2) := by
  induction h with
  | nil => simp [pls]
  | @snoc l Z c s b D h1 hr ih =>
    obtain ⟨i1, i2, i3⟩ := ih
    have hd := chn_drop l.length 0 Q hc i1
    rw [Nat.zero_add, ← i2] at hd
    rcases hr with ⟨_, _, _, _, e, _⟩ | ⟨_, hN, _⟩ | ⟨hp, hE, hW, hb, hcc, _, hDl, hsay⟩
    · cases e
    · exact absurd rfl hN.1
    · rw [Int.toNat_natCast] at hE hW hb hcc hsay
      cases hQ : Q.drop l.length with
      | nil =>
        rw [hQ] at hd
        obtain rfl : Z = B.length := hd
        rw [List.drop_length] at hE
        exact absurd hE Rec.ext_nil
      | cons y Q' =>
        rw [hQ] at hd
        obtain ⟨g1, g2, g3, g4, g5, g6, g7⟩ := hd
        have hs : y.1 = s := by
          rw [g2] at hE
          exact congrArg Prod.fst hE
        rw [hs] at g5 g6
        have hD : D = y.2.2 := Rec.says_all (by rw [hDl, hcc, g5]) hsay g6
        have hkl : l.length < Q.length := by
          have := congrArg List.length hQ
          rw [List.length_drop, List.length_cons] at this
          omega
        have hy : Q[l.length]? = some y := by
          have h8 := congrArg (fun t => t[0]?) hQ
          simpa using h8
        have ht : Q.take (l.length + 1) = Q.take l.length ++ [y] := by
          rw [List.take_add_one, hy]
          rfl
        rw [List.length_append, List.length_singleton, ht, pls_snoc, List.map_append, List.map_append, i3]
        exact ⟨hkl, by rw [i2, hs], by simp [hD]⟩
theorem yend_chn {B : List UInt8} {n : Nat} (hn : B.length = n) {Q : List (Nat × Int × List Rec.Dr)} (hc : Rec.Chn B 0 Q) {l : List (Nat × Int × List Rec.Dr)} (h : Rec.Yend B n l) : l.map (·.2.2) = Q.map (·.2.2) := by
  obtain ⟨Z, C, h1, h2, h3⟩ := h
  obtain ⟨i1, i2, i3⟩ := pl_chn hc h1
  have hd := chn_drop l.length 0 Q hc i1
  rw [Nat.zero_add, ← i2] at hd
  have hle := hd.le
  cases hQ : Q.drop l.length with
  | nil =>
    have hkl : Q.length ≤ l.length := by
      have := congrArg List.length hQ
      rw [List.length_drop, List.length_nil] at this
      omega
    rw [i3, List.take_of_length_le hkl]
  | cons y Q' =>
    exfalso
    rw [hQ] at hd
    obtain ⟨g1, g2, g3, _⟩ := hd
    rcases h2 with ⟨hp, _⟩ | ⟨hp, hN, _⟩ | ⟨_, _, _, _, _, e, _⟩
    · unfold Rec.plcB at hp
      simp at hp
      omega
    · rw [Int.toNat_natCast] at hN
      rcases hN.2 with h8 | ⟨_, _, h8⟩
      · rw [g2] at h8
        exact hN.1 h8.symm
      · rw [g2] at h8
        exact h8 g3
    · exact h3 e
theorem told_chn {B : List UInt8} {n : Nat} {Q : List (Nat × Int × List Rec.Dr)} (hc : Rec.Chn B 0 Q) {pre : List Rec.Px} {x : Rec.Px} {W : World} (h : Rec.Ptold B n pre x W) : ∃ y, Q[pre.length]? = some y ∧ y.2.2 = Rec.ds x.rs := by
  obtain ⟨h1, ⟨s, h2⟩, _⟩ := h
  have h3 := pl_chn hc (Rec.Pl.snoc h1 h2)
  obtain ⟨i1, _, i3⟩ := h3
  have hkl : pre.length < Q.length := by simp at i1; omega
  refine ⟨Q[pre.length], List.getElem?_eq_getElem hkl, ?_⟩
  have h8 := congrArg (fun t => t[pre.length]?) i3
  simp [hkl] at h8
  exact h8.symm
end Go.Proofs.YtlghcboenkglnaaGreatDoor
