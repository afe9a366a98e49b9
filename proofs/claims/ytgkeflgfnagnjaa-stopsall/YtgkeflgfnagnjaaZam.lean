import Derived.Test.YtgkeflgfnagnjaaZaf
import Derived.Test.YtgkeflgfnagnjaaZah
/-
  The document's disk: its files in a row.
-/
namespace Go.Proofs.Ytgkeflgfnagnjaa
open Go.RowKit
set_option linter.unusedVariables false
set_option maxRecDepth 100000

/-- A file of the document's disk. -/
structure Rf where
  s : ByteArray
  bs : List UInt8
  la : Nat
  th : Bool
  nl : Bool
def Rf.cells (t : Rf) : List Value := [.string t.s, .string ⟨t.bs.toArray⟩, .int .i64 t.la, .bool t.th, .bool t.nl]
def rcells (l : List Rf) : List Value := (l.map Rf.cells).flatten
theorem rcells_len (l : List Rf) : (rcells l).length = l.length * 5 := by
  unfold rcells
  induction l with
  | nil => rfl
  | cons q t ih =>
    simp only [List.map_cons, List.flatten_cons, List.length_append, List.length_cons]
    rw [ih]
    simp [Rf.cells]
    omega
theorem rcells_get {l : List Rf} {j : Nat} {r : Rf} (h : l[j]? = some r) (i : Nat) (hi : i < 5) : (rcells l)[j * 5 + i]? = r.cells[i]? := by
  induction l generalizing j with
  | nil => simp at h
  | cons q t ih =>
    have hc : rcells (q :: t) = q.cells ++ rcells t := by simp [rcells]
    have hq : q.cells.length = 5 := rfl
    rw [hc]
    cases j with
    | zero =>
      simp at h
      subst h
      rw [List.getElem?_append_left (by omega)]
      simp
    | succ j =>
      have h2 := ih (j := j) (by simpa using h)
      rw [List.getElem?_append_right (by omega), hq, show (j + 1) * 5 + i - 5 = j * 5 + i by omega]
      exact h2
theorem rcells_one (l : List Rf) : ∀ u ∈ rcells l, u.oneCell' = true := by
  intro u hu
  unfold rcells at hu
  obtain ⟨l, hl, hm⟩ := List.mem_flatten.1 hu
  obtain ⟨r, _, rfl⟩ := List.mem_map.1 hl
  simp [Rf.cells] at hm
  rcases hm with rfl | rfl | rfl | rfl | rfl <;> rfl
theorem rcells_snoc (l : List Rf) (r : Rf) : rcells (l ++ [r]) = rcells l ++ r.cells := by simp [rcells]
/-- A row of the document's files. -/
structure Rr (w : World) (base : Nat) (ao : Option Addr) (n cap : Nat) (l : List Rf) : Prop where
  len : l.length = n
  row : w.ownsRow base 82 5 (.slice ao n cap) n (rcells l)
theorem Rr.nil (w : World) (base : Nat) : Rr w base none 0 0 [] := ⟨rfl, World.ownsRow_nil w base 82 5⟩
theorem Rr.kept {w w' : World} {base : Nat} {ao : Option Addr} {n cap : Nat} {l : List Rf} {row : Option Nat} (h : Rr w base ao n cap l) (hg : w.grownBy w' row) (hne : blk ao = none ∨ blk ao ≠ row) : Rr w' base ao n cap l :=
  ⟨h.len, h.row.kept hg (by rw [blk_own]; exact hne)⟩
theorem Rr.from_base {w : World} {base : Nat} {ao : Option Addr} {n cap : Nat} {l : List Rf} (h : Rr w base ao n cap l) : ∀ k, blk ao = some k → base ≤ k ∧ k < w.heap.size := by
  intro k hk
  exact h.row.lt k (by rw [blk_own]; exact hk)
theorem Rr.addr {w : World} {base : Nat} {ao : Option Addr} {n cap : Nat} {l : List Rf} (h : Rr w base ao n cap l) (hn : 0 < n) : ∃ g, ao = some ⟨g, 0, none⟩ ∧ base ≤ g ∧ g < w.heap.size := by
  rcases h.row.2 with ⟨hv, h0⟩ | ⟨g, c, cur, hv, hb, hg, _⟩
  · omega
  · cases hv
    exact ⟨g, rfl, hb, (Array.getElem?_eq_some_iff.1 hg).1⟩
theorem Rr.at {w : World} {base g n cap : Nat} {l : List Rf} (h : Rr w base (some ⟨g, 0, none⟩) n cap l) {j : Nat} {r : Rf} (hr : l[j]? = some r) (i : Nat) (hi : i < 5) : w.cell? ⟨g, j * 5 + i, none⟩ = r.cells[i]? := by
  have h1 := rcells_get hr i hi
  obtain ⟨u, hu⟩ : ∃ u, r.cells[i]? = some u := ⟨_, List.getElem?_eq_getElem (show i < r.cells.length from hi)⟩
  rw [hu] at h1 ⊢
  have h9 := h.row.cells (g := g) rfl _ _ h1
  rwa [Addr.add_lit, Nat.zero_add] at h9
theorem info101 : (Try.prog.info? 82).map (fun i => (i.zero, i.size, i.bytes)) = some (some (.agg #[.string ⟨#[]⟩, .string ⟨#[]⟩, .int .i64 0, .bool false, .bool false]), 5, 48) := by kernel_rfl
theorem append_rf (w : World) (base : Nat) (ro : Option Addr) (n rc : Nat) (l : List Rf) (h : Rr w base ro n rc l) (r : Rf) (s : Nat) (hc : ∀ i, i < 5 → w.cell? ⟨s, i, none⟩ = r.cells[i]?) (hn : n ≤ 100000) (hbase : base ≤ w.heap.size) :
    ∃ ro' rc' w', (Builtin.append_ #[72, 72] 72 #[.slice ro n rc, .slice (some ⟨s, 0, none⟩) 1 1]).run Try.prog w = .ok (.slice ro' (n + 1) rc') w' ∧ Rr w' base ro' (n + 1) rc' (l ++ [r]) ∧ w.grownBy w' (blk ro) := by
  obtain ⟨i, hi, hz, hzs, hz2⟩ := info_parts info101
  obtain ⟨v', w', hr, h2, h3, _⟩ := run_append_own (P := Try.prog) w base 72 72 82 i _ 5 48 Try.underlying72 hi hz hzs hz2 rfl (by decide) _ n _ h.row ⟨s, 0, none⟩ 1 1 r.cells rfl
    (fun j u hu => by
      rw [Addr.add_lit, Nat.zero_add, hc j (by have := (List.getElem?_eq_some_iff.1 hu).1; exact this)]
      exact hu) (fun u hu => rcells_one [r] u (by simpa [rcells] using hu)) (by unfold maxLen; omega) (by omega) hbase
  rw [← rcells_snoc] at h2
  rw [blk_own] at h3
  rcases h2.2 with ⟨hv, h0⟩ | ⟨g, c, cur, hv, _⟩
  · omega
  · subst hv
    exact ⟨_, _, w', hr, ⟨by simp [h.len], h2⟩, h3⟩
theorem Rr.own {A V : World} {base n c : Nat} {ao : Option Addr} {l : List Rf} {row : Option Nat} (h : Rr A base ao n c l) (hg : A.grownBy V row) (hr : ∀ r, row = some r → ¬ Ty A r 82) : Rr V base ao n c l := by
  refine h.kept hg ?_
  cases e : blk ao with
  | none => exact .inl rfl
  | some q =>
    refine .inr (fun e2 => ?_)
    rcases h.row.2 with ⟨h4, _⟩ | ⟨g, c, cs, h4, h5, h6, _⟩
    · cases h4; cases e
    · cases h4
      cases e
      exact hr g e2.symm ⟨_, _, h6⟩
theorem Rr.chg {A V : World} {base n c : Nat} {ao : Option Addr} {l : List Rf} {S : Nat → Prop} (h : Rr A base ao n c l) (hc : Chg A V S) (hS : ∀ q, blk ao = some q → ¬ S q) : Rr V base ao n c l := by
  refine ⟨h.len, h.row.1, ?_⟩
  rcases h.row.2 with h2 | ⟨g, c', cur, hv, hb, h6, h7⟩
  · exact .inl h2
  · cases hv
    exact .inr ⟨g, c, cur, rfl, hb, (hc.block g (Array.getElem?_eq_some_iff.1 h6).1 (hS g rfl)).trans h6, h7⟩
theorem Rr.ty {w : World} {base n c : Nat} {ao : Option Addr} {l : List Rf} (h : Rr w base ao n c l) : ∀ q, blk ao = some q → Ty w q 82 := by
  intro q hq
  rcases h.row.2 with ⟨h4, _⟩ | ⟨g, c, cs, h4, h5, h6, _⟩
  · cases h4; cases hq
  · cases h4
    cases hq
    exact ⟨_, _, h6⟩
theorem Rr.room {w : World} {base n c : Nat} {ao : Option Addr} {l : List Rf} (h : Rr w base ao n c l) : n ≤ c ∧ c ≤ maxLen := by
  rcases h.row.2 with ⟨h4, h5⟩ | ⟨g, cp, cur, hv, hbg, hg, h1, h2, _⟩
  · injection h4 with _ e2 e3; unfold maxLen; omega
  · injection hv with _ e2 e3; omega
/-- The document's disk at rb, whose memory is T: its files, fates, steps. -/
structure Rv (w : World) (T : Nat → Prop) (rb : Nat) (L : List Rf) (fs : List (Int × Int)) (st : Int) : Prop where
  ex : ∃ ao ac fo fn fc, w.heap[rb]? = some (.cells #[.slice ao L.length ac, .slice fo fn fc, .int .i64 st] 74) ∧ Rr w 0 ao L.length ac L ∧ Ft w fo fn fc fs ∧ (∀ a, fo = some a → T a.block ∧ Ty w a.block 138) ∧ ∀ q, blk ao = some q → T q
  tb : T rb
  lt : ∀ k, T k → k < w.heap.size
theorem Rv.chg {w w' : World} {T S : Nat → Prop} {rb : Nat} {L : List Rf} {fs : List (Int × Int)} {st : Int} (h : Rv w T rb L fs st) (hc : Chg w w' S) (hS : ∀ k, T k → ¬ S k) : Rv w' T rb L fs st := by
  obtain ⟨ao, ac, fo, fn, fc, h1, h2, h3, h4, h5⟩ := h.ex
  exact ⟨⟨ao, ac, fo, fn, fc, (hc.block rb (Array.getElem?_eq_some_iff.1 h1).1 (hS rb h.tb)).trans h1, h2.chg hc (fun q hq => hS q (h5 q hq)), h3.chg hc (fun a e => hS _ (h4 a e).1), fun a e => ⟨(h4 a e).1, (h4 a e).2.chg hc (hS _ (h4 a e).1)⟩, h5⟩, h.tb, fun k hk => Nat.lt_of_lt_of_le (h.lt k hk) hc.size⟩
theorem Rv.grown {w w' : World} {T : Nat → Prop} {rb : Nat} {L : List Rf} {fs : List (Int × Int)} {st : Int} (h : Rv w T rb L fs st) (hg : w.grownBy w' none) : Rv w' T rb L fs st := h.chg (Chg.of_grown hg (fun _ => False)) (fun k _ e => e)
/-- What a call on the document's disk leaves. -/
def Rn (w w' : World) (T : Nat → Prop) (rb : Nat) (L : List Rf) (fs : List (Int × Int)) (st : Int) : Prop :=
  (∃ T', Rv w' T' rb L fs st ∧ ∀ k, T' k → T k ∨ w.heap.size ≤ k) ∧ Chg w w' T
end Go.Proofs.Ytgkeflgfnagnjaa

/-
  The document's Named.
-/
namespace Go.Proofs.Ytgkeflgfnagnjaa
open Go.RowKit
set_option linter.unusedVariables false
set_option maxRecDepth 100000

set_option maxRecDepth 100000 in
set_option maxHeartbeats 2000000 in
theorem named_any (w : World) (s : ByteArray) : Calls Try.prog 70 #[.string s] w fun e w' => e = .returned (.bool (nameB s)) ∧ w' = w := by
  by_cases h1 : s.size < 1
  · have d1 : decide ((s.size : Int) < 1) = true := by simp; omega
    have hn : nameB s = false := by unfold nameB; simp; omega
    go_enter Try.func70, Try.ntmps70
    go_wp2
    go_ret
    exact ⟨congrArg (fun b => Ending.returned (.bool b)) hn.symm, rfl⟩
  · have d1 : decide ((s.size : Int) < 1) = false := by simp; omega
    by_cases h2 : 32 < s.size
    · have d2 : decide ((32 : Int) < (s.size : Int)) = true := by simp; omega
      have hn : nameB s = false := by unfold nameB; simp; omega
      go_enter Try.func70, Try.ntmps70
      go_wp2
      go_ret
      exact ⟨congrArg (fun b => Ending.returned (.bool b)) hn.symm, rfl⟩
    · have d2 : decide ((32 : Int) < (s.size : Int)) = false := by simp; omega
      go_enter Try.func70, Try.ntmps70
      go_wp2
      go_loop [3] (fun i' => ∃ i : Nat, i ≤ s.size ∧ i' = .int .i64 i ∧ Hid ((s.data.toList.take i).all okc = true)) (fun i' => s.size - (intOf i').toNat)
      case atStart => exact ⟨0, Nat.zero_le _, rfl, (rfl : _ = _)⟩
      case round =>
        obtain ⟨i, hi, rfl, hA⟩ := hrel
        by_cases hlt : i < s.size
        · have hd : decide ((i : Int) < (s.size : Int)) = true := by simp; omega
          have hi1 : (0 : Int) ≤ (i : Int) := by omega
          have hi2 : (i : Int) < (s.size : Int) := by omega
          have hgood : okc s[i] = true → Hid ((s.data.toList.take (i + 1)).all okc = true) := fun h => by
            show _ = _
            rw [ba_take s i hlt, List.all_append, hA.out]
            simp [h]
          have hbad : okc s[i] = false → nameB s = false := fun h => by
            unfold nameB
            have : s.data.toList.all okc = false := by
              rw [List.all_eq_false]
              exact ⟨s[i], ba_mem s i hlt, by simp [h]⟩
            rw [this]; simp
          obtain ⟨x, hx⟩ : ∃ x, s[i].toNat = x := ⟨_, rfl⟩
          rcases (by omega : (x < 45) ∨ (x = 45) ∨ (x = 46) ∨ (x = 47) ∨ (48 ≤ x ∧ x ≤ 57) ∨ (58 ≤ x ∧ x ≤ 96) ∨ (97 ≤ x ∧ x ≤ 122) ∨ (122 < x)) with hc | hc | hc | hc | hc | hc | hc | hc
          · have d1 : decide ((97 : Int) ≤ (s[i].toNat : Int)) = false := by simp; omega
            have d2 : decide ((s[i].toNat : Int) ≤ 122) = true := by simp; omega
            have d3 : decide ((48 : Int) ≤ (s[i].toNat : Int)) = false := by simp; omega
            have d4 : decide ((s[i].toNat : Int) ≤ 57) = true := by simp; omega
            have d5 : ((s[i].toNat : Int) == 46) = false := by simp; omega
            have d6 : ((s[i].toNat : Int) == 45) = false := by simp; omega
            replace hbad := hbad (by unfold okc; simp; omega)
            clear hgood hx
            go_wp2
            go_ret
            exact ⟨rfl, rfl⟩
          · have d1 : decide ((97 : Int) ≤ (s[i].toNat : Int)) = false := by simp; omega
            have d2 : decide ((s[i].toNat : Int) ≤ 122) = true := by simp; omega
            have d3 : decide ((48 : Int) ≤ (s[i].toNat : Int)) = false := by simp; omega
            have d4 : decide ((s[i].toNat : Int) ≤ 57) = true := by simp; omega
            have d5 : ((s[i].toNat : Int) == 46) = false := by simp; omega
            have d6 : ((s[i].toNat : Int) == 45) = true := by simp; omega
            replace hgood := hgood (by unfold okc; simp; omega)
            clear hbad hx
            go_wp2
            go_round
            case rel => exact ⟨i + 1, by omega, by go_num, hgood⟩
            case measure => simp [intOf]; omega
          · have d1 : decide ((97 : Int) ≤ (s[i].toNat : Int)) = false := by simp; omega
            have d2 : decide ((s[i].toNat : Int) ≤ 122) = true := by simp; omega
            have d3 : decide ((48 : Int) ≤ (s[i].toNat : Int)) = false := by simp; omega
            have d4 : decide ((s[i].toNat : Int) ≤ 57) = true := by simp; omega
            have d5 : ((s[i].toNat : Int) == 46) = true := by simp; omega
            have d6 : ((s[i].toNat : Int) == 45) = false := by simp; omega
            replace hgood := hgood (by unfold okc; simp; omega)
            clear hbad hx
            go_wp2
            go_round
            case rel => exact ⟨i + 1, by omega, by go_num, hgood⟩
            case measure => simp [intOf]; omega
          · have d1 : decide ((97 : Int) ≤ (s[i].toNat : Int)) = false := by simp; omega
            have d2 : decide ((s[i].toNat : Int) ≤ 122) = true := by simp; omega
            have d3 : decide ((48 : Int) ≤ (s[i].toNat : Int)) = false := by simp; omega
            have d4 : decide ((s[i].toNat : Int) ≤ 57) = true := by simp; omega
            have d5 : ((s[i].toNat : Int) == 46) = false := by simp; omega
            have d6 : ((s[i].toNat : Int) == 45) = false := by simp; omega
            replace hbad := hbad (by unfold okc; simp; omega)
            clear hgood hx
            go_wp2
            go_ret
            exact ⟨rfl, rfl⟩
          · have d1 : decide ((97 : Int) ≤ (s[i].toNat : Int)) = false := by simp; omega
            have d2 : decide ((s[i].toNat : Int) ≤ 122) = true := by simp; omega
            have d3 : decide ((48 : Int) ≤ (s[i].toNat : Int)) = true := by simp; omega
            have d4 : decide ((s[i].toNat : Int) ≤ 57) = true := by simp; omega
            have d5 : ((s[i].toNat : Int) == 46) = false := by simp; omega
            have d6 : ((s[i].toNat : Int) == 45) = false := by simp; omega
            replace hgood := hgood (by unfold okc; simp; omega)
            clear hbad hx
            go_wp2
            go_round
            case rel => exact ⟨i + 1, by omega, by go_num, hgood⟩
            case measure => simp [intOf]; omega
          · have d1 : decide ((97 : Int) ≤ (s[i].toNat : Int)) = false := by simp; omega
            have d2 : decide ((s[i].toNat : Int) ≤ 122) = true := by simp; omega
            have d3 : decide ((48 : Int) ≤ (s[i].toNat : Int)) = true := by simp; omega
            have d4 : decide ((s[i].toNat : Int) ≤ 57) = false := by simp; omega
            have d5 : ((s[i].toNat : Int) == 46) = false := by simp; omega
            have d6 : ((s[i].toNat : Int) == 45) = false := by simp; omega
            replace hbad := hbad (by unfold okc; simp; omega)
            clear hgood hx
            go_wp2
            go_ret
            exact ⟨rfl, rfl⟩
          · have d1 : decide ((97 : Int) ≤ (s[i].toNat : Int)) = true := by simp; omega
            have d2 : decide ((s[i].toNat : Int) ≤ 122) = true := by simp; omega
            have d3 : decide ((48 : Int) ≤ (s[i].toNat : Int)) = true := by simp; omega
            have d4 : decide ((s[i].toNat : Int) ≤ 57) = false := by simp; omega
            have d5 : ((s[i].toNat : Int) == 46) = false := by simp; omega
            have d6 : ((s[i].toNat : Int) == 45) = false := by simp; omega
            replace hgood := hgood (by unfold okc; simp; omega)
            clear hbad hx
            go_wp2
            go_round
            case rel => exact ⟨i + 1, by omega, by go_num, hgood⟩
            case measure => simp [intOf]; omega
          · have d1 : decide ((97 : Int) ≤ (s[i].toNat : Int)) = true := by simp; omega
            have d2 : decide ((s[i].toNat : Int) ≤ 122) = false := by simp; omega
            have d3 : decide ((48 : Int) ≤ (s[i].toNat : Int)) = true := by simp; omega
            have d4 : decide ((s[i].toNat : Int) ≤ 57) = false := by simp; omega
            have d5 : ((s[i].toNat : Int) == 46) = false := by simp; omega
            have d6 : ((s[i].toNat : Int) == 45) = false := by simp; omega
            replace hbad := hbad (by unfold okc; simp; omega)
            clear hgood hx
            go_wp2
            go_ret
            exact ⟨rfl, rfl⟩
        · have hd : decide ((i : Int) < (s.size : Int)) = false := by simp; omega
          have hn : nameB s = true := by
            have := hA.out
            rw [List.take_of_length_le (by have : s.data.toList.length = s.size := Array.length_toList; omega)] at this
            unfold nameB
            rw [this]; simp; omega
          go_wp2
          go_ret
          exact ⟨rfl, rfl⟩
end Go.Proofs.Ytgkeflgfnagnjaa

/-
  The document's At, find, step.
-/
namespace Go.Proofs.Ytgkeflgfnagnjaa
open Go.RowKit
set_option linter.unusedVariables false
set_option maxRecDepth 100000

theorem str_beq (a b : ByteArray) : (a.toList == b.toList) = decide (a = b) := by
  rw [ByteArray.toList_eq, ByteArray.toList_eq]
  by_cases e : a = b
  · subst e; simp
  · rw [decide_eq_false e]
    cases hq : (a.data.toList == b.data.toList) with
    | false => rfl
    | true =>
      exfalso
      apply e
      have h9 : a.data.toList = b.data.toList := by simpa using hq
      cases a; cases b
      simp only [ByteArray.mk.injEq]
      exact Array.toList_inj.1 h9
/-- The place of a name. -/
def atN (L : List Rf) (s : ByteArray) : Option Nat := L.findIdx? (fun f => decide (f.s = s))
def atI (L : List Rf) (s : ByteArray) : Int := match atN L s with | some i => (i : Int) | none => -1
theorem atN_some {L : List Rf} {s : ByteArray} {i : Nat} (h : atN L s = some i) : ∃ f, L[i]? = some f ∧ f.s = s := by
  obtain ⟨hi, h1, _⟩ := List.findIdx?_eq_some_iff_getElem.1 h
  exact ⟨L[i], by simp [hi], by simpa using h1⟩
theorem atN_lt {L : List Rf} {s : ByteArray} {i : Nat} (h : atN L s = some i) : i < L.length := (List.findIdx?_eq_some_iff_getElem.1 h).1
section
variable {w w' : World} {T : Nat → Prop} {rb : Nat} {L : List Rf} {fs : List (Int × Int)} {st : Int}

/-- The record, as cells. -/
theorem Rv.cells (h : Rv w T rb L fs st) : ∃ ao ac fo fn fc, w.cell? ⟨rb, 0, none⟩ = some (.slice ao L.length ac) ∧ w.cell? ⟨rb, 1, none⟩ = some (.slice fo fn fc) ∧ w.cell? ⟨rb, 2, none⟩ = some (.int .i64 st) ∧ (∀ i, w.frozen? ⟨rb, i, none⟩ = false) ∧ Rr w 0 ao L.length ac L ∧ Ft w fo fn fc fs := by
  obtain ⟨ao, ac, fo, fn, fc, h1, h2, h3, _⟩ := h.ex
  exact ⟨ao, ac, fo, fn, fc, by rw [cell_at h1]; rfl, by rw [cell_at h1]; rfl, by rw [cell_at h1]; rfl, fun i => by unfold World.frozen?; rw [h1]; simp, h2, h3⟩
set_option maxRecDepth 100000 in
set_option maxHeartbeats 1000000 in
theorem at_r (h : Rv w T rb L fs st) (hl : L.length ≤ 100000) (s : ByteArray) : Calls Try.prog 71 #[.pointer (some ⟨rb, 0, none⟩), .string s] w fun e w' => e = .returned (.int .i64 (atI L s)) ∧ w' = w := by
  obtain ⟨ao, ac, fo, fn, fc, c0, _, _, _, hr, _⟩ := h.cells
  have hrm := hr.room
  unfold maxLen at hrm
  obtain ⟨hrm1, hrm2⟩ := hrm
  have HR : Hid _ := hr
  clear hr h
  go_enter Try.func71, Try.ntmps71
  go_wp2_with fail
  go_loopw [5] (fun i' wr => ∃ i : Nat, i' = .int .i64 i ∧ i ≤ L.length ∧ wr = w ∧ Hid (∀ f ∈ L.take i, f.s ≠ s)) (fun i' _ => L.length - (intOf i').toNat)
  case atStart => exact ⟨0, rfl, Nat.zero_le _, rfl, (show ∀ f ∈ L.take 0, f.s ≠ s by simp)⟩
  case round =>
    obtain ⟨i, rfl, hi, rfl, hno⟩ := hrel
    by_cases hlt : i < L.length
    · have dl : decide ((i : Int) < (L.length : Int)) = true := by simp; omega
      have dl2 : decide (i < L.length) = true := by simpa using hlt
      obtain ⟨f, hf⟩ : ∃ f, L[i]? = some f := ⟨_, List.getElem?_eq_getElem hlt⟩
      obtain ⟨g, rfl, _, _⟩ := HR.out.addr (by omega)
      have q0 := HR.out.at hf 0 (by decide)
      simp only [Rf.cells, List.getElem?_cons_zero, Nat.add_zero] at q0
      have i1 : (0 : Int) ≤ (i : Int) := by omega
      have i2 : (i : Int) < (L.length : Int) := by omega
      have wz : IntKind.i64.wrap ((i : Int) + 1) = ((i + 1 : Nat) : Int) := by rw [IntWalk.i64_in _ (by omega)]; push_cast; rfl
      have hbe := str_beq f.s s
      by_cases e : f.s = s
      · rw [decide_eq_true e] at hbe
        have hat : Hid (atI L s = (i : Int)) := (by
          show atI L s = _
          have : atN L s = some i := by
            refine List.findIdx?_eq_some_iff_getElem.2 ⟨hlt, ?_, fun j hj => ?_⟩
            · have : L[i] = f := by have := hf; rw [List.getElem?_eq_getElem hlt] at this; simpa using this
              rw [this]; simpa using e
            · have hm : L[j]'(by omega) ∈ L.take i := by
                rw [List.mem_take_iff_getElem]
                exact ⟨j, by omega, rfl⟩
              have := hno.out _ hm
              simpa using this
          unfold atI
          rw [this])
        clear e hf
        go_wp2
        go_ret
        exact ⟨by rw [hat.out]; rfl, rfl⟩
      · rw [decide_eq_false e] at hbe
        have hno2 : Hid (∀ f ∈ L.take (i + 1), f.s ≠ s) := (by
          show ∀ f ∈ L.take (i + 1), f.s ≠ s
          intro g hg
          rw [List.take_add_one, hf] at hg
          rcases List.mem_append.1 hg with hg | hg
          · exact hno.out g hg
          · have : g = f := by simpa using hg
            rw [this]; exact e)
        clear e hf hno
        go_wp2
        go_roundw
        case rel => exact ⟨i + 1, by first | rfl | simp, by omega, by first | trivial | rfl, hno2⟩
        case measure => simp [intOf]; omega
    · obtain rfl : i = L.length := by omega
      have dl : decide ((L.length : Int) < (L.length : Int)) = false := by simp
      have hat : Hid (atI L s = -1) := (by
        show atI L s = _
        have h1 := hno.out
        rw [List.take_of_length_le (Nat.le_refl _)] at h1
        have : atN L s = none := List.findIdx?_eq_none_iff.2 (fun f hf => by simpa using h1 f hf)
        unfold atI
        rw [this])
      clear hno
      go_wp2
      go_ret
      exact ⟨by rw [hat.out]; rfl, rfl⟩
/-- What find answers. -/
def findR (L : List Rf) (s : ByteArray) : Int × Int :=
  if nameB s = false then (0, 2) else match atN L s with | none => (0, 171) | some i => if (L[i]?.map (·.th)) = some true then ((i : Int), 0) else (0, 171)
set_option maxRecDepth 100000 in
theorem find_r (h : Rv w T rb L fs st) (hl : L.length ≤ 100000) (s : ByteArray) : Calls Try.prog 73 #[.pointer (some ⟨rb, 0, none⟩), .string s] w fun e w' => e = .returned (.tuple #[.int .i64 (findR L s).1, .int .i64 (findR L s).2]) ∧ w' = w := by
  have hnm := named_any w s
  have hat := at_r h hl s
  obtain ⟨ao, ac, fo, fn, fc, c0, _, _, _, hr, _⟩ := h.cells
  have hrm := hr.room
  unfold maxLen at hrm
  obtain ⟨hrm1, hrm2⟩ := hrm
  clear h
  cases hn : nameB s with
  | false =>
    rw [hn] at hnm
    have hF : findR L s = (0, 2) := by unfold findR; rw [if_pos hn]
    rw [hF]
    clear hr hat
    go_enter Try.func73, Try.ntmps73
    go_wp2_with fail
    refine hnm.mono ?_
    rintro e w1 ⟨rfl, rfl⟩
    go_wp2
    go_ret2
    exact ⟨rfl, rfl⟩
  | true =>
    rw [hn] at hnm
    cases ha : atN L s with
    | none =>
      have hI : atI L s = -1 := by unfold atI; rw [ha]
      rw [hI] at hat
      have hF : findR L s = (0, 171) := by unfold findR; rw [if_neg (by simp [hn]), ha]
      rw [hF]
      clear hr
      go_enter Try.func73, Try.ntmps73
      go_wp2_with fail
      refine hnm.mono ?_
      rintro e w1 ⟨rfl, rfl⟩
      go_wp2_with fail
      refine hat.mono ?_
      rintro e w1 ⟨rfl, rfl⟩
      go_wp2
      go_ret2
      exact ⟨rfl, rfl⟩
    | some i =>
      obtain ⟨f, hf, hfs⟩ := atN_some ha
      have hlt := atN_lt ha
      have hI : atI L s = (i : Int) := by unfold atI; rw [ha]
      rw [hI] at hat
      obtain ⟨g, rfl, _, _⟩ := hr.addr (by omega)
      have q3 := hr.at hf 3 (by decide)
      simp only [Rf.cells, List.getElem?_cons_zero, List.getElem?_cons_succ] at q3
      have i1 : (0 : Int) ≤ (i : Int) := by omega
      have i2 : (i : Int) < (L.length : Int) := by omega
      have dn : decide ((i : Int) < 0) = false := by simp
      cases ht : f.th with
      | false =>
        have hF : findR L s = (0, 171) := by unfold findR; rw [if_neg (by simp [hn]), ha]; simp [hf, ht]
        rw [hF]
        rw [ht] at q3
        clear hr hf
        go_enter Try.func73, Try.ntmps73
        go_wp2_with fail
        refine hnm.mono ?_
        rintro e w1 ⟨rfl, rfl⟩
        go_wp2_with fail
        refine hat.mono ?_
        rintro e w1 ⟨rfl, rfl⟩
        go_wp2
        go_ret2
        exact ⟨rfl, rfl⟩
      | true =>
        have hF : findR L s = ((i : Int), 0) := by unfold findR; rw [if_neg (by simp [hn]), ha]; simp [hf, ht]
        rw [hF]
        rw [ht] at q3
        clear hr hf
        go_enter Try.func73, Try.ntmps73
        go_wp2_with fail
        refine hnm.mono ?_
        rintro e w1 ⟨rfl, rfl⟩
        go_wp2_with fail
        refine hat.mono ?_
        rintro e w1 ⟨rfl, rfl⟩
        go_wp2
        go_ret2
        exact ⟨rfl, rfl⟩
/-- What a step answers: its error, and Keep. -/
def stepC : List (Int × Int) → Int × Int
  | [] => (0, 0)
  | x :: _ => if x.1 = 1 then (5, max 0 x.2) else if x.1 = 2 then (6, max 0 x.2) else (0, 0)
theorem stepC_code (fs : List (Int × Int)) (z : Int) : (stepC fs).1 = (stepR fs z).2 := by
  cases fs with
  | nil => rfl
  | cons x l =>
    by_cases h1 : x.1 = 1
    · simp [stepC, stepR, h1]
    · by_cases h2 : x.1 = 2
      · simp [stepC, stepR, h2]
      · simp [stepC, stepR, h1, h2]
theorem stepC_keep (fs : List (Int × Int)) (z : Int) (h : (stepC fs).1 ≠ 0) : (stepR fs z).1 = min (stepC fs).2 z := by
  cases fs with
  | nil => exact absurd rfl h
  | cons x l =>
    by_cases h1 : x.1 = 1
    · simp [stepC, stepR, h1]; omega
    · by_cases h2 : x.1 = 2
      · simp [stepC, stepR, h2]; omega
      · simp [stepC, h1, h2] at h
theorem stepC_good (fs : List (Int × Int)) (z : Int) (h : (stepC fs).1 = 0) : (stepR fs z).1 = z := by
  cases fs with
  | nil => rfl
  | cons x l =>
    by_cases h1 : x.1 = 1
    · simp [stepC, h1] at h
    · by_cases h2 : x.1 = 2
      · simp [stepC, h2] at h
      · simp [stepR, h1, h2]
theorem Rv.stepped {ao : Option Addr} {ac : Nat} {fo : Option Addr} {fn fc : Nat} (h : Rv w T rb L fs st) (h1 : w.heap[rb]? = some (.cells #[.slice ao L.length ac, .slice fo fn fc, .int .i64 st] 74)) (h2 : Rr w 0 ao L.length ac L) (h5 : ∀ q, blk ao = some q → T q) {W : World} {fo' : Option Addr} {fn' fc' : Nat} {fs' : List (Int × Int)} {st' : Int} (hW : W.heap[rb]? = some (.cells #[.slice ao L.length ac, .slice fo' fn' fc', .int .i64 st'] 74)) (hc : Chg w W (fun k => k = rb)) (hf : Ft W fo' fn' fc' fs') (ha : ∀ a, fo' = some a → T a.block ∧ Ty W a.block 138) : Rv W T rb L fs' st' ∧ Chg w W T := by
  have ht : Ty w rb 74 := ⟨_, _, h1⟩
  exact ⟨⟨⟨ao, ac, fo', fn', fc', hW, h2.chg hc (fun q hq e => (h2.ty q hq).ne ht (by decide) e), hf, ha, h5⟩, h.tb, fun k hk => Nat.lt_of_lt_of_le (h.lt k hk) hc.size⟩, hc.mono (fun k _ e => e ▸ h.tb)⟩
set_option maxRecDepth 100000 in
set_option maxHeartbeats 2000000 in
theorem step_r (h : Rv w T rb L fs st) (h0 : 0 ≤ st) (h1 : st < 4611686018427387904) : Calls Try.prog 72 #[.pointer (some ⟨rb, 0, none⟩)] w fun e w' => e = .returned (.tuple #[.int .i64 (stepC fs).1, .int .i64 (stepC fs).2]) ∧ Rv w' T rb L fs.tail (st + 1) ∧ Chg w w' T := by
  obtain ⟨ao, ac, fo, fn, fc, hh, hr, hf, ha, h5⟩ := h.ex
  have c1 : w.cell? ⟨rb, 1, none⟩ = some (.slice fo fn fc) := by rw [cell_at hh]; rfl
  have c2 : w.cell? ⟨rb, 2, none⟩ = some (.int .i64 st) := by rw [cell_at hh]; rfl
  have fz : ∀ i, w.frozen? ⟨rb, i, none⟩ = false := fun i => by unfold World.frozen?; rw [hh]; simp
  have f1 := fz 1
  have f2 := fz 2
  have hbl := (Array.getElem?_eq_some_iff.1 hh).1
  have n1 : ¬ rb = w.heap.size := by omega
  have n2 : ¬ w.heap.size = rb := by omega
  have hty : Ty w rb 74 := ⟨_, _, hh⟩
  have k1 := heap_set hh 2 (.int .i64 (st + 1))
  have hC1 := setCell_chg w rb 2 (.int .i64 (st + 1))
  have hrm := hf.room
  have htp := hf.top
  unfold maxLen at htp
  cases fs with
  | nil =>
    obtain rfl : fn = 0 := hf.len.symm
    have hfin := Rv.stepped h hh hr h5 (by simpa using k1) hC1 (hf.chg hC1 (fun a e k => (ha a e).2.ne hty (by decide) k)) (fun a e => ⟨(ha a e).1, (ha a e).2.chg hC1 (fun k => (ha a e).2.ne hty (by decide) k)⟩)
    have F : Hid _ := hfin
    clear hfin h hf ha hr hC1 k1 hh
    go_enter Try.func72, Try.ntmps72
    go_wp2
    go_ret2
    exact ⟨rfl, F.out⟩
  | cons x l =>
    obtain ⟨xk, xp⟩ := x
    have hl := hf.len
    obtain ⟨fn, rfl⟩ : ∃ k, fn = k + 1 := ⟨l.length, by simpa using hl.symm⟩
    obtain ⟨fc, rfl⟩ : ∃ k, fc = k + 1 := ⟨fc - 1, by omega⟩
    cases fo with
    | none => exact absurd (hf.nil rfl) (by simp)
    | some a =>
      obtain ⟨fb, fi, rfl⟩ := hf.pl a rfl
      obtain ⟨q0, q1⟩ := hf.k fb fi rfl 0 (xk, xp) rfl
      simp only [Nat.zero_mul, Nat.add_zero] at q0 q1
      obtain ⟨ta, tt⟩ := ha _ rfl
      have hfr : ¬ fb = rb := tt.ne hty (by decide)
      have d0 : (((fn : Int) + 1) == 0) = false := by simp; omega
      have fin : ∀ fi', (fc ≠ 0 → fi' = fi + 2) → ∀ W, (((w.setCell ⟨rb, 2, none⟩ (.int .i64 (st + 1))).setCell ⟨rb, 1, none⟩ (.slice (some ⟨fb, fi', none⟩) fn fc)).alloc (.cells #[.int .i64 xk, .int .i64 xp] 138)).grownBy W none → Rv W T rb L l (st + 1) ∧ Chg w W T := by
        intro fi' hfi W hW
        have hC := (((hC1.trans (setCell_chg _ rb 1 (.slice (some ⟨fb, fi', none⟩) fn fc))).trans (Chg.of_grown (alloc_grown _ (.cells #[.int .i64 xk, .int .i64 xp] 138)) _)).trans (Chg.of_grown hW _))
        have k2 := heap_kept hW (heap_kept (alloc_grown _ (.cells #[.int .i64 xk, .int .i64 xp] 138)) (heap_set k1 1 (.slice (some ⟨fb, fi', none⟩) fn fc)) (by simp)) (by simp)
        have hf' := hf.chg hC (fun a e => by cases e; exact hfr)
        refine Rv.stepped h hh hr h5 (by simpa using k2) hC ⟨by simpa using hl, by omega, by have := hf.top; omega, fun a e => by cases e; exact ⟨_, _, rfl⟩, (fun e => by cases e), fun b' i' e j x hx => ?_⟩ (fun a e => by cases e; exact ⟨ta, tt.chg hC hfr⟩)
        cases e
        have hj : j < l.length := (List.getElem?_eq_some_iff.1 hx).1
        have hlen : l.length = fn := by simpa using hl
        have := hf'.k fb fi rfl (j + 1) x (by simpa using hx)
        rw [hfi (by omega)]
        have e1 : fi + (j + 1) * 2 = fi + 2 + j * 2 := by omega
        rwa [e1] at this
      have F : Hid _ := fin
      clear fin hf h ha hr hC1 k1 hh tt
      by_cases hfc : fc = 0
      · subst hfc
        obtain rfl : fn = 0 := by omega
        by_cases hx1 : xk = 1
        · subst hx1
          go_enter Try.func72, Try.ntmps72
          go_wp2_with fail
          go_region
          all_goals
            go_wp2
            go_ret2
            exact ⟨by simp [stepC], F.out _ (by simp) _ (by first | exact grown_refl _ _ | exact grown_drew _ none)⟩
        · by_cases hx2 : xk = 2
          · subst hx2
            go_enter Try.func72, Try.ntmps72
            go_wp2_with fail
            go_region
            all_goals
              go_wp2
              go_ret2
              exact ⟨by simp [stepC], F.out _ (by simp) _ (by first | exact grown_refl _ _ | exact grown_drew _ none)⟩
          · have e1 : (xk == 1) = false := by simpa using hx1
            have e2 : (xk == 2) = false := by simpa using hx2
            go_enter Try.func72, Try.ntmps72
            go_wp2
            go_ret2
            exact ⟨by simp [stepC, hx1, hx2], F.out _ (by simp) _ (grown_refl _ _)⟩
      · have g1 : 0 < fc := by omega
        by_cases hx1 : xk = 1
        · subst hx1
          go_enter Try.func72, Try.ntmps72
          go_wp2_with fail
          go_region
          all_goals
            go_wp2
            go_ret2
            exact ⟨by simp [stepC], F.out _ (fun _ => rfl) _ (by first | exact grown_refl _ _ | exact grown_drew _ none)⟩
        · by_cases hx2 : xk = 2
          · subst hx2
            go_enter Try.func72, Try.ntmps72
            go_wp2_with fail
            go_region
            all_goals
              go_wp2
              go_ret2
              exact ⟨by simp [stepC], F.out _ (fun _ => rfl) _ (by first | exact grown_refl _ _ | exact grown_drew _ none)⟩
          · have e1 : (xk == 1) = false := by simpa using hx1
            have e2 : (xk == 2) = false := by simpa using hx2
            go_enter Try.func72, Try.ntmps72
            go_wp2
            go_ret2
            exact ⟨by simp [stepC, hx1, hx2], F.out _ (fun _ => rfl) _ (grown_refl _ _)⟩
end
end Go.Proofs.Ytgkeflgfnagnjaa
