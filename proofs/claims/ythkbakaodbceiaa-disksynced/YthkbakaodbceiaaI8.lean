/-
  A script; vast.
-/
import Derived.Test.YthkbakaodbceiaaI7
namespace Go.Proofs.Ythkbakaodbceiaa
open Go.RowKit Go.Maps Go.WideMaps
set_option linter.unusedVariables false

/-- One call of a script. -/
structure Sx where
  kd : Int
  pl : Int
  nn : Int
  nm : ByteArray
  bo : Option Addr
  bn : Nat
  bc : Nat
  fo : Option Addr
  fn : Nat
  fc : Nat
  po : Option Addr
  pn : Nat
  pc : Nat

/-- The cells of one call. -/
structure Sc (w : World) (b i : Nat) (x : Sx) : Prop where
  c0 : w.cell? ⟨b, i, none⟩ = some (.int .i64 x.kd)
  c1 : w.cell? ⟨b, i + 1, none⟩ = some (.int .i64 x.pl)
  c2 : w.cell? ⟨b, i + 2, none⟩ = some (.int .i64 x.nn)
  c3 : w.cell? ⟨b, i + 3, none⟩ = some (.string x.nm)
  c4 : w.cell? ⟨b, i + 4, none⟩ = some (.slice x.bo x.bn x.bc)
  c5 : w.cell? ⟨b, i + 5, none⟩ = some (.slice x.fo x.fn x.fc)
  c6 : w.cell? ⟨b, i + 6, none⟩ = some (.slice x.po x.pn x.pc)

/-- A script: its calls, and the bytes that they bear. -/
structure Sl (w : World) (o : Option Addr) (n c : Nat) (l : List Sx) : Prop where
  len : l.length = n
  room : n ≤ c
  top : c ≤ maxLen
  pl : ∀ a, o = some a → ∃ b i, a = ⟨b, i, none⟩
  nil : o = none → c = 0
  k : ∀ b i, o = some ⟨b, i, none⟩ → ∀ j x, l[j]? = some x → Sc w b (i + j * 7) x
  bs : ∀ x ∈ l, ∃ t, Bs w x.bo x.bn x.bc t

theorem Sl.bp {w : World} {o : Option Addr} {n c : Nat} {l : List Sx} (h : Sl w o n c l) : ∀ x ∈ l, ∀ a, x.bo = some a → x.bn = 0 ∨ a.block < w.heap.size := by
  intro x hx a ha
  obtain ⟨t, ht⟩ := h.bs x hx
  rcases Nat.eq_zero_or_pos x.bn with h0 | h0
  · exact .inl h0
  · obtain ⟨b, i, e, hlt⟩ := ht.addr h0
    rw [ha] at e
    cases e
    exact .inr hlt

/-- Is a script too long? -/
def xv (x : Sx) : Bool := decide (3000 < x.bn) || (decide (100 < x.fn) || decide (300 < x.pn))
def vR (l : List Sx) : Bool := decide (300 < l.length) || l.any xv

theorem Sc.grown {w w' : World} {b i : Nat} {x : Sx} (h : Sc w b i x) (hg : w.grownBy w' none) : Sc w' b i x :=
  ⟨hg.cell h.c0 (by simp), hg.cell h.c1 (by simp), hg.cell h.c2 (by simp), hg.cell h.c3 (by simp), hg.cell h.c4 (by simp), hg.cell h.c5 (by simp), hg.cell h.c6 (by simp)⟩

set_option maxRecDepth 100000 in
set_option maxHeartbeats 4000000 in
theorem vast_any {w : World} {o : Option Addr} {n c : Nat} {l : List Sx} (hS : Sl w o n c l) : Calls Try.prog 8 #[.slice o n c] w fun e w' => e = .returned (.bool (vR l)) ∧ w.grownBy w' none := by
  have hlen := hS.len
  have hroom := hS.room
  have htop := hS.top
  unfold maxLen at htop
  by_cases hbig : 300 < n
  · have d1 : decide ((300 : Int) < (n : Int)) = true := by simp; omega
    have d2 : decide (300 < n) = true := by simpa using hbig
    have hv : Hid (vR l = true) := (show vR l = true by unfold vR; rw [hlen]; simp [hbig])
    go_enter Try.func8, Try.ntmps8
    go_wp2
    go_ret
    exact ⟨ret_bool hv.out.symm, grown_refl _ _⟩
  · have d1 : decide ((300 : Int) < (n : Int)) = false := by simp; omega
    have d2 : decide (300 < n) = false := by simpa using hbig
    go_enter Try.func8, Try.ntmps8
    go_wp2_with fail
    go_loopw [3] (fun i' wr => ∃ i : Nat, i' = .int .i64 i ∧ i ≤ n ∧ wr = w ∧ Hid ((l.take i).any xv = false)) (fun i _ => n - (intOf i).toNat)
    case atStart => exact ⟨0, rfl, Nat.zero_le _, rfl, (show (l.take 0).any xv = false by simp)⟩
    case round =>
      obtain ⟨i, rfl, hin, rfl, hfi⟩ := hrel
      by_cases hlt : i < n
      · have dl : decide ((i : Int) < (n : Int)) = true := by simp; omega
        have dl2 : decide (i < n) = true := by simpa using hlt
        cases o with
        | none => exfalso; have := hS.nil rfl; omega
        | some a =>
          obtain ⟨ob, oi, rfl⟩ := hS.pl a rfl
          have hil : i < l.length := by omega
          have hc := hS.k ob oi rfl i l[i] (by simp [hil])
          have htk : l.take (i + 1) = l.take i ++ [l[i]] := by rw [List.take_add_one, List.getElem?_eq_getElem hil]; rfl
          have hmem : l[i] ∈ l := List.getElem_mem hil
          have HT : Hid ((l.take (i + 1)).any xv = xv l[i]) := (by show (l.take (i + 1)).any xv = _; rw [htk]; have := hfi.out; rw [List.any_append, this]; simp)
          have HB : Hid (xv l[i] = true → vR l = true) := (fun e => by
            unfold vR
            rw [List.any_eq_true.2 ⟨_, hmem, e⟩]
            simp)
          clear htk hmem
          generalize l[i] = x at *
          have c4 := hc.c4
          have c5 := hc.c5
          have c6 := hc.c6
          have wz : IntKind.i64.wrap ((i : Int) + 1) = ((i + 1 : Nat) : Int) := by rw [IntWalk.i64_in _ (by omega)]; push_cast; rfl
          clear hc
          by_cases x0 : 3000 < x.bn
          · have e1 : decide ((3000 : Int) < (x.bn : Int)) = true := by simp; omega
            have e2 : decide (3000 < x.bn) = true := by simpa using x0
            have hv : Hid (vR l = true) := HB.out (by unfold xv; rw [e2]; simp)
            go_wp2
            go_ret
            exact ⟨ret_bool hv.out.symm, grown_refl _ _⟩
          · have e1 : decide ((3000 : Int) < (x.bn : Int)) = false := by simp; omega
            have e2 : decide (3000 < x.bn) = false := by simpa using x0
            by_cases x1 : 100 < x.fn
            · have e3 : decide ((100 : Int) < (x.fn : Int)) = true := by simp; omega
              have e4 : decide (100 < x.fn) = true := by simpa using x1
              have hv : Hid (vR l = true) := HB.out (by unfold xv; rw [e4]; simp)
              go_wp2
              go_ret
              exact ⟨ret_bool hv.out.symm, grown_refl _ _⟩
            · have e3 : decide ((100 : Int) < (x.fn : Int)) = false := by simp; omega
              have e4 : decide (100 < x.fn) = false := by simpa using x1
              by_cases x2 : 300 < x.pn
              · have e5 : decide ((300 : Int) < (x.pn : Int)) = true := by simp; omega
                have e6 : decide (300 < x.pn) = true := by simpa using x2
                have hv : Hid (vR l = true) := HB.out (by unfold xv; rw [e6]; simp)
                go_wp2
                go_ret
                exact ⟨ret_bool hv.out.symm, grown_refl _ _⟩
              · have e5 : decide ((300 : Int) < (x.pn : Int)) = false := by simp; omega
                have e6 : decide (300 < x.pn) = false := by simpa using x2
                have hx : Hid (xv x = false) := (show xv x = false by unfold xv; rw [e2, e4, e6]; rfl)
                go_wp2
                go_roundw
                case rel => exact ⟨i + 1, by first | rfl | simp, by omega, by first | trivial | rfl, (HT.out.trans hx.out)⟩
                case measure => simp [intOf]; omega
      · obtain rfl : i = n := by omega
        have dl : decide ((i : Int) < (i : Int)) = false := by simp
        have hv : Hid (vR l = false) := (show vR l = false by have := hfi.out; rw [List.take_of_length_le (by omega)] at this; unfold vR; rw [this, hlen, d2]; rfl)
        clear hfi
        go_wp2
        go_ret
        exact ⟨ret_bool hv.out.symm, grown_refl _ _⟩

theorem vR_false {l : List Sx} (h : vR l = false) : l.length ≤ 300 ∧ ∀ x ∈ l, x.bn ≤ 3000 := by
  unfold vR at h
  simp only [Bool.or_eq_false_iff, decide_eq_false_iff_not] at h
  refine ⟨by omega, fun x hx => ?_⟩
  have := List.any_eq_false.1 h.2 x hx
  unfold xv at this
  simp at this
  omega

section
variable {w w' w0 : World} {b m base : Nat} {fs : List (Int × Int)} {st : Int} {n i : Nat} {D D' : DataW Unit} {X : Nat → Fm} {B : Nat → List UInt8}

theorem Iv.mono (h : Iv w b m base fs st n D X B i) : Iv w b m base fs st n D X B (i + 1) :=
  ⟨h.ds, h.st0, by have := h.st1; push_cast; omega, h.fl, h.ow, fun s g hg => by obtain ⟨a, h1, h2, h3⟩ := h.la s g hg; exact ⟨a, h1, h2, by omega⟩, h.inj, h.ne, h.nb, h.lo, h.apart, h.nz, by have := h.sz; omega, by have := h.sn; omega, h.lb, h.lm, h.bs, h.fsl, h.nm⟩
theorem Cp.grown {nm ba cnt n' : Nat} {left : Lit → Bool} (h : Cp w0 w nm ba D X B left cnt n' D') (hg : w.grownBy w' none) : Cp w0 w' nm ba D X B left cnt n' D' := by
  have hc := Chg.of_grown hg (fun _ => False)
  exact ⟨h.mp.chg hc (fun e => e), h.cnt, h.has, fun s g hs hl => by obtain ⟨g', bo', bc', k1, k2, k3, k4⟩ := h.fl s g hs hl; exact ⟨g', bo', bc', k1, k2, k3.chg hc (fun e => e), k4.beside hc (fun _ _ e => e)⟩, fun s g hs => Nat.lt_of_lt_of_le (h.lt s g hs) hg.size, h.inj, h.nz, h.chg.trans (Chg.of_grown hg _)⟩
theorem Iv.new {l : List (Int × Int)} (h : Ds w b m l 0 0 (.map [])) (hl : l.length ≤ 100) (hb : base ≤ b) (hm : base ≤ m) (hw : base ≤ w.heap.size) : Iv w b m base l 0 0 (.map []) (fun _ => ⟨none, 0, 0, 0, true, false⟩) (fun _ => []) 0 := by
  have no : ∀ s g, ¬ at? (.map [] : DataW Unit) s (some g) := fun s g hg => by have := at_has hg; simp [has_eq] at this
  exact ⟨h, Int.le_refl _, Int.le_refl _, fun s g hg => (no s g hg).elim, fun s g hg => (no s g hg).elim, fun s g hg => (no s g hg).elim, fun s s' g hg => (no s g hg).elim, fun s g hg => (no s g hg).elim, fun s g hg => (no s g hg).elim, fun s g hg => (no s g hg).elim, fun s s' g g' q hg => (no s g hg).elim, fun kl d hd => by have := has_true_of_atKey hd; simp [has_eq] at this, by simp [size_eq], Nat.le_refl _, hb, hm, hw, hl, fun s g hg => (no s g hg).elim⟩
end
end Go.Proofs.Ythkbakaodbceiaa
