/-
  SyncDir.
-/
import Derived.Test.YthkbakaodbceiaaH4
import Derived.Lib.SlMapFilter
import Derived.Lib.SlMapEqual
import Derived.Sort.MapsRangeIn
namespace Go.Proofs.Ythkbakaodbceiaa
open Go.RowKit Go.Maps Go.WideMaps
set_option linter.unusedVariables false

/-- What a file's record holds. -/
structure Fm where
  bo : Option Addr
  bn : Nat
  bc : Nat
  la : Int
  th : Bool
  nl : Bool
abbrev FlX (w : World) (g : Nat) (x : Fm) : Prop := Fl w g x.bo x.bn x.bc x.la x.th x.nl
/-- Behind a SyncDir. -/
def Fm.named (x : Fm) : Fm := { x with nl := x.nl || x.th }
/-- The files that a SyncDir strikes. -/
def pdX (X : Nat → Fm) : Lit → DataW Unit → Bool
  | _, .lit (.int _ z) => !(X z.toNat).th
  | _, _ => false
/-- No element is nil. -/
def Nz (D : DataW Unit) : Prop := ∀ kl d, (∀ zd, D.atKey kl zd = d) → ∃ g : Nat, d = .lit (.int .i64 g)

theorem key_inv {x : ByteArray} {kl : Lit} (h : keyOf Try.prog 9 (.string x) = some kl) : kl = .string x.data.toList ∧ x.size ≤ maxLen := by
  simp [keyOf, Try.underlying9, mapKey] at h
  exact ⟨h.2.symm, h.1⟩
theorem elem_inv {v : Value} {y : DataW Unit × List MemPlace} (h : fileElem v = some y) : ∃ g : Option Nat, v = .pointer (g.map fun g => ⟨g, 0, none⟩) := by
  rcases fileElem_inv (d := y.1) (ps := y.2) h with ⟨rfl, _⟩ | ⟨g, rfl, _⟩
  · exact ⟨none, rfl⟩
  · exact ⟨some g, rfl⟩

/-- What a SyncDir has done when these are left. -/
structure Sd (w wr : World) (m : Nat) (D : DataW Unit) (X : Nat → Fm) (left : Lit → Bool) : Prop where
  chg : Chg w wr (fun k => k = m ∨ ∃ s, at? D s (some k))
  fl : ∀ s g, at? D s (some g) → FlX wr g (if left (.string s.data.toList) then X g else (X g).named)

theorem at_has {D : DataW Unit} {s : ByteArray} {g : Nat} (hg : at? D s (some g)) : Maps.has D (.string s.data.toList) = true := by
  unfold at? at hg
  cases hh : Maps.has D (.string s.data.toList) with
  | true => rfl
  | false =>
    rw [atKey_of_not_has hh .nil] at hg
    cases hg
theorem key_ne {s x : ByteArray} (h : s ≠ x) : (Lit.string s.data.toList).sameKey (.string x.data.toList) = false := by
  refine sameKey_ne fun e => h ?_
  have e1 : s.data.toList = x.data.toList := by simpa using e
  cases s; cases x
  simp only [ByteArray.mk.injEq]
  exact Array.toList_inj.1 e1
theorem came_at {pd : Lit → DataW Unit → Bool} {es : List (Lit × DataW Unit)} {left : Lit → Bool} (hap : es.Pairwise (fun p q => p.1 ≠ q.1)) (hkeys : ∀ p ∈ es, WideAt.IsKeyLit p.1) {x : ByteArray} {d : DataW Unit} (hat : ∀ zd, (Fk pd es left).atKey (.string x.data.toList) zd = d) (hz : Nz (.map es)) :
    ∃ g : Nat, d = .lit (.int .i64 g) ∧ at? (.map es) x (some g) ∧ WideAt.IsKeyLit (.string x.data.toList) := by
  have hm := came_mem (hap.filter _) (fun p hp => hkeys p (List.mem_filter.1 hp).1) hat
  have hm' := (List.mem_filter.1 hm).1
  have hk := hkeys _ hm'
  have hat0 : ∀ zd, (DataW.map es).atKey (.string x.data.toList) zd = d := fun zd => WideAt.atKey_mem zd hk hap hm'
  obtain ⟨g, hg⟩ := hz _ d hat0
  exact ⟨g, hg, by unfold at?; rw [hat0 .nil, hg], hk⟩

theorem Chg.beyond {w A B : World} {S : Nat → Prop} {row : Option Nat} (h : Chg w A S) (hg : A.grownBy B row) (hr : ∀ q, row = some q → w.heap.size ≤ q) : Chg w B S :=
  ⟨hg.os.trans h.os, hg.tape.trans h.tape, hg.output.trans h.output, Nat.le_trans h.size hg.size, fun k hk hn => (hg.block k (Nat.lt_of_lt_of_le hk h.size) (fun e => by have := hr k e.symm; omega)).trans (h.block k hk hn)⟩
theorem Sd.next {w wr w4 w5 : World} {m r g : Nat} {D : DataW Unit} {X : Nat → Fm} {left : Lit → Bool} {x : ByteArray} (hS : Sd w wr m D X left) (hFw : ∀ s g, at? D s (some g) → FlX w g (X g)) (hgm : ∀ s g, at? D s (some g) → g ≠ m) (hinj : ∀ s s' g, at? D s (some g) → at? D s' (some g) → s = s')
    (hg1 : wr.grownBy w4 (some r)) (hr : w.heap.size ≤ r) (hat : at? D x (some g)) (hc5 : Chg w4 w5 (fun k => k = m ∨ k = g)) (h5 : FlX w5 g (X g).named) : Sd w w5 m D X (fun z => left z && !z.sameKey (.string x.data.toList)) := by
  refine ⟨?_, fun s g' hs => ?_⟩
  · exact (hS.chg.beyond hg1 (fun q e => by cases e; exact hr)).trans (hc5.mono (fun k _ e => e.elim Or.inl (fun e => Or.inr ⟨x, e ▸ hat⟩)))
  · by_cases hgg : g' = g
    · subst hgg
      obtain rfl := hinj _ _ _ hs hat
      have : (Lit.string s.data.toList).sameKey (.string s.data.toList) = true := by simp [Lit.sameKey]
      rw [this]
      simpa using h5
    · have hsx : s ≠ x := fun e => hgg (by subst e; simpa using at_one hs hat)
      have := key_ne hsx
      simp only [this, Bool.not_false, Bool.and_true]
      have hlt := (hFw s g' hs).lt
      exact ((hS.fl s g' hs).chg (chg_grown hg1) (fun e => by cases e; omega)).chg hc5 (fun e => e.elim (hgm s g' hs) hgg)

section
variable {w w' : World} {b m : Nat} {fs : List (Int × Int)} {st : Int} {n : Nat} {D : DataW Unit}

set_option maxRecDepth 100000 in
theorem syncdir_fail (h : Ds w b m fs st n D) (h0 : 0 ≤ st) (h1 : st < 4611686018427387904) (he : (stepR fs 0).2 ≠ 0) :
    Calls Try.prog 21 #[.pointer (some ⟨b, 0, none⟩)] w fun e w' => e = .returned (.int .i64 (stepR fs 0).2) ∧ Ds w' b m fs.tail (st + 1) n D ∧ Chg w w' (fun k => k = b) := by
  obtain ⟨fo, fn, fc, hd⟩ := h.dk
  have k0 := hd.hd.c0
  have hst := step_ds 0 h h0 h1
  have df : ((stepR fs 0).2 == 0) = false := by simpa using he
  generalize (stepR fs 0).2 = q at *
  generalize (stepR fs 0).1 = q1 at *
  clear h hd he
  go_enter Try.func21, Try.ntmps21
  go_wp2_with fail
  refine (made_yes _ _ _ k0).mono ?_
  rintro e w1 ⟨rfl, rfl⟩
  go_wp2_with fail
  refine hst.mono ?_
  clear hst
  rintro e w2 ⟨rfl, hD2, hc2⟩
  go_wp2
  go_ret
  exact ⟨rfl, hD2, hc2⟩

set_option maxRecDepth 100000 in
set_option maxHeartbeats 2000000 in
theorem syncdir_ok (h : Ds w b m fs st n D) (h0 : 0 ≤ st) (h1 : st < 4611686018427387904) (X : Nat → Fm) (hF : ∀ s g, at? D s (some g) → FlX w g (X g)) (hne : ∀ s, ¬ at? D s (some b)) (hinj : ∀ s s' g, at? D s (some g) → at? D s' (some g) → s = s') (hz : Nz D) (he : (stepR fs 0).2 = 0) :
    Calls Try.prog 21 #[.pointer (some ⟨b, 0, none⟩)] w fun e w' => e = .returned (.int .i64 0) ∧ Ds w' b m fs.tail (st + 1) n (Lib.deleteFuncD (pdX X) D) ∧ (∀ s g, at? D s (some g) → FlX w' g (X g).named) ∧ Chg w w' (fun k => k = b ∨ k = m ∨ ∃ s, at? D s (some k)) := by
  obtain ⟨fo, fn, fc, hd⟩ := h.dk
  have k0 := hd.hd.c0
  have hst := step_ds 0 h h0 h1
  rw [he] at hst
  generalize (stepR fs 0).1 = q1 at *
  clear h hd he
  go_enter Try.func21, Try.ntmps21
  go_wp2_with fail
  refine (made_yes _ _ _ k0).mono ?_
  rintro e w1 ⟨rfl, rfl⟩
  go_wp2_with fail
  refine hst.mono ?_
  clear hst
  rintro e w2 ⟨rfl, hD2, hc2⟩
  have hbm := hD2.ne
  obtain ⟨⟨fo2, fn2, fc2, hd2, hf2, ha2⟩, hm2⟩ := hD2
  clear k0
  have k0 := hd2.c0
  have hml := hm2.lt
  have hF2 : ∀ s g, at? D s (some g) → FlX w2 g (X g) := fun s g hg => (hF s g hg).chg hc2 (fun e => hne s (e ▸ hg))
  have hgm : ∀ s g, at? D s (some g) → g ≠ m := fun s g hg => hm2.row (hF2 s g hg).ty
  have hfa : ∀ s g a, at? D s (some g) → fo2 = some a → a.block ≠ g := fun s g a hg e => (ha2 a e).2.2.ne (hF2 s g hg).ty (by decide)
  obtain ⟨es, rfl, hap, hkeys⟩ := hm2.entries (string_keyed Try.underlying9)
  have HF : Hid _ := hF2
  have HZ : Hid _ := hz
  have HG : Hid _ := hgm
  have HI : Hid _ := hinj
  have HN : Hid _ := hne
  have HA : Hid _ := hfa
  have HC2 : Hid _ := hc2
  have HH : Hid _ := ha2
  clear hF hz hgm hinj hne hfa hc2 ha2 hF2
  go_wp2_with (first | (at_range; refine wpList_range_own _ rfl _ 81 rfl 9 91 (string_keyed Try.underlying9) Try.underlying81 _ m n _ rfl hm2 ?_; intro w3 hrg0 hg0 hs0) | go_in)
  go_frame
  have hrg0' : w3.ranges Try.prog 9 fileElem m w2.heap.size n (Fk (pdX X) es (Maps.has (.map es))) (Maps.has (.map es)) (Maps.size (.map es : DataW Unit)) := by rw [Fk_start hkeys]; exact hrg0
  have hS0 : Sd w2 w3 m (.map es) X (Maps.has (.map es)) := by
    refine ⟨Chg.of_grown hg0 _, fun s g hg => ?_⟩
    rw [if_pos (at_has hg)]
    exact (HF.out s g hg).chg (Chg.of_grown hg0 (fun _ => False)) (fun e => e)
  go_loopw [5, 6] (fun _ _ wr => ∃ (left : Lit → Bool) (cnt : Nat), wr.ranges Try.prog 9 fileElem m w2.heap.size n (Fk (pdX X) es left) left cnt ∧ Sd w2 wr m (.map es) X left) (fun _ _ wr => wr.rangeLeft m w2.heap.size)
  case atStart => exact ⟨_, _, hrg0', hS0⟩
  case round =>
    obtain ⟨left, cnt, hrg, hS⟩ := hrel
    have hHd := hd2.chg hS.chg (fun e => e.elim hbm (fun ⟨s, hs⟩ => HN.out s hs))
    have kb := hHd.c0
    go_wp2_with (first
      | (at_next; refine wpList_next_ranges _ rfl _ rfl 9 (string_keyed Try.underlying9) fileElem Value.string (fun g : Option Nat => Value.pointer (g.map fun g => ⟨g, 0, none⟩)) (fun key _ hk => Maps.keyOf_string_inv Try.underlying9 hk) (fun v y hv => elem_inv hv) m w2.heap.size n _ _ _ rfl hrg ?_ ?_)
      | go_in)
    · intro _ hl0
      have hC := hS.chg
      have hnb : ∀ a, fo2 = some a → ¬ (a.block = m ∨ ∃ s, at? (.map es) s (some a.block)) := fun a e h => h.elim (HH.out a e).2.1 (fun ⟨s, hs⟩ => HA.out s _ a hs e rfl)
      have hown := hrg.owns
      rw [Fk_end hl0] at hown
      have hfin : Hid (Ds _ b m fs.tail (st + 1) n (Lib.deleteFuncD (pdX X) (.map es))) := ⟨⟨fo2, fn2, fc2, hHd, hf2.chg hC hnb, fun a e => ⟨(HH.out a e).1, (HH.out a e).2.1, (HH.out a e).2.2.chg hC (hnb a e)⟩⟩, hown⟩
      have hX : Hid _ := fun s g hg => (show FlX _ g (X g).named from by have := hS.fl s g hg; rw [hl0] at this; simpa using this)
      have hCC : Hid _ := (HC2.out.mono (T := fun k => k = b ∨ k = m ∨ ∃ s, at? (.map es) s (some k)) (fun k _ e => Or.inl e)).trans (hC.mono (fun k _ e => Or.inr e))
      clear hown hC
      go_wp2
      go_ret
      exact ⟨rfl, hfin.out, hX.out, hCC.out⟩
    · intro x c kl yd yp w4 cnt1 hkey hlk hv hat hrg1 hlt hg1 hs1 hen
      obtain ⟨rfl, hxs⟩ := key_inv hkey
      obtain ⟨g, hy, hat0, hkl⟩ := came_at hap hkeys hat HZ.out
      obtain rfl : c = some g := by
        rcases fileElem_inv hv with ⟨e, e2⟩ | ⟨g', e, e2⟩
        · rw [hy] at e2; cases e2
        · rw [hy] at e2
          have : (g : Int) = (g' : Int) := by simpa using e2
          obtain rfl : g = g' := by omega
          cases c with
          | none => simp at e
          | some c => simp at e; rw [e]
      rw [Option.map_some] at *
      have hFw := HF.out x g hat0
      have hgl := hFw.lt
      have hFr := hS.fl x g hat0
      rw [if_pos hlk] at hFr
      have hF4 := hFr.chg (chg_grown hg1) (fun e => by cases e; omega)
      have k2 := hF4.c2
      have k3 := hF4.c3
      have f3 := hF4.fz 3
      have hgm := HG.out x g hat0
      have hbl := hd2.lt
      have kb4 := hg1.cell kb (fun e => by have e9 := Option.some.inj e; simp only at e9; omega)
      have hty := hFw.ty
      have HAT : Hid _ := hat
      have HV : Hid _ := hv
      clear hat hv hFr hFw
      cases hth : (X g).th with
      | true =>
        rw [hth] at k2
        have hrg5 := hrg1.kept (setCell_grown w4 g 3 (.bool true)) (fun e => hgm (Option.some.inj e).symm) (fun e => by have := Option.some.inj e; omega)
        have hst : Fk (pdX X) es left = Fk (pdX X) es (fun z => left z && !z.sameKey (.string x.data.toList)) := Fk_stays hap hkl hlk (d := yd) (by rw [hy]; simp [pdX, hth]) HAT.out
        rw [hst] at hrg5
        have hS5 : Hid (Sd _ _ _ _ _ _) := Sd.next (w5 := w4.setCell ⟨g, 3, none⟩ (.bool true)) hS HF.out HG.out HI.out hg1 (Nat.le_refl _) hat0 ((setCell_chg w4 g 3 (.bool true)).mono (fun k _ e => Or.inr e)) (by
          have := hF4.named true
          unfold Fm.named FlX
          simpa [hth] using this)
        clear hF4 hst
        go_wp2
        go_roundw
        case rel => exact ⟨_, cnt1, hrg5, hS5.out⟩
        case measure => rw [hrg5.left_eq, hrg.left_eq]; exact hlt
      | false =>
        rw [hth] at k2
        have hst : (Fk (pdX X) es left).del (.string x.data.toList) = Fk (pdX X) es (fun z => left z && !z.sameKey (.string x.data.toList)) := Fk_struck hap hkl hlk (d := yd) (by rw [hy]; simp [pdX, hth]) HAT.out
        go_wp2_with (first
          | (at_delete; refine wpList_delete_ranges _ rfl _ _ 81 9 rfl 91 (string_keyed Try.underlying9) Try.underlying81 fileElem m w2.heap.size n _ _ _ rfl hrg1 _ (.string x.data.toList) rfl hkey ?_; intro w5 cnt2 hrg5 hle hturn)
          | go_in)
        try go_frame
        rw [hst, strike_twice] at hrg5
        have hS5 : Hid (Sd _ _ _ _ _ _) := Sd.next (w5 := w5) hS HF.out HG.out HI.out hg1 (Nat.le_refl _) hat0 ((chg_row hturn.grown).mono (fun k _ e => Or.inl e)) (by
          have := hF4.chg (chg_row hturn.grown) hgm
          unfold Fm.named FlX
          simpa [hth] using this)
        clear hF4 hst
        go_roundw
        case rel => exact ⟨_, cnt2, hrg5, hS5.out⟩
        case measure => rw [hrg5.left_eq, hrg.left_eq]; omega
end
end Go.Proofs.Ythkbakaodbceiaa
