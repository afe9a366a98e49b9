/-
  Copy.
-/
import Derived.Test.YthkbakaodbceiaaH8
namespace Go.Proofs.Ythkbakaodbceiaa
open Go.RowKit Go.Maps Go.WideMaps
set_option linter.unusedVariables false

theorem came_in {es : List (Lit × DataW Unit)} (hap : es.Pairwise (fun p q => p.1 ≠ q.1)) (hkeys : ∀ p ∈ es, WideAt.IsKeyLit p.1) {x : ByteArray} {d : DataW Unit} (hat : ∀ zd, (DataW.map es).atKey (.string x.data.toList) zd = d) (hz : Nz (.map es)) :
    ∃ g : Nat, d = .lit (.int .i64 g) ∧ at? (.map es) x (some g) ∧ WideAt.IsKeyLit (.string x.data.toList) := by
  have hm := came_mem hap hkeys hat
  obtain ⟨g, hg⟩ := hz _ d hat
  exact ⟨g, hg, by unfold at?; rw [hat .nil, hg], hkeys _ hm⟩
theorem elem_some {c : Option Nat} {yd : DataW Unit} {yp : List MemPlace} {g : Nat} (hv : fileElem (.pointer (c.map fun g => ⟨g, 0, none⟩)) = some (yd, yp)) (hy : yd = .lit (.int .i64 g)) : c = some g := by
  rcases fileElem_inv hv with ⟨e, e2⟩ | ⟨g', e, e2⟩
  · rw [hy] at e2; cases e2
  · rw [hy] at e2
    have : (g : Int) = (g' : Int) := by simpa using e2
    obtain rfl : g = g' := by omega
    cases c with
    | none => simp at e
    | some c => simp at e; rw [e]

/-- What a copy leaves. -/
def Copied (w w' : World) (fs : List (Int × Int)) (st : Int) (D : DataW Unit) (X : Nat → Fm) (B : Nat → List UInt8) (nb : Nat) : Prop :=
  ∃ nm base n' D', Ds w' nb nm fs st n' D' ∧ w.heap.size ≤ nm ∧ nm < nb ∧ nb < base ∧ w.grownBy w' none ∧ Cp w w' nm base D X B (fun _ => false) 0 n' D'

section
variable {w w' : World} {b m : Nat} {fs : List (Int × Int)} {st : Int} {n : Nat} {D : DataW Unit}

set_option maxRecDepth 100000 in
set_option maxHeartbeats 4000000 in
theorem copy_any (h : Ds w b m fs st n D) (hfs : fs.length ≤ 4294967296) (X : Nat → Fm) (B : Nat → List UInt8) (hB : Fb w D X B) (hz : Maps.size D ≤ 4096) :
    Calls Try.prog 13 #[.pointer (some ⟨b, 0, none⟩)] w fun e w' => ∃ nb, e = .returned (.pointer (some ⟨nb, 0, none⟩)) ∧ Copied w w' fs st D X B nb := by
  obtain ⟨⟨fo, fn, fc, hd, hf, ha⟩, hm⟩ := h
  have k0 := hd.c0
  have hfn := hf.len
  go_enter Try.func13, Try.ntmps13
  go_wp2_with fail
  refine (made_yes _ _ _ k0).mono ?_
  rintro e w1 ⟨rfl, rfl⟩
  go_wp2_with fail
  refine (empty_any _).mono ?_
  rintro e w2 ⟨he, hm2, hd2, hg2⟩
  obtain ⟨nb, hnb⟩ : ∃ nb, w1.heap.size + 1 = nb := ⟨_, rfl⟩
  obtain ⟨nm, hnm⟩ : ∃ nm, w1.heap.size = nm := ⟨_, rfl⟩
  rw [hnb] at he hd2
  rw [hnm] at hm2 hd2
  subst he
  have l1 : w1.heap.size ≤ nm := by omega
  have l2 : nm < nb := by omega
  have l3 := hd.lt
  have l4 := hm.lt
  have l5 := hd2.lt
  have nbb : ¬ nb = b := by omega
  have nbb2 : ¬ b = nb := by omega
  clear hnb hnm
  have hD2 := hd.grown hg2
  have k1 := hD2.c1
  have hf2 := hf.chg (Chg.of_grown hg2 (fun _ => False)) (fun _ _ e => e)
  go_wp2_with fail
  refine (fclone_any hf2 (by omega)).mono ?_
  rintro e w3 ⟨fo', fc', rfl, hf3, hab3, hg3⟩
  have l6 := hg3.size
  have hd3 := hd2.grown hg3
  have hG3 := grown_trans hg2 hg3 (by simp)
  have hD3 := hD2.grown hg3
  have hc45 := (setCell_chg w3 nb 1 (.slice fo' fn fc')).trans (setCell_chg _ nb 2 (.int .i64 st))
  have hd5 := (hd3.fates fo' fn fc').steps st
  have hD5 := hD3.chg hc45 nbb2
  have hf5 := hf3.chg hc45 (fun a e => by have := (hab3 a e).1; omega)
  have hm5 := (Mp.chg hm (Chg.of_grown hG3 (fun _ => False)) (fun e => e)).chg hc45 (by omega)
  have hn3 : w3.heap[nm]? = some (.map #[] 0) := (hg3.block nm (by omega) (by simp)).trans hm2
  have hn5 := (mp_new hn3).chg hc45 (by omega)
  have hab5 : ∀ a, fo' = some a → nb < a.block ∧ Ty ((w3.setCell ⟨nb, 1, none⟩ (.slice fo' fn fc')).setCell ⟨nb, 2, none⟩ (.int .i64 st)) a.block 28 := fun a e => ⟨by have := (hab3 a e).1; omega, ((hab3 a e).2.set _ _ _).set _ _ _⟩
  have hC5 : Chg w1 _ (fun k => k = nb) := (Chg.of_grown hG3 _).trans hc45
  have e5 : ((w3.setCell ⟨nb, 1, none⟩ (.slice fo' fn fc')).setCell ⟨nb, 2, none⟩ (.int .i64 st)).heap.size = w3.heap.size := by simp
  have q1 := hd3.c1
  have q2 := (hd3.fates fo' fn fc').c2
  have f1 := hd3.fz 1
  have f2 := (hd3.fates fo' fn fc').fz 2
  have b2 := hD3.c2
  have b0 := hD5.c0
  obtain ⟨es, rfl, hap, hkeys⟩ := hm.entries (string_keyed Try.underlying9)
  have HB : Hid _ := hB
  clear hB hd2 hd3 hD2 hD3 hf2 hf3 hab3 hm2 hn3 hc45 hg2 hg3 hG3
  go_wp2_with (first | (at_range; refine wpList_range_own _ rfl _ 81 rfl 9 91 (string_keyed Try.underlying9) Try.underlying81 _ m n _ rfl hm5 ?_; intro w6 hrg0 hg0 hs0) | go_in)
  go_frame
  rw [e5] at hrg0 hs0
  simp only [e5]
  obtain ⟨w5, hw5⟩ : ∃ w5, (w3.setCell ⟨nb, 1, none⟩ (.slice fo' fn fc')).setCell ⟨nb, 2, none⟩ (.int .i64 st) = w5 := ⟨_, rfl⟩
  rw [hw5] at hd5 hD5 hf5 hm5 hn5 hab5 hC5 e5 b0 hg0
  obtain ⟨r, hr⟩ : ∃ r, w3.heap.size = r := ⟨_, rfl⟩
  rw [hr] at hrg0 hs0 e5 l6
  simp only [hr]
  clear hw5 hr q1 q2 f1 f2 b2 k0 k1
  have hB5 : Hid (Fb w5 (.map es) X B) := by
    have hbnb : ∀ s g, at? (.map es) s (some g) → ¬ g = nb := fun s g hg e => by have := (HB.out.fl s g hg).lt; omega
    have hrow : ∀ s g, at? (.map es) s (some g) → ∀ q, blk (X g).bo = some q → ¬ q = nb := fun s g hg q hq e => by have := ((HB.out.ow s g hg).ty q hq).lt; omega
    exact ⟨fun s g hg => (HB.out.fl s g hg).chg hC5 (hbnb s g hg), fun s g hg => (HB.out.ow s g hg).beside hC5 (hrow s g hg), HB.out.sz, HB.out.nz⟩
  have hlt5 : Hid (∀ s g, at? (.map es) s (some g) → g < nm ∧ ∀ q, blk (X g).bo = some q → q < nm) := fun s g hg => ⟨by have := (HB.out.fl s g hg).lt; omega, fun q hq => by have := ((HB.out.ow s g hg).ty q hq).lt; omega⟩
  have hC0 : Cp w5 w6 nm (r + 1) (.map es) X B (Maps.has (.map es)) (Maps.size (.map es : DataW Unit)) 0 (.map []) := by
    have hn6 : Mp w6 nm 0 (.map []) := hn5.chg (Chg.of_grown hg0 (fun _ => False)) (fun e => e)
    refine ⟨hn6, by omega, fun k => ?_, fun s g hg hl => ?_, fun s g' hg' => ?_, fun s s' g' hg' => ?_, fun kl d hd => ?_, Chg.of_grown hg0 _⟩
    · cases Maps.has (DataW.map es) k <;> simp [has_eq]
    · rw [at_has hg] at hl; cases hl
    · have := at_has hg'; simp [has_eq] at this
    · have := at_has hg'; simp [has_eq] at this
    · have := has_true_of_atKey hd; simp [has_eq] at this
  go_loopw [4, 5, 6] (fun _ _ _ wr => ∃ (left : Lit → Bool) (cnt n' : Nat) (D' : DataW Unit), wr.ranges Try.prog 9 fileElem m r n (.map es) left cnt ∧ Cp w5 wr nm (r + 1) (.map es) X B left cnt n' D' ∧ r < wr.heap.size) (fun _ _ _ wr => wr.rangeLeft m r)
  case atStart => exact ⟨_, _, _, _, hrg0, hC0, by omega⟩
  case round =>
    obtain ⟨left, cnt, n', D', hrg, hC, hrl⟩ := hrel
    have hHb := hD5.chg hC.chg (fun e => by omega)
    have hHn := hd5.chg hC.chg (fun e => by omega)
    go_wp2_with (first
      | (at_next; refine wpList_next_ranges _ rfl _ rfl 9 (string_keyed Try.underlying9) fileElem Value.string (fun g : Option Nat => Value.pointer (g.map fun g => ⟨g, 0, none⟩)) (fun key _ hk => Maps.keyOf_string_inv Try.underlying9 hk) (fun v y hv => elem_inv hv) m r n _ _ _ rfl hrg ?_ ?_)
      | go_in)
    · intro _ hl0
      obtain rfl : left = fun _ => false := funext hl0
      have hnb : ∀ a, fo' = some a → ¬ a.block = nm := fun a e => by have := (hab5 a e).1; omega
      have hfin : Hid (Ds _ nb nm fs st n' D') := ⟨⟨fo', fn, fc', hHn, hf5.chg hC.chg hnb, fun a e => ⟨by have := (hab5 a e).1; omega, hnb a e, (hab5 a e).2.chg hC.chg (hnb a e)⟩⟩, hC.mp⟩
      have hG : Hid (w1.grownBy _ none) := ((hC5.mono (T := fun k => k = nb ∨ k = nm) (fun k _ e => Or.inl e)).trans (hC.chg.mono (fun k _ e => Or.inr e))).grown (fun k hk e => by omega)
      have hCp : Hid (Cp w1 _ nm (r + 1) (.map es) X B (fun _ => false) 0 n' D') := ⟨hC.mp, by have := hC.cnt; omega, hC.has, hC.fl, hC.lt, hC.inj, hC.nz, Chg.of_grown hG.out _⟩
      clear hHb hHn
      go_wp2
      go_ret
      exact ⟨nb, rfl, nm, r + 1, n', D', hfin.out, l1, l2, by omega, hG.out, hCp.out⟩
    · intro x c kl yd yp w7 cnt1 hkey hlk hv hat hrg1 hlt hg1 hs1 hen
      obtain ⟨rfl, hxs⟩ := key_inv hkey
      obtain ⟨g, hy, hat0, hkl⟩ := came_in hap hkeys hat HB.out.nz
      obtain rfl := elem_some hv hy
      rw [Option.map_some] at *
      obtain ⟨hgl, hql⟩ := hlt5.out x g hat0
      have hF7 := ((hB5.out.fl x g hat0).chg hC.chg (fun e => by omega)).chg (chg_grown hg1) (fun e => by have := Option.some.inj e; omega)
      have hO7 := ((hB5.out.ow x g hat0).beside hC.chg (fun q hq e => by have := hql q hq; omega)).beside (chg_grown hg1) (fun q hq e => by have := Option.some.inj e; have := hql q hq; omega)
      have hsz := hB5.out.sz x g hat0
      have c0 := hF7.c0
      have c1 := hF7.c1
      have c2 := hF7.c2
      have c3 := hF7.c3
      have hB7 := hO7.shows
      have hs7 : r < w7.heap.size := by omega
      have hs1a : wr.heap.size ≤ w7.heap.size := by omega
      clear hs1
      have hga := alloc_grown w7 (.cells #[.slice (X g).bo (X g).bn (X g).bc, .int .i64 (X g).la, .bool (X g).th, .bool (X g).nl] 93)
      have hF8 := Fl.new w7 (X g).bo (X g).bn (X g).bc (X g).la (X g).th (X g).nl
      have hB8 := hB7.grown hga
      have c08 := hga.cell c0 (by simp)
      have hHn7 := hHn.chg (chg_grown hg1) (fun e => by have := Option.some.inj e; omega)
      have HV : Hid _ := hv
      have HAT : Hid _ := hat
      clear hv hat hHn hHb
      go_wp2_with fail
      refine (clone_any _ _ _ _ _ hB8 (by omega)).mono ?_
      rintro e w9 ⟨ao', cap', rfl, ho9, hg9⟩
      have s8 : (w7.alloc (.cells #[.slice (X g).bo (X g).bn (X g).bc, .int .i64 (X g).la, .bool (X g).th, .bool (X g).nl] 93)).heap.size = w7.heap.size + 1 := by simp
      rw [s8] at ho9
      have hg79 := grown_trans hga hg9 (by simp)
      have hF9 := hF8.chg (Chg.of_grown hg9 (fun _ => False)) (fun e => e)
      have hs9 := hg9.size
      rw [s8] at hs9
      have ho9' := ho9.rebase (base' := r + 1) (by omega)
      have k9 := hF9.c0
      have f9 := hF9.fz 0
      have hF10 := hF9.bytes ao' (X g).bn cap'
      have hc10 := setCell_chg w9 w7.heap.size 0 (.slice ao' (X g).bn cap')
      have hgs := setCell_grown w9 w7.heap.size 0 (.slice ao' (X g).bn cap')
      have ho10 := ho9'.beside hc10 (fun q hq e => by have := ho9.from_base q hq; omega)
      have hHn10 := (hHn7.grown hg79).chg hc10 (by omega)
      have n0 := hHn10.c0
      have hm10 := ((hC.mp.chg (chg_grown hg1) (fun e => by have := Option.some.inj e; omega)).chg (Chg.of_grown hg79 (fun _ => False)) (fun e => e)).chg hc10 (by omega)
      have hrg10 := (hrg1.kept hg79 (by simp) (by simp)).kept hgs (fun e => by have := Option.some.inj e; omega) (fun e => by have := Option.some.inj e; omega)
      have hC10 : Chg wr _ (fun k => k = nm ∨ k = r) := (((chg_grown hg1).mono (T := fun k => k = nm ∨ k = r) (fun k _ e => Or.inr (Option.some.inj e).symm)).trans (Chg.of_grown hg79 _)).beyond hgs (fun q e => by have := Option.some.inj e; omega)
      have hn' : n' < maxLen := by have := hC.cnt; unfold maxLen; omega
      clear hF8 hB8 hB7 c08 hga hF9 hO7 hF7 c0 c1 c2 c3 hHn7
      go_wp2_with (at_mapUpdate; refine wpList_mapUpdate_own _ rfl _ _ _ 81 rfl 9 91 (string_keyed Try.underlying9) Try.underlying81 _ nm n' D' rfl hm10 hn' _ _ (.string x.data.toList) rfl rfl hkey (.lit (.int .i64 w7.heap.size)) [] rfl ?_)
      intro w11 hown hgr
      have hc11 := chg_row hgr
      have hCn := Cp.next (g' := w7.heap.size) (bo' := ao') (bc' := cap') hC (by omega) (by omega) (by omega) (by omega) hlt hat0 hkl hown (by omega) (by have := hgr.size; have := hF10.lt; omega) (hF10.chg hc11 (by omega)) (ho10.beside hc11 (fun q hq e => by have := ho10.from_base q hq; omega)) (hC10.trans (hc11.mono (fun k _ e => Or.inl e)))
      have hrg11 := hrg10.kept hgr (fun e => by have := Option.some.inj e; omega) (fun e => by have := Option.some.inj e; omega)
      have hs11 := hgr.size
      have hs10 : (w9.setCell ⟨w7.heap.size, 0, none⟩ (.slice ao' (X g).bn cap')).heap.size = w9.heap.size := by simp
      go_wp2
      go_roundw
      case rel => exact ⟨_, cnt1, _, _, hrg11, hCn, by omega⟩
      case measure => rw [hrg11.left_eq, hrg.left_eq]; exact hlt
end
end Go.Proofs.Ythkbakaodbceiaa
