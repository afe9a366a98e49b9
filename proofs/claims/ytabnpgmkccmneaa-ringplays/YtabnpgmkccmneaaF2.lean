/-
  goes: the walk.
-/
import Derived.Test.YtabnpgmkccmneaaF1
import Derived.Test.YtabnpgmkccmneaaW1
namespace Go.Proofs.Ytabnpgmkccmneaa
open Go.RowKit Go.Shelf
set_option linter.unusedVariables false
attribute [local go_sem] Oper.semAt_some

theorem results_bool {fn : Func} {p : Tmp} (h : fn.results = #[.cell p 4]) (tmps : Array Value) (w : World) (g : Nat) (b : Bool) (hp : tmps.getD p undef = .pointer (some ⟨g, 0, none⟩)) (hc : w.cell? ⟨g, 0, none⟩ = some (.bool b)) : (results fn tmps).run Try.prog w = .ok (.bool b) w := by
  simp only [results, h]
  have hp' : tmps[p]?.getD undef = .pointer (some ⟨g, 0, none⟩) := by simpa using hp
  simp [Sem.run_bind, Result.andThen, hp', asAddr, loadVar, go_sem, hc]

theorem box_own {A B : World} {row : Option Nat} {b : Nat} {t : TypeId} {v : Value} (h : Boxed A b t v) (hg : A.grownBy B row) (hr : ∀ r, row = some r → ∃ o : Obj, A.heap[r]? = some o ∧ o.isCells = false) : Boxed B b t v :=
  boxed_own (β := Unit) b t (fun _ => v) () A B row h hg hr

theorem prefix_next {n : Nat} {pre : List (Fin n)} {x : Fin n} (h : pre <+: List.finRange n) (hx : x.val = pre.length) : pre ++ [x] <+: List.finRange n := by
  obtain ⟨q, hq⟩ := h
  have h1 : (List.finRange n)[pre.length]? = some x := by
    rw [List.getElem?_eq_getElem (by rw [List.length_finRange]; omega)]
    simp [← hx]
  rw [← hq, List.getElem?_append_right (Nat.le_refl _), Nat.sub_self] at h1
  cases q with
  | nil => simp at h1
  | cons y q =>
    simp at h1
    subst h1
    exact ⟨q, by rw [← hq]; simp⟩

theorem prefix_last {n : Nat} {pre : List (Fin n)} {x : Fin n} (h : pre ++ [x] <+: List.finRange n) : x.val = pre.length := by
  obtain ⟨q, hq⟩ := h
  have h1 : (List.finRange n)[pre.length]? = some x := by rw [← hq]; simp
  obtain ⟨h2, h3⟩ := List.getElem?_eq_some_iff.1 h1
  simp at h3
  rw [← h3]

theorem below_grownBy {w w' : World} (h : Below w.heap.size w w') : w.grownBy w' none := ⟨h.os, h.tape, h.output, h.size, fun k hk _ => h.block k hk⟩

/-- The cells of goes: the list, how far, the answer, the count. -/
structure Gs (W : World) (s : Nat) (sl lv : Value) (r : Bool) (n : Nat) : Prop where
  b0 : Boxed W s 30 sl
  b1 : Boxed W (s + 1) 3 lv
  b2 : Boxed W (s + 1 + 1) 4 (.bool r)
  b3 : Boxed W (s + 1 + 1 + 1) 3 (.int .i64 n)

theorem Gs.own {A B : World} {row : Option Nat} {s : Nat} {sl lv : Value} {r : Bool} {n : Nat} (h : Gs A s sl lv r n) (hg : A.grownBy B row) (hr : ∀ r, row = some r → ∃ o : Obj, A.heap[r]? = some o ∧ o.isCells = false) : Gs B s sl lv r n :=
  ⟨box_own h.b0 hg hr, box_own h.b1 hg hr, box_own h.b2 hg hr, box_own h.b3 hg hr⟩
theorem Gs.count {W : World} {s : Nat} {sl lv : Value} {r : Bool} {n : Nat} (h : Gs W s sl lv r n) (k : Nat) : Gs (W.setCell ⟨s + 1 + 1 + 1, 0, none⟩ (.int .i64 k)) s sl lv r k :=
  ⟨h.b0.other (by omega) _, h.b1.other (by omega) _, h.b2.other (by omega) _, h.b3.set _⟩
theorem Gs.answer {W : World} {s : Nat} {sl lv : Value} {r : Bool} {n : Nat} (h : Gs W s sl lv r n) (q : Bool) : Gs (W.setCell ⟨s + 1 + 1, 0, none⟩ (.bool q)) s sl lv q n :=
  ⟨h.b0.other (by omega) _, h.b1.other (by omega) _, h.b2.set _, h.b3.other (by omega) _⟩

set_option maxRecDepth 100000 in
set_option maxHeartbeats 1000000 in
theorem goes_any (w : World) (c o : Nat) (zs : List Int) (xo : Option Addr) (m cp : Nat) (leave : Int) (hs : Ri.Sq w c o (zs.map (.int .i64))) (hv : Vs w xo m cp (zs.map (.int .i64))) (hlen : zs.length ≤ 256) (hc : c < w.heap.size) (hx : ∀ a, xo = some a → a.block < w.heap.size) :
    Calls Try.prog 36 #[.func (.func 44) #[] #[.pointer (some ⟨c, 0, none⟩)], .slice xo m cp, .int .i64 leave] w fun e w' => e = .returned (.bool true) ∧ w.grownBy w' none := by
  have hol := hs.row.lt
  have hm := hv.len
  rw [List.length_map] at hm
  refine (callsIn_wide (n := 5)).1 ?_
  refine callsIn_of_wp_marks Try.func36 rfl trivial ?_
  simp only [Try.ntmps36, List.size_toArray, List.length_cons, List.length_nil, Nat.reduceAdd, Nat.reduceSub, Array.replicate_succ, Array.replicate_zero, List.push_toArray, List.append_toArray, List.nil_append, List.cons_append]
  have heq := fun W => run_eql_fn W 58 _ _ _ Try.underlying58 (.func 44) #[] #[.pointer (some ⟨c, 0, none⟩)]
  gi_wp2
  obtain ⟨W0, hW0⟩ : ∃ W0, (((w.alloc (.cells #[.slice xo m cp] 30)).alloc (.cells #[.int .i64 leave] 3)).alloc (.cells #[.bool false] 4)).alloc (.cells #[.int .i64 0] 3) = W0 := ⟨_, rfl⟩
  have hB0 : Below w.heap.size w W0 := by
    rw [← hW0]
    exact ((((Below.refl _ w).alloc (Nat.le_refl _) _).alloc (by simp) _).alloc (by simp; omega) _).alloc (by simp; omega) _
  have hG0 : Gs W0 w.heap.size (.slice xo m cp) (.int .i64 leave) false 0 := by
    rw [← hW0]
    refine ⟨(((Boxed.new w 30 _).alloc _).alloc _).alloc _, ?_, ?_, ?_⟩
    · have := ((Boxed.new (w.alloc (.cells #[.slice xo m cp] 30)) 3 (.int .i64 leave)).alloc (.cells #[.bool false] 4)).alloc (.cells #[.int .i64 0] 3)
      rwa [World.size_alloc] at this
    · have := (Boxed.new ((w.alloc (.cells #[.slice xo m cp] 30)).alloc (.cells #[.int .i64 leave] 3)) 4 (.bool false)).alloc (.cells #[.int .i64 0] 3)
      rwa [World.size_alloc, World.size_alloc] at this
    · have := Boxed.new (((w.alloc (.cells #[.slice xo m cp] 30)).alloc (.cells #[.int .i64 leave] 3)).alloc (.cells #[.bool false] 4)) 3 (.int .i64 0)
      rwa [World.size_alloc, World.size_alloc, World.size_alloc] at this
  rw [hW0]
  have hsz0 : w.heap.size + 4 ≤ W0.heap.size := by rw [← hW0]; simp
  clear hW0
  have hs0 : Ri.Sq W0 c o (zs.map (.int .i64)) := ⟨(hB0.cell (p := ⟨c, 0, none⟩) hc).trans hs.box, (hB0.block o hol).trans hs.row⟩
  have hn9 : w.heap.size ≤ W0.heap.size := by omega
  apply wpIn_rangeFunc_ownG (encs := Ri.eat zs) (Kp := Below w.heap.size) (S := fun ys => ys = List.finRange zs.length) (Sp := fun pre => pre <+: List.finRange zs.length) (N := zs.length) (w0 := W0) rfl (by decide) (gf := 44) (lb := #[.pointer (some ⟨c, 0, none⟩)]) rfl trivial (enters_of Try.func44 (by kernel_rfl) rfl)
    (Ri.all_stops 4 (by decide) c o w.heap.size zs hlen W0 hs0 hc hol (by omega)) belowK_t (belowK_b hn9) (Below.refl _ _) (fun _ => rfl)
    (fun pre W => Gs W w.heap.size (.slice xo m cp) (.int .i64 leave) false pre.length ∧ pre <+: List.finRange zs.length ∧ Below w.heap.size w W)
    (fun cd pre W => cd = .ret ∧ (∃ r k, Gs W w.heap.size (.slice xo m cp) (.int .i64 leave) r k ∧ (pre <+: List.finRange zs.length → r = true)) ∧ Below w.heap.size w W)
    (fun s A B row hs hg hr => ⟨hs.1.own hg (fun r e => (hr r e).2), hs.2.1, (ownFrom_below (β := Unit) (Nat.le_refl _) (by omega)) () A B row hs.2.2 hg hr⟩)
    (fun cd s A B row hs hg hr => ⟨hs.1, by obtain ⟨r, k, h1, h2⟩ := hs.2.1; exact ⟨r, k, h1.own hg (fun r e => (hr r e).2), h2⟩, (ownFrom_below (β := Unit) (Nat.le_refl _) (by omega)) () A B row hs.2.2 hg hr⟩)
    ⟨hG0, List.nil_prefix, hB0⟩
  case hassign =>
    intro l x W K hK
    simp only [Ri.eat]
    gi_wp2
    exact hK
  case hbody =>
    rintro l pre x W ⟨hG, hpre, hB⟩ hlt
    have k0 := hG.b0.cell
    have k1 := hG.b1.cell
    have k2 := hG.b2.cell
    have k3 := hG.b3.cell
    have f2 := hG.b2.frozen
    have f3 := hG.b3.frozen
    have hg0 : decide (m ≤ pre.length) = false := by simp; omega
    by_cases hxp : x.val = pre.length
    · have hvW : Vs W xo m cp (zs.map (.int .i64)) := ⟨hv.len, hv.room, hv.top, hv.nil, hv.one, fun a ha j u hu => (hB.cell (p := a.add j) (by rw [add_block]; exact hx a ha)).trans (hv.cells a ha j u hu)⟩
      obtain ⟨xb, xf, hxo, _⟩ := hvW.addr (by omega)
      subst hxo
      obtain ⟨z, hz⟩ : ∃ z, zs[x] = z := ⟨_, rfl⟩
      have hcz := hvW.at (j := pre.length) (u := .int .i64 z) (by rw [List.getElem?_map, List.getElem?_eq_getElem hlt, ← hz]; simp [← hxp])
      have hpre2 := prefix_next hpre hxp
      have hi1 : (0 : Int) ≤ (pre.length : Int) := by omega
      have hi2 : (pre.length : Int) < (m : Int) := by omega
      have hxI : ((x.val : Nat) : Int) = (pre.length : Int) := by omega
      have hzF : zs[pre.length] = z := by rw [← hz]; simp [← hxp]
      have hG2 := hG.count (pre.length + 1)
      have hW2 : ((pre.length + 1 : Nat) : Int) = (pre.length : Int) + 1 := by omega
      rw [hW2] at hG2
      have j2 := hG2.b2.frozen
      have j2c := hG2.b2.cell
      have hB2 : Below w.heap.size w (W.setCell ⟨w.heap.size + 1 + 1 + 1, 0, none⟩ (.int .i64 ((pre.length : Int) + 1))) := hB.setCell (by show w.heap.size ≤ w.heap.size + 1 + 1 + 1; omega) _
      have hBr : Below w.heap.size W (W.setCell ⟨w.heap.size + 1 + 1 + 1, 0, none⟩ (.int .i64 ((pre.length : Int) + 1))) := (Below.refl _ W).setCell (by show w.heap.size ≤ w.heap.size + 1 + 1 + 1; omega) _
      by_cases hle : (pre.length : Int) + 1 = leave
      · have hled : ((pre.length : Int) + 1 == leave) = true := by simpa using hle
        have HL : Hid ((pre.length : Int) + 1 = leave) := hle
        clear hle
        gi_wp2
        exact ⟨((KeepsOthers.setCell _ _ _).trans (KeepsOthers.setCell _ _ _)).from _, rfl, ⟨true, _, hG2.answer true, fun _ => rfl⟩, hB2.setCell (by show w.heap.size ≤ w.heap.size + 1 + 1; omega) _⟩
      · have hled : ((pre.length : Int) + 1 == leave) = false := by simpa using hle
        gi_wp2
        exact ⟨(KeepsOthers.setCell _ _ _).from _, hBr, by rw [List.length_append]; exact hG2, hpre2, hB2⟩
    · have hxd : (((x.val : Nat) : Int) == (pre.length : Int)) = false := by simp; omega
      gi_wp2
      exact ⟨(KeepsOthers.setCell _ _ _).from _, rfl, ⟨false, _, hG.answer false, fun hp => absurd (prefix_last hp) hxp⟩, hB.setCell (by show w.heap.size ≤ w.heap.size + 1 + 1; omega) _⟩
  case hdone =>
    rintro D ys W hD rfl ⟨hG, hpre, hB⟩ hK
    rw [List.length_finRange] at hG
    have k0 := hG.b0.cell
    have k3 := hG.b3.cell
    have k2 := hG.b2.cell
    have f2 := hG.b2.frozen
    gi_wp2
    have hG2 := hG.answer true
    have hB2 : Below w.heap.size w (W.setCell ⟨w.heap.size + 1 + 1, 0, none⟩ (.bool true)) := hB.setCell (by show w.heap.size ≤ w.heap.size + 1 + 1; omega) _
    have hK2 := (KeepsOthers.setCell W ⟨w.heap.size + 1 + 1, 0, none⟩ (.bool true)).same D _ hK rfl
    refine ⟨by simp, .inl ⟨_, _, rfl, run_takeDeferred hK2, ?_⟩⟩
    have hb2 := (box_own hG2.b2 (grownBy_putObj' _ D (.deferred none)) (fun r e => by cases e; exact ⟨_, hK2, rfl⟩)).cell
    exact ⟨_, results_bool (fn := Try.f36) rfl _ _ _ _ rfl hb2, rfl, below_grownBy (hB2.trans (belowK_b (w := w) (Nat.le_refl _) _ D _ _ (by omega) hK2 rfl rfl))⟩
  case hstop =>
    rintro D cd pre W hD hpre ⟨rfl, ⟨r, k, hG, hr⟩, hB⟩ hK
    obtain rfl := hr hpre
    gi_wp2
    refine ⟨by simp, .inl ⟨_, _, rfl, run_takeDeferred hK, ?_⟩⟩
    have hb2 := (box_own hG.b2 (grownBy_putObj' W D (.deferred none)) (fun r e => by cases e; exact ⟨_, hK, rfl⟩)).cell
    exact ⟨_, results_bool (fn := Try.f36) rfl _ _ _ _ rfl hb2, rfl, below_grownBy (hB.trans (belowK_b (w := w) (Nat.le_refl _) W D _ _ (by omega) hK rfl rfl))⟩
end Go.Proofs.Ytabnpgmkccmneaa
