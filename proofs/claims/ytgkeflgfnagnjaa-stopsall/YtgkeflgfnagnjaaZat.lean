import Derived.Test.YtgkeflgfnagnjaaZal
import Derived.Test.YtgkeflgfnagnjaaZas
import Derived.Test.YtgkeflgfnagnjaaZar
/-
  Crash with a pick below nought.
-/
namespace Go.Proofs.Ytgkeflgfnagnjaa
open Go.RowKit Go.Maps Go.Sort Go.Shelf
set_option linter.unusedVariables false
set_option maxRecDepth 100000
set_option linter.unusedSectionVars false
variable [FO : Inhabited (Nat → Prop)]
attribute [local go_sem] Oper.semAt_some

section
variable {w w' : World} {b m : Nat} {fs : List (Int × Int)} {st : Int} {n : Nat} {D : DataW Unit}

set_option maxRecDepth 100000 in
set_option maxHeartbeats 4000000 in
theorem crash_neg (h : Ds w b m fs st n D) (o : Option Addr) (pn pc : Nat) (l : List Int) (hl : Is' w o pn pc l) (hneg : ¬ ∀ x ∈ l, 0 ≤ x) (hpn : pn ≤ 4611686018427387904) :
    Calls Try.prog 27 #[.pointer (some ⟨b, 0, none⟩), .agg #[.slice o pn pc]] w fun e w' => e = .returned (.tuple #[.pointer none, .int .i64 2]) ∧ w.grownBy w' none := by
  obtain ⟨fo, fn, fc, hd⟩ := h.dk
  have h0 := hd.hd.c0
  have hg1 := alloc_grown w (.cells #[.pointer (some ⟨b, 0, none⟩)] 26)
  have hg2 := alloc_grown (w.alloc (.cells #[.pointer (some ⟨b, 0, none⟩)] 26)) (.cells #[.slice o pn pc] 35)
  have hG2 := grown_trans hg1 hg2 (by simp)
  have b2 := box_own (Boxed.new w 26 (.pointer (some ⟨b, 0, none⟩))) hg2 (fun r e => by cases e)
  have b3 := Boxed.new (w.alloc (.cells #[.pointer (some ⟨b, 0, none⟩)] 26)) 35 (.slice o pn pc)
  rw [World.size_alloc] at b3
  have k2 := b2.cell
  have k3 := b3.cell
  have h02 := hG2.cell h0 (by simp)
  have HN : Hid _ := hneg
  clear hneg
  refine (callsIn_wide (n := 5)).1 ?_
  refine callsIn_of_wp_marks Try.func27 rfl trivial ?_
  simp only [Try.ntmps27, List.size_toArray, List.length_cons, List.length_nil, Nat.reduceAdd, Nat.reduceSub, Array.replicate_succ, Array.replicate_zero, List.push_toArray, List.append_toArray, List.nil_append, List.cons_append]
  gi_wp2_with fail
  generalize (w.alloc (.cells #[.pointer (some ⟨b, 0, none⟩)] 26)).alloc (.cells #[.slice o pn pc] 35) = w2 at *
  clear hg1 hg2
  refine ⟨trivial, callsIn_wide.2 ((made_yes _ _ _ h02).mono ?_)⟩
  rintro e w2 ⟨rfl, rfl⟩
  have hl2 := hl.grown hG2
  have hcell : ∀ i x, l[i]? = some x → ∃ q f, o = some ⟨q, f, none⟩ ∧ w2.cell? ⟨q, f + i, none⟩ = some (.int .i64 x) := fun i x hx => by
    have hi := (List.getElem?_eq_some_iff.1 hx).1
    cases o with
    | none => have := hl2.nil rfl; have := hl2.len; omega
    | some a => obtain ⟨q, f, rfl⟩ := hl2.pl a rfl; exact ⟨q, f, rfl, hl2.k q f rfl i x hx⟩
  have hlen := hl2.len
  gi_wp2_with fail
  gi_loopw [7, 20] (fun _ i wr => ∃ k : Nat, i = .int .i64 k ∧ k ≤ pn ∧ wr = w2 ∧ Hid (∀ x ∈ l.take k, 0 ≤ x)) (fun _ i _ => pn - (intOf i).toNat)
  case atStart => exact ⟨0, rfl, Nat.zero_le _, rfl, (show ∀ x ∈ l.take 0, (0 : Int) ≤ x by simp)⟩
  case round =>
    obtain ⟨k, rfl, hk, rfl, hfi⟩ := hrel
    by_cases hlt : k < pn
    · have hdd : decide ((k : Int) < (pn : Int)) = true := by simp; omega
      have hkl : k < l.length := by omega
      obtain ⟨x, hx⟩ : ∃ x, l[k]? = some x := ⟨_, List.getElem?_eq_getElem hkl⟩
      obtain ⟨q, f, rfl, hq⟩ := hcell k x hx
      have i1 : (0 : Int) ≤ (k : Int) := by omega
      have i2 : (k : Int) < (pn : Int) := by omega
      have htk : l.take (k + 1) = l.take k ++ [x] := by rw [List.take_add_one, hx]; rfl
      by_cases hx0 : x < 0
      · have hdx : decide (x < 0) = true := by simpa using hx0
        clear hcell htk
        gi_wp2_with fail
        exact ⟨_, results_tmp2 rfl _ _ _, rfl, hG2⟩
      · have hdx : decide (x < 0) = false := by simpa using hx0
        have HT : Hid (∀ y ∈ l.take (k + 1), (0 : Int) ≤ y) := (by
          show ∀ y ∈ l.take (k + 1), (0 : Int) ≤ y
          rw [htk]
          intro y hy
          rcases List.mem_append.1 hy with hy | hy
          · exact hfi.out y hy
          · simp at hy; omega)
        clear htk
        gi_wp2
        go_roundw
        case rel => exact ⟨k + 1, by go_num, by omega, by first | trivial | rfl, HT⟩
        case measure => simp [intOf]; omega
    · exfalso
      obtain rfl : k = pn := by omega
      have := hfi.out
      rw [List.take_of_length_le (by omega)] at this
      exact HN.out this
end
end Go.Proofs.Ytgkeflgfnagnjaa

/-
  The program's New, Copy, Crash, in the document's words.
-/
namespace Go.Proofs.Ytgkeflgfnagnjaa
open Go.RowKit Go.Maps Go.WideMaps Go.Sort Go.Shelf
set_option linter.unusedVariables false
set_option maxRecDepth 100000

section
variable {w w' : World} {b m base : Nat} {fs fs' : List (Int × Int)} {st st' : Int} {n i i' : Nat} {D : DataW Unit} {X : Nat → Fm} {B : Nat → List UInt8} {T T' : Nat → Prop} {L : List Rf}

/-- What is new from here on. -/
def Nw (w w' : World) : Nat → Prop := fun k => w.heap.size ≤ k ∧ k < w'.heap.size
theorem Ds.fresh {w0 : World} (h : @Ds ⟨T⟩ w b m fs st n D) (hb : w0.heap.size ≤ b) : @Ds ⟨Nw w0 w⟩ w b m fs st n D := by
  obtain ⟨⟨fo, fn, fc, a1, a2, a3⟩, a4⟩ := h
  refine @Ds.mk ⟨Nw w0 w⟩ _ _ _ _ _ _ _ ⟨fo, fn, fc, a1, a2, fun a e => ?_⟩ a4
  obtain ⟨h1, h2, ⟨h3, h4⟩, h5⟩ := a3 a e
  exact ⟨h1, h2, ⟨h3, ⟨by omega, h5.ty.lt⟩⟩, h5⟩
/-- New. -/
theorem new_p {o : Option Addr} {k c : Nat} {l : List (Int × Int)} (hf : Ft w o k c l) (hn : k ≤ 100) (hob : ∀ a, o = some a → a.block < w.heap.size) :
    Calls Try.prog 31 #[.slice o k c] w fun e w' => (fw l = false ∧ e = .returned (.tuple #[.pointer none, .int .i64 2]) ∧ w.grownBy w' none) ∨ (fw l = true ∧ ∃ b, e = .returned (.tuple #[.pointer (some ⟨b, 0, none⟩), .int .i64 0]) ∧ Pv w' (Nw w w') b [] l 0 0 ∧ w.grownBy w' none) := by
  letI FO : Inhabited (Nat → Prop) := ⟨fun k => w.heap.size ≤ k⟩
  refine (new_any (fun q hq => hq) hf (by omega) hob).mono ?_
  rintro e w2 (⟨h0, rfl, hg⟩ | ⟨h0, rfl, hd, hg⟩)
  · exact .inl ⟨h0, rfl, hg⟩
  · refine .inr ⟨h0, _, rfl, ?_, hg⟩
    have hl := hf.len
    have hdl : w.heap.size + 1 < w2.heap.size := by
      obtain ⟨fo, fn, fc, hd1, _⟩ := hd.ex
      exact hd1.lt
    letI FO : Inhabited (Nat → Prop) := ⟨Nw w w2⟩
    have hd2 := hd.fresh (w0 := w) (by omega)
    have hI := Iv.new hd2 (by omega) (Nat.zero_le _) (Nat.zero_le _) (Nat.zero_le _)
    refine ⟨⟨_, _, _, _, _, hI, fun s => at_none s, ⟨Nat.le_refl _, by omega⟩, fun s g hg => ?_⟩, by simp [Srt], ⟨by omega, hdl⟩, fun k hk => hk.2⟩
    have := at_has hg
    simp [has_eq] at this
theorem size_keys (h : Mp w m n D) : Maps.size D = (strKeys D).length := by
  obtain ⟨es, rfl, _, _⟩ := h.entries (string_keyed Try.underlying9)
  rw [size_eq]
  simp [strKeys]
theorem no_at {s : ByteArray} (h : Maps.has D (.string s.data.toList) = false) : at? D s none := by
  unfold at?
  exact atKey_of_not_has h .nil
theorem at_no {s : ByteArray} (hz : Nz D) (h : at? D s none) : Maps.has D (.string s.data.toList) = false := by
  cases hh : Maps.has D (.string s.data.toList) with
  | false => rfl
  | true =>
    obtain ⟨g, hg⟩ := at_of_has hz hh
    have := at_one h hg.1
    cases this
/-- A disk made anew whose files are told by name. -/
theorem Pv.make {D' : DataW Unit} {nb nm n' base : Nat} {w0 : World} (hd : @Ds ⟨T⟩ w' nb nm fs st n' D') (hb0 : w0.heap.size ≤ nb) (hm0 : w0.heap.size ≤ nm) (hbb : nb < base) (hz : Nz D') (hn' : n' ≤ i) (h0 : 0 ≤ st) (h1 : st ≤ i) (hfl : fs.length ≤ 100 + 100 * i) (hso : Srt L) (hLl : L.length ≤ i) (hLw : ∀ f ∈ L, f.la ≤ f.bs.length ∧ f.bs.length ≤ 3000 * i ∧ nameB f.s = true)
    (hno : ∀ s, lk L s = none → at? D' s none)
    (hyes : ∀ s f, lk L s = some f → ∃ g bo bc, at? D' s (some g) ∧ base ≤ g ∧ Fl w' g bo f.bs.length bc (f.la : Int) f.th f.nl ∧ Ow w' base 5 bo f.bs.length bc f.bs)
    (hinj : ∀ s s' g, at? D' s (some g) → at? D' s' (some g) → s = s')
    (hap : ∀ s s' g g' bo k c bo' k' c' q, at? D' s (some g) → at? D' s' (some g') → w'.cell? ⟨g, 0, none⟩ = some (.slice bo k c) → w'.cell? ⟨g', 0, none⟩ = some (.slice bo' k' c') → blk bo = some q → blk bo' = some q → g = g') : Pv w' (Nw w0 w') nb L fs st i := by
  have hex : ∀ g, ∃ x : Fm × List UInt8, ∀ s, at? D' s (some g) → ∃ f, lk L s = some f ∧ base ≤ g ∧ FlX w' g x.1 ∧ Ow w' base 5 x.1.bo x.1.bn x.1.bc x.2 ∧ x.1.bn = f.bs.length ∧ x.1.la = (f.la : Int) ∧ x.1.th = f.th ∧ x.1.nl = f.nl ∧ x.2 = f.bs := fun g => by
    by_cases hx : ∃ s, at? D' s (some g)
    · obtain ⟨s, hs⟩ := hx
      cases hl : lk L s with
      | none => have := at_one hs (hno s hl); cases this
      | some f =>
        obtain ⟨g', bo, bc, k1, k2, k3, k4⟩ := hyes s f hl
        obtain rfl : g = g' := by simpa using at_one hs k1
        refine ⟨(⟨bo, f.bs.length, bc, (f.la : Int), f.th, f.nl⟩, f.bs), fun s' hs' => ?_⟩
        obtain rfl := hinj s s' g hs hs'
        exact ⟨f, hl, k2, k3, k4, rfl, rfl, rfl, rfl, rfl⟩
    · exact ⟨(⟨none, 0, 0, 0, true, false⟩, []), fun s hs => absurd ⟨s, hs⟩ hx⟩
  obtain ⟨Y, hY⟩ := Classical.skolem.1 hex
  have hmp : Mp w' nm n' D' := @Ds.mp ⟨T⟩ _ _ _ _ _ _ _ hd
  have hbl : nb < w'.heap.size := by
    obtain ⟨fo, fn, fc, hd1, _⟩ := @Ds.ex ⟨T⟩ _ _ _ _ _ _ _ hd
    exact hd1.lt
  letI FO : Inhabited (Nat → Prop) := ⟨Nw w0 w'⟩
  have hd2 := hd.fresh (w0 := w0) hb0
  have hlt : w0.heap.size ≤ base := by omega
  have hM : ∀ s, Mt D' (fun g => (Y g).1) (fun g => (Y g).2) s (lk L s) := fun s => by
    cases hl : lk L s with
    | none => exact hno s hl
    | some f =>
      obtain ⟨g, bo, bc, k1, _⟩ := hyes s f hl
      obtain ⟨f2, r0, _, _, _, r1, r2, r3, r4, r5⟩ := hY g s k1
      rw [hl] at r0
      cases r0
      exact ⟨g, k1, r1, r2, r3, r4, r5⟩
  have hsz : Maps.size D' ≤ i := by
    have h9 := congrArg List.length (keys_sorted hmp hz hM hso (List.Perm.refl (strKeys D')))
    rw [List.length_mergeSort, List.length_map] at h9
    rw [size_keys hmp]
    omega
  have hI : Iv w' nb nm 0 fs st n' D' (fun g => (Y g).1) (fun g => (Y g).2) i :=
    ⟨hd2, h0, h1, fun s g hg => by obtain ⟨f, _, _, q, _⟩ := hY g s hg; exact q,
     fun s g hg => by obtain ⟨f, _, _, _, q, _⟩ := hY g s hg; exact q.rebase (Nat.zero_le _),
     fun s g hg => by
      obtain ⟨f, q0, _, _, _, q1, q2, _⟩ := hY g s hg
      have := hLw f (lk_mem q0)
      exact ⟨f.la, q2, by simp only [q1]; omega, by simp only [q1]; omega⟩,
     hinj, fun s g hg => by obtain ⟨f, _, q, _⟩ := hY g s hg; omega,
     fun s g hg e => by obtain ⟨f, _, _, _, q, _⟩ := hY g s hg; have := (q.from_base nb e).1; omega,
     fun s g hg => Nat.zero_le _,
     fun s s' g g' q hg hg' e1 e2 => by
      obtain ⟨f, _, _, q1, _⟩ := hY g s hg
      obtain ⟨f', _, _, q2, _⟩ := hY g' s' hg'
      exact hap s s' g g' _ _ _ _ _ _ q hg hg' q1.c0 q2.c0 e1 e2,
     hz, hsz, hn', Nat.zero_le _, Nat.zero_le _, Nat.zero_le _, hfl,
     fun s g hg => by obtain ⟨f, q0, _⟩ := hY g s hg; have := (hLw f (lk_mem q0)).2.2; rwa [lk_name q0] at this⟩
  exact ⟨⟨nm, n', D', _, _, hI, hM, ⟨hm0, hmp.lt⟩, fun s g hg => by
    obtain ⟨f, _, q0, q1, q2, _⟩ := hY g s hg
    exact ⟨⟨by omega, q1.lt⟩, fun q hq => ⟨by have := (q2.from_base q hq).1; omega, (q2.from_base q hq).2⟩⟩⟩, hso, ⟨hb0, hbl⟩, fun k hk => hk.2⟩
/-- Copy. -/
theorem copy_p (h : Pv w T b L fs st i) (hi : i ≤ 300) : Calls Try.prog 53 #[.pointer (some ⟨b, 0, none⟩)] w fun e w' => ∃ nb, e = .returned (.pointer (some ⟨nb, 0, none⟩)) ∧ Pv w' (Nw w w') nb L fs st i ∧ w.grownBy w' none := by
  have hlw := h.lw
  obtain ⟨m, n, D, X, B, hI, hM, tm, tg⟩ := h.ex
  have hI' := Iv.owner (T' := fun k => T k ∨ w.heap.size ≤ k) hI (fun k hk _ => .inl hk)
  clear hI
  letI FO : Inhabited (Nat → Prop) := ⟨fun k => T k ∨ w.heap.size ≤ k⟩
  have hI := hI'
  have hsz := hI.sz
  have hfl := hI.fsl
  refine (copy_any (fun q hq => (Or.inr hq : T q ∨ w.heap.size ≤ q)) hI.ds (by omega) X B (hI.fb hi) (by omega)).mono ?_
  rintro e w2 ⟨nb, rfl, nm, ba, n', D', hd, l1, l2, l3, hg, hC⟩
  refine ⟨nb, rfl, Pv.make (base := ba) hd (by omega) l1 l3 hC.nz (by have := hC.cnt; omega) hI.st0 hI.st1 hfl h.so hlw.len hlw.fl (fun s hs => ?_) (fun s f hs => ?_) hC.inj hC.ap, hg⟩
  · refine no_at ?_
    rw [hC.has, at_no hI.nz ((hM s).at_none hs)]
    rfl
  · obtain ⟨g, hg2, r1, r2, r3, r4, r5⟩ := (hM s).at_some hs
    obtain ⟨g', bo', bc', k1, k2, k3, k4⟩ := hC.fl s g hg2 rfl
    unfold FlX at k3
    simp only at k3
    rw [r1, r2, r3, r4] at k3
    rw [r1, r5] at k4
    exact ⟨g', bo', bc', k1, k2, k3, k4⟩
/-- Crash. -/
theorem crash_p (h : Pv w T b L fs st i) (hi : i ≤ 300) (hgd : Gd L) (o : Option Addr) (pn pc : Nat) (l : List Int) (hl : Is' w o pn pc l) (hb : ∀ a, o = some a → a.block < w.heap.size) (hpos : ∀ x ∈ l, 0 ≤ x ∧ x < 9223372036854775808) (hpn : pn ≤ 4611686018427387904) :
    Calls Try.prog 27 #[.pointer (some ⟨b, 0, none⟩), .agg #[.slice o pn pc]] w fun e w' => ∃ nb, e = .returned (.tuple #[.pointer (some ⟨nb, 0, none⟩), .int .i64 0]) ∧ Pv w' (Nw w w') nb (cgs l L).2 [] 0 i ∧ w.grownBy w' none := by
  have hlw := h.lw
  letI FO : Inhabited (Nat → Prop) := ⟨T⟩
  obtain ⟨m, n, D, X, B, hI, hM, tm, tg⟩ := h.ex
  have hsz := hI.sz
  refine (crash_any hI.ds (toldX D X) (fun s => B (blkOf D s)) (hI.filesB (by omega)) (by omega) o pn pc l hl hb hpos hpn).mono ?_
  rintro e w2 ⟨ss, nb, nm, n', ba, D', hp, rfl, hd, hn', hK, l1, l2, l3, l4, hg⟩
  have hss : ss.length = L.length := by have := congrArg List.length (keys_sorted hI.ds.mp hI.nz hM h.so hp); rwa [List.length_mergeSort, List.length_map] at this
  rw [sorted_told hI.ds.mp hI.nz hM h.so hp, ← hl.len] at hK
  have hC := cg_crash l h.so hgd
  have hz : Nz D' := hK.1
  have hmb : w.heap.size ≤ nm := l4.2
  have hinj : ∀ s s' g, at? D' s (some g) → at? D' s' (some g) → s = s' := fun s s' g h1 h2 => by
    obtain ⟨z, bo, bc, _, ⟨_, k2⟩, _⟩ := hK.at h1
    by_cases e : s' = s
    · exact e.symm
    · exact absurd rfl (k2 s' g h2 e).1
  have hlk : ∀ s z, (crashF l l.length (L.map Rf.td)).1 s = some z → ∃ f, lk L s = some f ∧ z ≤ f.bs.length ∧ lk (cgs l L).2 s = some ⟨s, f.bs.take z, z, true, true⟩ ∧ B (blkOf D s) = f.bs := fun s z hs => by
    obtain ⟨f, f1, f2, f3⟩ := hC.yes s z hs
    obtain ⟨g, hg2, _, _, _, _, r5⟩ := (hM s).at_some f1
    exact ⟨f, f1, f2, f3, by rw [blkOf_at hg2]; exact r5⟩
  refine ⟨nb, rfl, Pv.make (base := ba) hd l1 hmb l3 hz (by have := hlw.len; omega) (Int.le_refl _) (by omega) (by simp) (hC.srt h.so) (by have := (cgs_len l L).2; have := hlw.len; omega) (fun f hf => ?_) (fun s hs => ?_) (fun s f hs => ?_) hinj (fun s s' g g' bo k c bo' k' c' q h1 h2 e1 e2 b1 b2 => ?_), hg⟩
  · have h1 := (hC.srt h.so).lk_of hf
    cases hk : (crashF l l.length (L.map Rf.td)).1 f.s with
    | none => rw [hC.no _ hk] at h1; cases h1
    | some z =>
      obtain ⟨g, g1, g2, g3, _⟩ := hlk _ z hk
      rw [g3] at h1
      have e9 : (⟨f.s, g.bs.take z, z, true, true⟩ : Rf) = f := by simpa using h1
      have hgl := hlw.fl g (lk_mem g1)
      rw [lk_name g1] at hgl
      rw [← e9]
      exact ⟨by simp; omega, by simp; omega, hgl.2.2⟩
  · cases hk : (crashF l l.length (L.map Rf.td)).1 s with
    | none => exact (hK.2 s).1 hk
    | some z => obtain ⟨g, g1, g2, g3, _⟩ := hlk _ z hk; rw [g3] at hs; cases hs
  · cases hk : (crashF l l.length (L.map Rf.td)).1 s with
    | none => rw [hC.no _ hk] at hs; cases hs
    | some z =>
      obtain ⟨f0, f1, f2, f3, f4⟩ := hlk _ z hk
      rw [f3] at hs
      cases hs
      obtain ⟨g, bo, bc, k1, k2, k3, k4⟩ := (hK.2 s).2 z hk
      have hlen : (f0.bs.take z).length = z := by simp; omega
      simp only [hlen]
      dsimp only at k4
      rw [f4] at k4
      exact ⟨g, bo, bc, k2, k1.1, k3, k4⟩
  · by_cases e : s = s'
    · subst e
      simpa using at_one h1 h2
    · exfalso
      obtain ⟨z, bo1, bc1, _, ⟨_, k2⟩, k3, _⟩ := hK.at h2
      rw [k3.c0] at e2
      cases e2
      exact (k2 s g h1 e).2 bo k c q e1 b1 b2
end
end Go.Proofs.Ytgkeflgfnagnjaa

/-
  The program's Read, File, Feed, in the document's words.
-/
namespace Go.Proofs.Ytgkeflgfnagnjaa
open Go.RowKit Go.Maps Go.WideMaps
set_option linter.unusedVariables false
set_option maxRecDepth 100000

section
variable {w w' : World} {b m base : Nat} {fs fs' : List (Int × Int)} {st st' : Int} {n i i' : Nat} {D : DataW Unit} {X : Nat → Fm} {B : Nat → List UInt8} {T T' : Nat → Prop} {L : List Rf} {s : ByteArray}

set_option maxRecDepth 100000 in
set_option maxHeartbeats 1000000 in
theorem read_out {g bn bc : Nat} {bo : Option Addr} {la : Int} {nl : Bool} (hfi : Calls Try.prog 60 #[.pointer (some ⟨b, 0, none⟩), .string s] w fun e w' => e = .returned (.tuple #[.pointer (some ⟨g, 0, none⟩), .int .i64 0]) ∧ w' = w) (hf : Fl w g bo bn bc la true nl) (a k : Int) (hr : readC bn a k = true) :
    Calls Try.prog 57 #[.pointer (some ⟨b, 0, none⟩), .string s, .int .i64 a, .int .i64 k] w fun e w' => e = .returned (.tuple #[.slice none 0 0, .int .i64 4]) ∧ w' = w := by
  have k0 := hf.c0
  unfold readC at hr
  clear hf
  cases d0 : decide (a < 0) with
  | true =>
    clear hr
    go_enter Try.func57, Try.ntmps57
    go_wp2_with fail
    refine hfi.mono ?_
    rintro e w1 ⟨rfl, rfl⟩
    go_wp2
    go_ret2
    exact ⟨rfl, rfl⟩
  | false =>
    cases d1 : decide ((bn : Int) < a) with
    | true =>
      clear hr
      go_enter Try.func57, Try.ntmps57
      go_wp2_with fail
      refine hfi.mono ?_
      rintro e w1 ⟨rfl, rfl⟩
      go_wp2
      go_ret2
      exact ⟨rfl, rfl⟩
    | false =>
      rw [d0, d1] at hr
      have d2 : decide (k < 0) = true := by simpa using hr
      clear hr
      go_enter Try.func57, Try.ntmps57
      go_wp2_with fail
      refine hfi.mono ?_
      rintro e w1 ⟨rfl, rfl⟩
      go_wp2
      go_ret2
      exact ⟨rfl, rfl⟩
set_option maxRecDepth 100000 in
set_option maxHeartbeats 1000000 in
theorem read_nil {g : Nat} {la : Int} {nl : Bool} (hfi : Calls Try.prog 60 #[.pointer (some ⟨b, 0, none⟩), .string s] w fun e w' => e = .returned (.tuple #[.pointer (some ⟨g, 0, none⟩), .int .i64 0]) ∧ w' = w) (hf : Fl w g none 0 0 la true nl) (k : Nat) (hk : k ≤ 9223372036854775807) :
    Calls Try.prog 57 #[.pointer (some ⟨b, 0, none⟩), .string s, .int .i64 0, .int .i64 k] w fun e w' => ∃ ao' cap', e = .returned (.tuple #[.slice ao' 0 cap', .int .i64 0]) ∧ Ow w' w.heap.size 5 ao' 0 cap' [] ∧ w.grownBy w' none := by
  have k0 := hf.c0
  have d3 : decide ((k : Int) < 0) = false := by simp
  have m0 : min (k : Int) 0 = 0 := by omega
  have hB := Bs.empty w
  clear hf
  go_enter Try.func57, Try.ntmps57
  go_wp2_with fail
  refine hfi.mono ?_
  clear hfi
  rintro e w1 ⟨rfl, rfl⟩
  go_wp2_with fail
  refine (clone_any _ _ _ _ _ hB (by omega)).mono ?_
  rintro e w2 ⟨ao', cap', rfl, ho, hg2⟩
  go_wp2
  go_ret2
  exact ⟨ao', cap', rfl, ho, hg2⟩
set_option maxRecDepth 100000 in
set_option maxHeartbeats 1000000 in
theorem read_in {g q o bn bc : Nat} {la : Int} {nl : Bool} (hfi : Calls Try.prog 60 #[.pointer (some ⟨b, 0, none⟩), .string s] w fun e w' => e = .returned (.tuple #[.pointer (some ⟨g, 0, none⟩), .int .i64 0]) ∧ w' = w) (hf : Fl w g (some ⟨q, o, none⟩) bn bc la true nl) (l : List UInt8) (hb : Bs w (some ⟨q, o, none⟩) bn bc l) (hsz : bn ≤ 140737488355328)
    (i k : Nat) (hi : i ≤ bn) (hk : k ≤ 9223372036854775807) :
    Calls Try.prog 57 #[.pointer (some ⟨b, 0, none⟩), .string s, .int .i64 i, .int .i64 k] w fun e w' => ∃ ao' cap', e = .returned (.tuple #[.slice ao' (min k (bn - i)) cap', .int .i64 0]) ∧ Ow w' w.heap.size 5 ao' (min k (bn - i)) cap' ((l.drop i).take k) ∧ w.grownBy w' none := by
  have k0 := hf.c0
  have hlen := hb.len
  have hroom := hb.room
  have htop := hb.top
  unfold maxLen at htop
  obtain ⟨c, hc⟩ : ∃ c, c = min k (bn - i) := ⟨_, rfl⟩
  have hcI : min (k : Int) ((bn : Int) - (i : Int)) = (c : Int) := by omega
  have d1 : decide ((i : Int) < 0) = false := by simp
  have d2 : decide ((bn : Int) < (i : Int)) = false := by simp; omega
  have d3 : decide ((k : Int) < 0) = false := by simp
  have b1 : (0 : Int) ≤ (i : Int) := by omega
  have b2 : (i : Int) ≤ (i : Int) + (c : Int) := by omega
  have b3 : (i : Int) + (c : Int) ≤ (bc : Int) := by omega
  rw [← hc]
  have hwd : IntKind.i64.wrap ((i : Int) + (c : Int)) = (i : Int) + (c : Int) := by rw [IntWalk.i64_in _ (by omega)]
  clear hf
  have hl : (l.drop i).take c = (l.drop i).take k := by
    rcases Nat.le_total k (bn - i) with h9 | h9
    · rw [show c = k by omega]
    · rw [List.take_of_length_le (by simp; omega), List.take_of_length_le (by simp; omega)]
  by_cases hic : i = bc
  · obtain rfl : bn = bc := by omega
    subst hic
    obtain rfl : c = 0 := by omega
    have hB := (hb.drop i (Nat.le_refl _) o (.inl (by omega))).take 0 (Nat.zero_le _)
    rw [Nat.sub_self, hl] at hB
    have m0 : min (k : Int) 0 = 0 := by omega
    clear hb hl hc
    go_enter Try.func57, Try.ntmps57
    go_wp2_with fail
    refine hfi.mono ?_
    clear hfi
    rintro e w1 ⟨rfl, rfl⟩
    go_wp2_with fail
    refine (clone_any _ _ _ _ _ hB (by omega)).mono ?_
    rintro e w2 ⟨ao', cap', rfl, ho, hg2⟩
    go_wp2
    go_ret2
    exact ⟨ao', cap', rfl, ho, hg2⟩
  · have hB := (hb.drop i hi (o + i) (.inr rfl)).take c (by omega)
    rw [hl] at hB
    have hic2 : i < bc := by omega
    have hic3 : (i : Int) < (bc : Int) := by omega
    clear hb hl hc hic
    go_enter Try.func57, Try.ntmps57
    go_wp2_with fail
    refine hfi.mono ?_
    clear hfi
    rintro e w1 ⟨rfl, rfl⟩
    go_wp2_with fail
    refine (clone_any _ _ _ _ _ hB (by omega)).mono ?_
    rintro e w2 ⟨ao', cap', rfl, ho, hg2⟩
    go_wp2
    go_ret2
    exact ⟨ao', cap', rfl, ho, hg2⟩
/-- What Read answers: the bytes and the error. -/
def readL (L : List Rf) (s : ByteArray) (a k : Int) : List UInt8 × Int :=
  if (findR L s).2 ≠ 0 then ([], (findR L s).2) else match lk L s with
    | none => ([], 4)
    | some f => if readC f.bs.length a k = true then ([], 4) else ((f.bs.drop a.toNat).take k.toNat, 0)
theorem find_or (L : List Rf) (s : ByteArray) : (findR L s).2 ≠ 0 ∨ ∃ j f, Hit L s j f ∧ lk L s = some f ∧ (findR L s).2 = 0 := by
  unfold findR
  cases hs : nameB s with
  | false => left; simp
  | true =>
    rw [if_neg (by simp)]
    cases ha : atN L s with
    | none => left; simp
    | some j =>
      obtain ⟨f, hf, hfs⟩ := atN_some ha
      simp only [hf, Option.map_some]
      by_cases ht : f.th = true
      · right
        exact ⟨j, f, ⟨hs, ha, hf, ht⟩, by rw [lk_atN ha]; exact hf, by simp [ht]⟩
      · left
        rw [if_neg (by simpa using ht)]
        simp
/-- Read. -/
theorem read_p (h : Pv w T b L fs st i) (hi : i ≤ 300) (s : ByteArray) (a k : Int) (hk : k ≤ 9223372036854775807) :
    Calls Try.prog 57 #[.pointer (some ⟨b, 0, none⟩), .string s, .int .i64 a, .int .i64 k] w fun e w' => ∃ ao nn cap, e = .returned (.tuple #[.slice ao nn cap, .int .i64 (readL L s a k).2]) ∧ Ow w' w.heap.size 5 ao nn cap (readL L s a k).1 ∧ w.grownBy w' none := by
  rcases find_or L s with hc | ⟨j, f, hh, hlk, hc⟩
  · have hR : readL L s a k = ([], (findR L s).2) := by unfold readL; rw [if_pos hc]
    rw [hR]
    refine (read_lost (h.lost s hc) a k).mono ?_
    rintro e w2 ⟨rfl, rfl⟩
    exact ⟨none, 0, 0, rfl, Ow.nil _ _ _, grown_refl _ _⟩
  · have hR : readL L s a k = if readC f.bs.length a k = true then ([], 4) else ((f.bs.drop a.toNat).take k.toNat, 0) := by unfold readL; rw [if_neg (by simp [hc]), hlk]
    rw [hR]
    letI FO : Inhabited (Nat → Prop) := ⟨T⟩
    obtain ⟨m, n, D, X, B, hI, hM, tm, tg⟩ := h.ex
    obtain ⟨g, bo, bc, hg, hX, hB, hf, hla, hbn, ho, hbb, hbg, hne⟩ := Iv.hit hI hM hh
    have hfi := find_ds s g hI.ds hh.nm hg hf
    cases hr : readC f.bs.length a k with
    | true =>
      simp only [if_true]
      refine (read_out hfi hf a k hr).mono ?_
      rintro e w2 ⟨rfl, rfl⟩
      exact ⟨none, 0, 0, rfl, Ow.nil _ _ _, grown_refl _ _⟩
    | false =>
      rw [if_neg (by simp)]
      unfold readC at hr
      simp only [Bool.or_eq_false_iff, decide_eq_false_iff_not] at hr
      obtain ⟨a1, a2, a3⟩ := hr
      obtain ⟨a', rfl⟩ : ∃ a' : Nat, a = a' := ⟨a.toNat, by omega⟩
      obtain ⟨k', rfl⟩ : ∃ k' : Nat, k = k' := ⟨k.toNat, by omega⟩
      simp only [Int.toNat_natCast]
      rcases ho.row.2 with ⟨h4, h5⟩ | ⟨q, c, cs, h4, _⟩
      · injection h4 with e1 e2 e3
        subst e1
        subst e3
        obtain rfl : a' = 0 := by omega
        rw [h5] at hf
        have e9 : f.bs = [] := List.length_eq_zero_iff.1 h5
        rw [e9]
        refine (read_nil hfi hf k' (by omega)).mono ?_
        rintro e w2 ⟨ao, cap, rfl, h1, h2⟩
        exact ⟨ao, 0, cap, rfl, by simpa using h1, h2⟩
      · injection h4 with e1 e2 e3
        subst e1
        refine (read_in hfi hf f.bs ho.shows (by omega) a' k' (by omega) (by omega)).mono ?_
        rintro e w2 ⟨ao, cap, rfl, h1, h2⟩
        exact ⟨ao, _, cap, rfl, h1, h2⟩
set_option maxRecDepth 100000 in
theorem file_not (fe : Int) (hfe : fe = 2 ∨ fe = 171) (hk : ∀ W, w.grownBy W none → Calls Try.prog 58 #[.pointer (some ⟨b, 0, none⟩), .string s] W fun e w' => e = .returned (.tuple #[.pointer none, .int .i64 fe]) ∧ w' = W) : Calls Try.prog 74 #[.pointer (some ⟨b, 0, none⟩), .string s] w fun e w' => e = .returned (.tuple #[toldV ⟨#[]⟩ 0 0 false false, .int .i64 fe]) ∧ w.grownBy w' none := by
  have hga := alloc_grown w (.cells #[.string ⟨#[]⟩, .int .i64 0, .int .i64 0, .bool false, .bool false] 102)
  have hka := World.alloc_heap_new w (.cells #[.string ⟨#[]⟩, .int .i64 0, .int .i64 0, .bool false, .bool false] 102)
  have hkn := hk _ hga
  have HK : Hid _ := hka
  clear hk hka
  unfold toldV
  rcases hfe with rfl | rfl <;>
  · go_enter Try.func74, Try.ntmps74
    go_wp2_with fail
    refine hkn.mono ?_
    rintro e w1 ⟨rfl, hw1⟩
    subst hw1
    go_wp2
    have kk := HK.out
    generalize w.alloc (.cells #[.string ⟨#[]⟩, .int .i64 0, .int .i64 0, .bool false, .bool false] 102) = W at *
    have u0 := cell_of (i := 0) (v := .string ⟨#[]⟩) kk rfl
    have u1 := cell_of (i := 1) (v := .int .i64 0) kk rfl
    have u2 := cell_of (i := 2) (v := .int .i64 0) kk rfl
    have u3 := cell_of (i := 3) (v := .bool false) kk rfl
    have u4 := cell_of (i := 4) (v := .bool false) kk rfl
    first
      | exact bodyPost_ret (v := .tuple #[toldV ⟨#[]⟩ 0 0 false false, .int .i64 2]) (by simp [results, Try.results74, go_sem, u0, u1, u2, u3, u4, toldV]) rfl ⟨rfl, hga⟩
      | exact bodyPost_ret (v := .tuple #[toldV ⟨#[]⟩ 0 0 false false, .int .i64 171]) (by simp [results, Try.results74, go_sem, u0, u1, u2, u3, u4, toldV]) rfl ⟨rfl, hga⟩
/-- File. -/
theorem file_p (h : Pv w T b L fs st i) (s : ByteArray) : Calls Try.prog 74 #[.pointer (some ⟨b, 0, none⟩), .string s] w fun e w' => e = .returned (.tuple #[(fileR L s).1, .int .i64 (fileR L s).2]) ∧ w.grownBy w' none := by
  letI FO : Inhabited (Nat → Prop) := ⟨T⟩
  obtain ⟨m, n, D, X, B, hI, hM, tm, tg⟩ := h.ex
  have hdk : ∀ W, w.grownBy W none → ∃ fo fn fc, Dk W b m fo fn fc st n D := fun W hW => (hI.ds.grown hW).dk
  cases hs : nameB s with
  | false =>
    have hF : fileR L s = (toldV ⟨#[]⟩ 0 0 false false, 2) := by unfold fileR; rw [if_pos hs]
    rw [hF]
    exact file_not 2 (.inl rfl) (fun W hW => by obtain ⟨fo, fn, fc, hd⟩ := hdk W hW; exact known_bad s hd.hd hs)
  | true =>
    cases ha : atN L s with
    | none =>
      have hF : fileR L s = (toldV ⟨#[]⟩ 0 0 false false, 171) := by unfold fileR; rw [if_neg (by simp [hs]), ha]
      rw [hF]
      refine file_not 171 (.inr rfl) (fun W hW => ?_)
      obtain ⟨fo, fn, fc, hd⟩ := hdk W hW
      obtain ⟨g', hg', hk⟩ := known_yes s hd hs
      obtain rfl := at_one ((hM s).at_none (lk_atN_none.1 ha)) hg'
      simpa using hk
    | some j =>
      obtain ⟨f, hf, hfs⟩ := atN_some ha
      have hF : fileR L s = (f.told, 0) := by unfold fileR; rw [if_neg (by simp [hs]), ha]; simp only [hf]
      rw [hF]
      obtain ⟨g, hg, r1, r2, r3, r4, r5⟩ := (hM s).at_some (by rw [lk_atN ha]; exact hf)
      have hfl := hI.fl s g hg
      unfold FlX at hfl
      rw [r1, r2, r3, r4] at hfl
      have := file_at s g hI.ds hs hg hfl
      unfold Rf.told
      rwa [hfs]
end
end Go.Proofs.Ytgkeflgfnagnjaa

/-
  The program's Same, in the document's words.
-/
namespace Go.Proofs.Ytgkeflgfnagnjaa
open Go.RowKit Go.Maps Go.WideMaps Go.Sort Go.Shelf
set_option linter.unusedVariables false
set_option maxRecDepth 100000

section
variable {w w' : World} {b m b' m' : Nat} {fs fs' : List (Int × Int)} {st st' : Int} {n n' i i' : Nat} {D D' : DataW Unit} {X X' : Nat → Fm} {B B' : Nat → List UInt8} {T T' : Nat → Prop} {L K : List Rf} {s : ByteArray}

theorem lk_of_at (hM : ∀ s, Mt D X B s (lk L s)) {g : Nat} (hg : at? D s (some g)) : ∃ f, lk L s = some f ∧ (X g).bn = f.bs.length ∧ (X g).la = (f.la : Int) ∧ (X g).th = f.th ∧ (X g).nl = f.nl ∧ B g = f.bs := by
  cases hl : lk L s with
  | none => have := at_one hg ((hM s).at_none hl); cases this
  | some f =>
    obtain ⟨g', hg', r⟩ := (hM s).at_some hl
    obtain rfl : g = g' := by simpa using at_one hg hg'
    exact ⟨f, rfl, r⟩
theorem key_str (hm : Mp w m n D) {es : List (Lit × DataW Unit)} (hD : D = .map es) {p : Lit × DataW Unit} (hp : p ∈ es) : ∃ s : ByteArray, p.1 = .string s.data.toList := by
  obtain ⟨es', hD', hko⟩ := hm.keysOf
  rw [hD] at hD'
  obtain rfl : es = es' := by simpa using hD'
  obtain ⟨v, hv⟩ := hko p hp
  obtain ⟨x, _, hx, _⟩ := Maps.keyOf_str Try.underlying9 hv
  exact ⟨⟨x.toArray⟩, by simpa using hx⟩
theorem same_iff (hm : Mp w m n D) (hm' : Mp w m' n' D') (hz : Nz D) (hz' : Nz D') (hM : ∀ s, Mt D X B s (lk L s)) (hM' : ∀ s, Mt D' X' B' s (lk K s)) (hso : Srt L) (hso' : Srt K) :
    Lib.equalFuncD (eqdX fun g g' => sameM (X g).th (X' g').th (X g).nl (X' g').nl (X g).la (X' g').la (B g) (B' g')) D D' = true ↔ L = K := by
  have hl : Maps.size D = L.length := by
    have h9 := congrArg List.length (keys_sorted hm hz hM hso (List.Perm.refl (strKeys D)))
    rw [List.length_mergeSort, List.length_map] at h9
    rw [size_keys hm, h9]
  have hl' : Maps.size D' = K.length := by
    have h9 := congrArg List.length (keys_sorted hm' hz' hM' hso' (List.Perm.refl (strKeys D')))
    rw [List.length_mergeSort, List.length_map] at h9
    rw [size_keys hm', h9]
  obtain ⟨es, rfl, hap, hkeys⟩ := hm.entries (string_keyed Try.underlying9)
  have hE : Lib.entriesD (DataW.map es : DataW Unit) = es := rfl
  constructor
  · intro h
    unfold Lib.equalFuncD at h
    rw [Bool.and_eq_true, decide_eq_true_eq, hE, List.all_eq_true] at h
    obtain ⟨hs, hall⟩ := h
    have hin : ∀ f ∈ L, f ∈ K := fun f hf => by
      obtain ⟨g, hg, r1, r2, r3, r4, r5⟩ := (hM f.s).at_some (hso.lk_of hf)
      have hh := at_has hg
      have hp := came_mem hap hkeys (fun zd => (atKey_indep hh zd .nil).trans hg)
      have h1 := hall _ hp
      unfold Lib.goodD at h1
      rw [Bool.and_eq_true] at h1
      obtain ⟨g', hg', _⟩ := at_of_has hz' h1.1
      obtain ⟨f', l1, q1, q2, q3, q4, q5⟩ := lk_of_at hM' hg'
      have h2 := h1.2
      unfold at? at hg'
      rw [hg'] at h2
      simp only [eqdX, sameM, Int.toNat_natCast, Bool.and_eq_true, beq_iff_eq, decide_eq_true_eq] at h2
      have e : f' = f := by
        obtain ⟨s1, b1, a1, t1, n1⟩ := f
        obtain ⟨s2, b2, a2, t2, n2⟩ := f'
        have := lk_name l1
        simp only at *
        obtain ⟨y1, y2, y3, y4⟩ := h2
        have z3 : a2 = a1 := by omega
        have z1 : t2 = t1 := by rw [← q3, ← r3, y1]
        have z2 : n2 = n1 := by rw [← q4, ← r4, y2]
        have z4 : b2 = b1 := by rw [← q5, ← r5, y4]
        subst z1 z2 z3 z4
        rw [this]
      rw [← e]
      exact lk_mem l1
    refine two_lists (lt := fun (f g : Rf) => Ahead f.s g.s) (fun a => Ahead.irrefl _) (fun a b c => Ahead.trans) hso hso' (fun f => ⟨hin f, fun hf => ?_⟩)
    classical
    by_cases hfl : f ∈ L
    · exact hfl
    · exfalso
      have hnd : (f :: L).Pairwise (· ≠ ·) := List.pairwise_cons.2 ⟨fun g hg e => hfl (e ▸ hg), hso.imp (fun {a b} h e => h.ne (by rw [e]))⟩
      have := nodup_le (f :: L) K hnd (fun x hx => by rcases List.mem_cons.1 hx with rfl | hx; exact hf; exact hin x hx)
      simp at this
      omega
  · rintro rfl
    unfold Lib.equalFuncD
    rw [Bool.and_eq_true, decide_eq_true_eq, hE, List.all_eq_true]
    refine ⟨by omega, fun p hp => ?_⟩
    obtain ⟨x, hx⟩ := key_str hm rfl hp
    have hat : (DataW.map es : DataW Unit).atKey p.1 .nil = p.2 := WideAt.atKey_mem .nil (hkeys p hp) hap hp
    have hh := mem_has hkeys (List.mem_map.2 ⟨p, hp, rfl⟩ : p.1 ∈ es.map (·.1))
    rw [hx] at hat hh
    obtain ⟨g, hg, _⟩ := at_of_has hz hh
    obtain ⟨f, l1, q1, q2, q3, q4, q5⟩ := lk_of_at hM hg
    obtain ⟨g', hg', r1, r2, r3, r4, r5⟩ := (hM' x).at_some l1
    have h9 := hg
    unfold at? at h9
    rw [hat] at h9
    unfold Lib.goodD
    rw [hx, at_has hg', Bool.true_and, h9]
    unfold at? at hg'
    rw [hg']
    simp only [eqdX, sameM, Int.toNat_natCast, q2, q3, q4, q5, r2, r3, r4, r5]
    simp
/-- Same. -/
theorem same_p (h : Pv w T b L fs st i) (h' : Pv w T' b' K fs' st' i') : Calls Try.prog 28 #[.pointer (some ⟨b, 0, none⟩), .pointer (some ⟨b', 0, none⟩)] w fun e w' => ∃ r, e = .returned (.bool r) ∧ (r = true ↔ L = K) ∧ w.grownBy w' none := by
  obtain ⟨m, n, D, X, B, hI0, hM, tm, tg⟩ := h.ex
  obtain ⟨m', n', D', X', B', hI0', hM', tm', tg'⟩ := h'.ex
  have hI := Iv.owner (T' := fun k => T k ∨ T' k) hI0 (fun k hk _ => .inl hk)
  have hI' := Iv.owner (T' := fun k => T k ∨ T' k) hI0' (fun k hk _ => .inr hk)
  letI FO : Inhabited (Nat → Prop) := ⟨fun k => T k ∨ T' k⟩
  have heq : ∀ s g1 g2, at? D s (some g1) → at? D' s (some g2) → ∀ W, w.grownBy W none → Calls Try.prog 67 #[.pointer (some ⟨g1, 0, none⟩), .pointer (some ⟨g2, 0, none⟩)] W fun e w' => e = .returned (.bool ((fun g g' => sameM (X g).th (X' g').th (X g).nl (X' g').nl (X g).la (X' g').la (B g) (B' g')) g1 g2)) ∧ W.grownBy w' none := by
    intro s g1 g2 h1 h2 W hW
    have hc := Chg.of_grown hW (fun _ => False)
    exact fsame_any W g1 g2 _ _ _ _ _ _ _ _ _ _ _ _ _ _ ((hI.fl s g1 h1).chg hc (fun e => e)) ((hI'.fl s g2 h2).chg hc (fun e => e)) ((hI.ow s g1 h1).shows.grown hW) ((hI'.ow s g2 h2).shows.grown hW)
  refine (same_ds hI.ds hI'.ds hI.nz hI'.nz _ heq).mono ?_
  rintro e w2 ⟨rfl, hg⟩
  exact ⟨_, rfl, same_iff hI.ds.mp hI'.ds.mp hI.nz hI'.nz hM hM' h.so h'.so, hg⟩
end
end Go.Proofs.Ytgkeflgfnagnjaa
