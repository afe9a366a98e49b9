import Derived.Test.YtgkeflgfnagnjaaZap
/-
  The program's Append, Sync, Cut, Remove, SyncDir, in the document's words.
-/
namespace Go.Proofs.Ytgkeflgfnagnjaa
open Go.RowKit Go.Maps Go.WideMaps
set_option linter.unusedVariables false
set_option maxRecDepth 100000

section
variable {w w' : World} {b m base : Nat} {fs fs' : List (Int × Int)} {st st' : Int} {n i i' : Nat} {D : DataW Unit} {X : Nat → Fm} {B : Nat → List UInt8} {T T' : Nat → Prop} {L : List Rf}

/-- No such file: the document says why. -/
theorem Pv.lost (h : Pv w T b L fs st i) (s : ByteArray) (hc : (findR L s).2 ≠ 0) : Lost w b s (findR L s).2 := by
  letI FO : Inhabited (Nat → Prop) := ⟨T⟩
  obtain ⟨m, n, D, X, B, hI, hM, tm, tg⟩ := h.ex
  unfold findR at hc ⊢
  cases hs : nameB s with
  | false => simpa using lost_bad hI.ds hs
  | true =>
    rw [hs, if_neg (by simp)] at hc
    rw [if_neg (by simp)]
    cases ha : atN L s with
    | none => exact lost_none hI.ds hs ((hM s).at_none (lk_atN_none.1 ha))
    | some j =>
      rw [ha] at hc
      obtain ⟨f, hf, hfs⟩ := atN_some ha
      obtain ⟨g, hg, r1, r2, r3, r4, r5⟩ := (hM s).at_some (by rw [lk_atN ha]; exact hf)
      have hfl := hI.fl s g hg
      simp only [hf, Option.map_some] at hc ⊢
      by_cases ht : f.th = true
      · simp [ht] at hc
      · have ht' : f.th = false := by simpa using ht
        rw [if_neg (by simp [ht'])]
        rcases hX : X g with ⟨bo, bn, bc, la, th, nl⟩
        rw [hX] at hfl r3
        dsimp only at r3
        rw [ht'] at r3
        subst r3
        exact lost_gone hI.ds hs hg hfl
theorem sync_p (h : Pv w T b L fs st i) (hi : i < 300) {s : ByteArray} {j : Nat} {f : Rf} (hh : Hit L s j f) (k : Nat) (hk : (stepR fs ((f.bs.length : Int) - f.la)).1 = (k : Int)) :
    Calls Try.prog 35 #[.pointer (some ⟨b, 0, none⟩), .string s] w fun e w' => e = .returned (.int .i64 (stepR fs ((f.bs.length : Int) - f.la)).2) ∧ Pn w w' T b (L.set j { f with la := f.la + k }) fs.tail (st + 1) (i + 1) := by
  letI FO : Inhabited (Nat → Prop) := ⟨T⟩
  obtain ⟨m, n, D, X, B, hI, hM, tm, tg⟩ := h.ex
  have h0 := hI.st0
  have h1 : st < 4611686018427387904 := by have := hI.st1; omega
  obtain ⟨g, bo, bc, hg, hX, hB, hf, hla, hbn, ho, hbb, hbg, hne⟩ := Iv.hit hI hM hh
  obtain ⟨j2, hj2, hjk⟩ := stepR_le fs (f.bs.length - f.la)
  have hcast : ((f.bs.length - f.la : Nat) : Int) = (f.bs.length : Int) - f.la := by omega
  rw [hcast, hk] at hj2
  obtain rfl : k = j2 := by omega
  refine (sync_at s g hI.ds h0 h1 hh.nm hg hf hne hla (by omega) k hk hjk).mono ?_
  rintro e w2 ⟨rfl, hd, hf', hC⟩
  have hC' : Chg w w2 (fun q => q = b ∨ q = g ∨ blk (X g).bo = some q) := hC.mono (fun q _ e => by rcases e with e | e; exact .inl e; exact .inr (.inl e))
  have hLi : Lies w (X g).bo (⟨bo, f.bs.length, bc, ((f.la + k : Nat) : Int), true, f.nl⟩ : Fm).bo := by rw [hX]; exact fun q hq => .inl hq
  have hI2 := hI.file hg hd ⟨bo, f.bs.length, bc, ((f.la + k : Nat) : Int), true, f.nl⟩ f.bs hf' (ho.beside hC (fun q hq e => by
    rcases e with e | e
    · exact hbb (by rw [hq, e])
    · exact hbg (by rw [hq, e]))) ⟨f.la + k, rfl, by simp only; omega, by simp only; omega⟩ hLi hC'
  exact ⟨rfl, Pn.filed h hM tm tg hI.inj hh hg hI2 ⟨rfl, rfl, hh.th.symm, rfl, rfl⟩ rfl hLi hC'⟩
theorem append_p (h : Pv w T b L fs st i) (hi : i < 300) {s : ByteArray} {j : Nat} {f : Rf} (hh : Hit L s j f) {xo : Option Addr} {k xc : Nat} {x : List UInt8} (hx : Bs w xo k xc x) (hk : k ≤ 3000) (hxT : ∀ a, xo = some a → k = 0 ∨ ¬ T a.block) (y : Nat) (hy : (stepR fs k).1 = (y : Int)) :
    Calls Try.prog 25 #[.pointer (some ⟨b, 0, none⟩), .string s, .slice xo k xc] w fun e w' => e = .returned (.int .i64 (stepR fs k).2) ∧ Pn w w' T b (L.set j { f with bs := f.bs ++ x.take y }) fs.tail (st + 1) (i + 1) := by
  letI FO : Inhabited (Nat → Prop) := ⟨T⟩
  obtain ⟨m, n, D, X, B, hI, hM, tm, tg⟩ := h.ex
  have h0 := hI.st0
  have h1 : st < 4611686018427387904 := by have := hI.st1; omega
  obtain ⟨g, bo, bc, hg, hX, hB, hf, hla, hbn, ho, hbb, hbg, hne⟩ := Iv.hit hI hM hh
  obtain ⟨j2, hj2, hjk⟩ := stepR_le fs k
  rw [hy] at hj2
  obtain rfl : y = j2 := by omega
  have hlen : (x.take y).length = y := by rw [List.length_take, hx.len]; omega
  refine (append_gen s g 0 (Nat.zero_le _) hI.ds h0 h1 hh.nm hg hf hne f.bs ho xo k xc x hx (fun a e => (hxT a e).imp id (fun h9 e2 => h9 (e2 ▸ h.tb))) hbb hbg (by omega) y hy hjk).mono ?_
  rintro e w2 ⟨rfl, bo', bc', hf', ho', hL, hd, hC⟩
  have hC' : Chg w w2 (fun q => q = b ∨ q = g ∨ blk (X g).bo = some q) := by rw [hX]; exact hC
  have hLi : Lies w (X g).bo (⟨bo', f.bs.length + y, bc', (f.la : Int), true, f.nl⟩ : Fm).bo := by rw [hX]; exact hL
  have hI2 := hI.file hg hd ⟨bo', f.bs.length + y, bc', (f.la : Int), true, f.nl⟩ (f.bs ++ x.take y) hf' ho' ⟨f.la, rfl, by simp only; omega, by simp only; omega⟩ hLi hC'
  exact ⟨rfl, Pn.filed h hM tm tg hI.inj hh hg hI2 ⟨by simp [hlen], rfl, hh.th.symm, rfl, rfl⟩ rfl hLi hC'⟩
end
end Go.Proofs.Ytgkeflgfnagnjaa

/-
  The program's Cut, in the document's words.
-/
namespace Go.Proofs.Ytgkeflgfnagnjaa
open Go.RowKit Go.Maps Go.WideMaps
set_option linter.unusedVariables false
set_option maxRecDepth 100000

section
variable {w w' : World} {b m base : Nat} {fs fs' : List (Int × Int)} {st st' : Int} {n i i' : Nat} {D : DataW Unit} {X : Nat → Fm} {B : Nat → List UInt8} {T T' : Nat → Prop} {L : List Rf}

/-- A step that fails. -/
theorem Pn.stepped (h : Pv w T b L fs st i) (hI : @Iv ⟨T⟩ w b m 0 fs st n D X B i) (hM : ∀ s, Mt D X B s (lk L s)) (tm : T m) (tg : ∀ s g, at? D s (some g) → T g ∧ ∀ q, blk (X g).bo = some q → T q) (hd : @Ds ⟨T⟩ w' b m fs.tail (st + 1) n D) (hC : Chg w w' (fun k => k = b)) : Pn w w' T b L fs.tail (st + 1) (i + 1) := by
  letI FO : Inhabited (Nat → Prop) := ⟨T⟩
  have hI2 := hI.step hd hC
  exact Pn.mk (Iv.owner (T := T) hI2 (fun k hk _ => .inl hk)) hM h.so (.inl tm) (fun s g hg => ⟨.inl (tg s g hg).1, fun q hq => .inl ((tg s g hg).2 q hq)⟩) (hC.mono (fun q _ e => by rw [e]; exact h.tb)) h.lt h.tb
theorem remove_p_old (h : Pv w T b L fs st i) (hi : i < 300) {s : ByteArray} {j : Nat} {f : Rf} (hh : Hit L s j f) (hnl : f.nl = true ∨ (stepC fs).1 ≠ 0) :
    Calls Try.prog 39 #[.pointer (some ⟨b, 0, none⟩), .string s] w fun e w' => e = .returned (.int .i64 (stepC fs).1) ∧ Pn w w' T b (if (stepC fs).1 = 0 then rmL L j f else L) fs.tail (st + 1) (i + 1) := by
  letI FO : Inhabited (Nat → Prop) := ⟨T⟩
  obtain ⟨m, n, D, X, B, hI, hM, tm, tg⟩ := h.ex
  have h0 := hI.st0
  have h1 : st < 4611686018427387904 := by have := hI.st1; omega
  obtain ⟨g, bo, bc, hg, hX, hB, hf, hla, hbn, ho, hbb, hbg, hne⟩ := Iv.hit hI hM hh
  rw [stepC_code fs 0] at hnl ⊢
  by_cases hc : (stepR fs 0).2 = 0
  · rw [if_pos hc, hc]
    have hnl' : f.nl = true := hnl.resolve_right (fun e => e hc)
    unfold rmL
    rw [if_pos hnl']
    rw [hnl'] at hf hX
    refine (remove_old s g hI.ds h0 h1 hh.nm hg hf hne hla f.bs ho hc).mono ?_
    rintro e w2 ⟨rfl, hd, hf', hC⟩
    have hC' : Chg w w2 (fun q => q = b ∨ q = g ∨ blk (X g).bo = some q) := hC.mono (fun q _ e => by rcases e with e | e; exact .inl e; exact .inr (.inl e))
    have hLi : Lies w (X g).bo (⟨bo, f.la, bc, (f.la : Int), false, true⟩ : Fm).bo := by rw [hX]; exact fun q hq => .inl hq
    have hI2 := hI.file hg hd ⟨bo, f.la, bc, (f.la : Int), false, true⟩ (f.bs.take f.la) hf' ((ho.take f.la hla).beside hC (fun q hq e => by
      rcases e with e | e
      · exact hbb (by rw [hq, e])
      · exact hbg (by rw [hq, e]))) ⟨f.la, rfl, by simp only; omega, by simp only; omega⟩ hLi hC'
    exact ⟨rfl, Pn.filed h hM tm tg hI.inj hh hg hI2 ⟨by simp; omega, rfl, rfl, rfl, rfl⟩ rfl hLi hC'⟩
  · rw [if_neg hc]
    refine (remove_fail s g hI.ds h0 h1 hh.nm hg hf hc).mono ?_
    rintro e w2 ⟨rfl, hd, hC⟩
    exact ⟨rfl, Pn.stepped h hI hM tm tg hd hC⟩
end
end Go.Proofs.Ytgkeflgfnagnjaa

/-
  The program's Remove of a file whose name does not last.
-/
namespace Go.Proofs.Ytgkeflgfnagnjaa
open Go.RowKit Go.Maps Go.WideMaps
set_option linter.unusedVariables false
set_option maxRecDepth 100000

section
variable {w w' : World} {b m base : Nat} {fs fs' : List (Int × Int)} {st st' : Int} {n i i' : Nat} {D : DataW Unit} {X : Nat → Fm} {B : Nat → List UInt8} {T T' : Nat → Prop} {L : List Rf}

theorem at_del_same (D : DataW Unit) (s : ByteArray) : at? (D.del (.string s.data.toList)) s none := by
  unfold at?
  rw [atKey_del_same]
theorem at_del_other {D : DataW Unit} {s x : ByteArray} {o : Option Nat} (hne : s ≠ x) (h : at? D s o) : at? (D.del (.string x.data.toList)) s o := by
  unfold at? at *
  rw [atKey_del_other]
  · exact h
  · intro e2
    apply hne
    have e1 : s.data.toList = x.data.toList := by simpa using e2
    cases s; cases x
    simp only [ByteArray.mk.injEq]
    exact Array.toList_inj.1 e1
theorem remove_p (h : Pv w T b L fs st i) (hi : i < 300) {s : ByteArray} {j : Nat} {f : Rf} (hh : Hit L s j f) :
    Calls Try.prog 39 #[.pointer (some ⟨b, 0, none⟩), .string s] w fun e w' => e = .returned (.int .i64 (stepC fs).1) ∧ Pn w w' T b (if (stepC fs).1 = 0 then rmL L j f else L) fs.tail (st + 1) (i + 1) := by
  by_cases ho9 : f.nl = true ∨ (stepC fs).1 ≠ 0
  · exact remove_p_old h hi hh ho9
  have hnl : f.nl = false := by simpa using (fun e => ho9 (.inl e) : ¬ f.nl = true)
  have hc0 : (stepC fs).1 = 0 := Decidable.not_not.1 (fun e => ho9 (.inr e))
  letI FO : Inhabited (Nat → Prop) := ⟨T⟩
  obtain ⟨m, n, D, X, B, hI, hM, tm, tg⟩ := h.ex
  have h0 := hI.st0
  have h1 : st < 4611686018427387904 := by have := hI.st1; omega
  obtain ⟨g, bo, bc, hg, hX, hB, hf, hla, hbn, ho, hbb, hbg, hne⟩ := Iv.hit hI hM hh
  have hn : f.s = s := by obtain ⟨f2, h1, h2⟩ := atN_some hh.at'; rw [hh.get] at h1; cases h1; exact h2
  rw [if_pos hc0, hc0]
  have hc : (stepR fs 0).2 = 0 := by rw [← stepC_code fs 0]; exact hc0
  unfold rmL
  rw [if_neg (by simp [hnl])]
  rw [hnl] at hf
  refine (remove_new s g hI.ds h0 h1 hh.nm hg hf hne hc).mono ?_
  rintro e w2 ⟨rfl, hd, hC⟩
  have hI2 : @Iv ⟨T⟩ w2 b m 0 fs.tail (st + 1) n (D.del (.string s.data.toList)) X B (i + 1) := by
    obtain ⟨es, rfl, hap, hkeys⟩ := hI.ds.mp.entries (string_keyed Try.underlying9)
    have hsz := size_del (k := .string s.data.toList) (⟨es, rfl, hap⟩ : Tidy (.map es : DataW Unit))
    exact hI.less _ X (fun g => ⟨rfl, rfl, rfl, rfl⟩) (fun s g hg => at_del hg) hd (hI.nz.del _) (by omega) (fun s g hg => (hI.fl s g (at_del hg)).chg hC (fun e => e.elim (hI.ne s g (at_del hg)) (hI.ds.mp.row (hI.fl s g (at_del hg)).ty))) (hC.mono (fun k _ e => by rcases e with e | e; exact .inl e; exact .inr (.inl e)))
  refine ⟨rfl, Pn.mk (Iv.owner (T := T) hI2 (fun k hk _ => .inl hk)) (fun t => ?_) (h.so.sub (cut_sub L j)) (.inl tm) (fun t g2 h2 => ⟨.inl (tg t g2 (at_del h2)).1, fun q hq => .inl ((tg t g2 (at_del h2)).2 q hq)⟩) (hC.mono (fun q _ e => e.elim (fun e => by rw [e]; exact h.tb) (fun e => by rw [e]; exact tm))) h.lt h.tb⟩
  rw [lk_cut h.so hh.get]
  by_cases et : t = f.s
  · rw [if_pos et, et, hn]
    exact at_del_same D s
  · rw [if_neg et]
    have et2 : t ≠ s := fun e => et (by rw [hn]; exact e)
    cases hk : lk L t with
    | none => exact at_del_other et2 ((hM t).at_none hk)
    | some f2 =>
      obtain ⟨g2, h2, r⟩ := (hM t).at_some hk
      exact ⟨g2, at_del_other et2 h2, r⟩
end
end Go.Proofs.Ytgkeflgfnagnjaa

/-
  The program's SyncDir, in the document's words.
-/
namespace Go.Proofs.Ytgkeflgfnagnjaa
open Go.RowKit Go.Maps Go.WideMaps
set_option linter.unusedVariables false
set_option maxRecDepth 100000

section
variable {w w' : World} {b m base : Nat} {fs fs' : List (Int × Int)} {st st' : Int} {n i i' : Nat} {D : DataW Unit} {X : Nat → Fm} {B : Nat → List UInt8} {T T' : Nat → Prop} {L : List Rf}

theorem at_total (hz : Nz D) (s : ByteArray) : ∃ o, at? D s o := by
  cases hh : Maps.has D (.string s.data.toList) with
  | true =>
    obtain ⟨g, hg⟩ := hz (.string s.data.toList) (D.atKey (.string s.data.toList) .nil) (fun zd => atKey_indep hh zd .nil)
    exact ⟨some g, hg⟩
  | false =>
    refine ⟨none, ?_⟩
    unfold at?
    exact atKey_of_not_has hh .nil
theorem syncdir_p (h : Pv w T b L fs st i) (hi : i < 300) :
    Calls Try.prog 37 #[.pointer (some ⟨b, 0, none⟩)] w fun e w' => e = .returned (.int .i64 (stepC fs).1) ∧ Pn w w' T b (if (stepC fs).1 = 0 then sdL L else L) fs.tail (st + 1) (i + 1) := by
  letI FO : Inhabited (Nat → Prop) := ⟨T⟩
  obtain ⟨m, n, D, X, B, hI, hM, tm, tg⟩ := h.ex
  have h0 := hI.st0
  have h1 : st < 4611686018427387904 := by have := hI.st1; omega
  rw [stepC_code fs 0]
  by_cases hc : (stepR fs 0).2 = 0
  · rw [if_pos hc, hc]
    refine (syncdir_ok hI.ds h0 h1 X hI.fl (fun s hs => hI.ne s b hs rfl) hI.inj hI.nz hc).mono ?_
    rintro e w2 ⟨rfl, hd, hf, hC⟩
    obtain ⟨es, rfl, hap, hkeys⟩ := hI.ds.mp.entries (string_keyed Try.underlying9)
    have hat : ∀ s g, at? (Lib.deleteFuncD (pdX X) (.map es)) s (some g) → at? (.map es) s (some g) := fun s g hg => at_filter hap hkeys hg
    have hth : ∀ s g, at? (Lib.deleteFuncD (pdX X) (.map es)) s (some g) → (X g).th = true := fun s g hg => by
      have hh := at_has hg
      have hm := came_mem (hap.filter _) (fun q hq => hkeys q (List.mem_filter.1 hq).1) (fun zd => (atKey_indep hh zd .nil).trans hg)
      have := (List.mem_filter.1 hm).2
      simpa [pdX] using this
    have hkeep : ∀ s g, at? (.map es) s (some g) → (X g).th = true → at? (Lib.deleteFuncD (pdX X) (.map es)) s (some g) := fun s g hg ht => by
      have hh := at_has hg
      have hm := came_mem hap hkeys (fun zd => (atKey_indep hh zd .nil).trans hg)
      have hm2 : ((.string s.data.toList, .lit (.int .i64 g)) : Lit × DataW Unit) ∈ es.filter (fun q => !pdX X q.1 q.2) := List.mem_filter.2 ⟨hm, by simp [pdX, ht]⟩
      exact WideAt.atKey_mem .nil (hkeys _ hm) (hap.filter _) hm2
    have hz2 : Nz (Lib.deleteFuncD (pdX X) (.map es)) := fun kl d hd => hI.nz kl d (mem_filter_at hap hkeys hd)
    have hI2 := hI.less _ (fun g => (X g).named) (fun g => ⟨rfl, rfl, rfl, rfl⟩) hat hd hz2 (by unfold Lib.deleteFuncD; rw [size_eq, size_eq]; exact List.length_filter_le _ _) (fun s g hg => hf s g (hat s g hg)) hC
    refine ⟨rfl, Pn.mk (Iv.owner (T := T) hI2 (fun k hk _ => .inl hk)) (fun t => ?_) h.so.sd (.inl tm) (fun t g2 h2 => ⟨.inl (tg t g2 (hat t g2 h2)).1, fun q hq => .inl ((tg t g2 (hat t g2 h2)).2 q hq)⟩) (hC.mono (fun q _ e => ?_)) h.lt h.tb⟩
    · rw [lk_sd h.so]
      cases hk : lk L t with
      | none =>
        obtain ⟨o, ho⟩ := at_total hz2 t
        cases o with
        | none => exact ho
        | some g => have := at_one ((hM t).at_none hk) (hat t g ho); cases this
      | some f =>
        obtain ⟨g, hg, r1, r2, r3, r4, r5⟩ := (hM t).at_some hk
        by_cases ht : f.th = true
        · simp only [ht, if_true]
          have hx : (X g).th = true := by rw [r3]; exact ht
          exact ⟨g, hkeep t g hg hx, r1, r2, by simp [Fm.named, hx], by simp [Fm.named, hx], r5⟩
        · simp only [ht]
          obtain ⟨o, ho⟩ := at_total hz2 t
          cases o with
          | none => exact ho
          | some g2 =>
            have h3 := hth t g2 ho
            have h4 : g = g2 := by have := at_one hg (hat t g2 ho); simpa using this
            subst h4
            rw [r3] at h3
            exact absurd h3 ht
    · rcases e with e | e | ⟨s, e⟩
      · rw [e]; exact h.tb
      · rw [e]; exact tm
      · exact (tg s q e).1
  · rw [if_neg hc]
    refine (syncdir_fail hI.ds h0 h1 hc).mono ?_
    rintro e w2 ⟨rfl, hd, hC⟩
    exact ⟨rfl, Pn.stepped h hI hM tm tg hd hC⟩
end
end Go.Proofs.Ytgkeflgfnagnjaa
