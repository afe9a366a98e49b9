/-
  The six calls that change a disk: each is refused, and nothing changes, or is one step.
-/
import Derived.Test.YthkbakaodbceiaaI6
namespace Go.Proofs.Ythkbakaodbceiaa
open Go.RowKit Go.Maps Go.WideMaps
set_option linter.unusedVariables false

/-- A call is refused, or is one step. -/
def OpR (w w' : World) (b m base : Nat) (fs : List (Int × Int)) (st : Int) (i : Nat) (f : Int) : Prop :=
  (w' = w ∧ (f = 2 ∨ f = 4 ∨ f = 170 ∨ f = 171)) ∨ ((f = 0 ∨ f = 5 ∨ f = 6) ∧ (∃ n' D' X' B', Iv w' b m base fs.tail (st + 1) n' D' X' B' (i + 1)) ∧ Chg w w' (fun k => base ≤ k))

theorem stepR_code (fs : List (Int × Int)) (z : Int) : (stepR fs z).2 = 0 ∨ (stepR fs z).2 = 5 ∨ (stepR fs z).2 = 6 := by
  cases fs with
  | nil => exact .inl rfl
  | cons x l =>
    simp only [stepR]
    by_cases h1 : x.1 = 1
    · rw [if_pos h1]; exact .inr (.inl rfl)
    · by_cases h2 : x.1 = 2
      · rw [if_neg h1, if_pos h2]; exact .inr (.inr rfl)
      · rw [if_neg h1, if_neg h2]; exact .inl rfl
theorem stepR_le (fs : List (Int × Int)) (z : Nat) : ∃ j : Nat, (stepR fs (z : Int)).1 = j ∧ j ≤ z := by
  cases fs with
  | nil => exact ⟨z, rfl, Nat.le_refl _⟩
  | cons x l =>
    have hm : ∃ j : Nat, min (max x.2 0) (z : Int) = j ∧ j ≤ z := ⟨(min (max x.2 0) (z : Int)).toNat, by omega, by omega⟩
    simp only [stepR]
    by_cases h1 : x.1 = 1
    · rw [if_pos h1]; exact hm
    · by_cases h2 : x.1 = 2
      · rw [if_neg h1, if_pos h2]; exact hm
      · rw [if_neg h1, if_neg h2]; exact ⟨z, rfl, Nat.le_refl _⟩
theorem name_32 {s : ByteArray} (hs : nameB s = true) : s.size ≤ 32 := by
  unfold nameB at hs
  simp at hs
  omega
theorem name_le {s : ByteArray} (hs : nameB s = true) : s.size ≤ maxLen := by
  unfold nameB at hs
  simp at hs
  unfold maxLen
  omega

section
variable {w : World} {b m base : Nat} {fs : List (Int × Int)} {st : Int} {n i : Nat} {D : DataW Unit} {X : Nat → Fm} {B : Nat → List UInt8}

/-- What a name leads to. -/
theorem Iv.look (h : Iv w b m base fs st n D X B i) (s : ByteArray) : (∃ fe, Lost w b s fe ∧ (fe = 2 ∨ fe = 171)) ∨ ∃ g bo bn bc nl, ∃ a : Nat, nameB s = true ∧ at? D s (some g) ∧ X g = ⟨bo, bn, bc, (a : Int), true, nl⟩ ∧ Fl w g bo bn bc (a : Int) true nl ∧ a ≤ bn ∧ bn ≤ 3000 * i ∧ Ow w base 5 bo bn bc (B g) ∧ blk bo ≠ some b ∧ blk bo ≠ some g ∧ g ≠ b := by
  cases hs : nameB s with
  | false => exact .inl ⟨2, lost_bad h.ds hs, .inl rfl⟩
  | true =>
    obtain ⟨o, ho, _⟩ := look_any h.ds.mp s (name_le hs)
    cases o with
    | none => exact .inl ⟨171, lost_none h.ds hs ho, .inr rfl⟩
    | some g =>
      have h1 := h.fl s g ho
      have h2 := h.ow s g ho
      obtain ⟨a, h3, h4, h5⟩ := h.la s g ho
      have h6 := h.nb s g ho
      have h7 : blk (X g).bo ≠ some g := fun e => (h2.ty g e).ne h1.ty (by decide) rfl
      rcases hX : X g with ⟨bo, bn, bc, la, th, nl⟩
      rw [hX] at h1 h2 h3 h4 h5 h6 h7
      simp only at h3 h4 h5 h6 h7
      subst h3
      cases th with
      | false => exact .inl ⟨171, lost_gone h.ds hs ho h1, .inr rfl⟩
      | true => exact .inr ⟨g, bo, bn, bc, nl, a, rfl, ho, hX, h1, h4, h5, h2, h6, h7, h.ne s g ho⟩

theorem lost_code {fe : Int} (h : fe = 2 ∨ fe = 171) : fe = 2 ∨ fe = 4 ∨ fe = 170 ∨ fe = 171 := by omega

theorem create_op (h : Iv w b m base fs st n D X B i) (hi : i < 300) (s : ByteArray) : Calls Try.prog 15 #[.pointer (some ⟨b, 0, none⟩), .string s] w fun e w' => ∃ f, e = .returned (.int .i64 f) ∧ OpR w w' b m base fs st i f := by
  have h0 := h.st0
  have h1 : st < 4611686018427387904 := by have := h.st1; omega
  have hb := h.lb
  have hm := h.lm
  cases hs : nameB s with
  | false => exact (create_bad s h.ds hs).mono fun e w' ⟨he, hw⟩ => ⟨2, he, .inl ⟨hw, .inl rfl⟩⟩
  | true =>
    obtain ⟨o, ho, _⟩ := look_any h.ds.mp s (name_le hs)
    cases o with
    | some g => exact (create_there s g h.ds hs ho).mono fun e w' ⟨he, hw⟩ => ⟨170, he, .inl ⟨hw, .inr (.inr (.inl rfl))⟩⟩
    | none =>
      have hz := h.sz
      have hn := h.sn
      by_cases hc : (stepR fs 0).2 = 0
      · refine (create_ok s h.ds h0 h1 hs ho (by omega) (by unfold maxLen; omega) hc).mono ?_
        rintro e w' ⟨he, g, hg, hf, hd, hC⟩
        exact ⟨0, he, .inr ⟨.inl rfl, ⟨_, _, _, _, h.made hs hg ((string_keyed Try.underlying9).key (keyOf_string_mk (P := Try.prog) Try.underlying9 (name_le hs))) ho hd hf hC⟩, hC.mono (fun k _ e => by omega)⟩⟩
      · refine (create_fail s h.ds h0 h1 hs ho (by omega) hc).mono ?_
        rintro e w' ⟨he, hd, hC⟩
        exact ⟨_, he, .inr ⟨stepR_code fs 0, ⟨_, _, _, _, h.step hd hC⟩, hC.mono (fun k _ e => by omega)⟩⟩

theorem append_op (h : Iv w b m base fs st n D X B i) (hi : i < 300) (s : ByteArray) (xo : Option Addr) (k c : Nat) (x : List UInt8) (hx : Bs w xo k c x) (hk : k ≤ 3000) (hxp : ∀ a, xo = some a → k = 0 ∨ a.block < base) : Calls Try.prog 17 #[.pointer (some ⟨b, 0, none⟩), .string s, .slice xo k c] w fun e w' => ∃ f, e = .returned (.int .i64 f) ∧ OpR w w' b m base fs st i f := by
  have h0 := h.st0
  have h1 : st < 4611686018427387904 := by have := h.st1; omega
  have hb := h.lb
  rcases h.look s with ⟨fe, hL, hfe⟩ | ⟨g, bo, bn, bc, nl, a, hs, hg, hX, hf, hla, hbn, ho, hbb, hbg, hne⟩
  · exact (append_lost hL _).mono fun e w' ⟨he, hw⟩ => ⟨fe, he, .inl ⟨hw, lost_code hfe⟩⟩
  · obtain ⟨j, hj, hjk⟩ := stepR_le fs k
    refine (append_gen s g base h.bs h.ds h0 h1 hs hg hf hne (B g) ho xo k c x hx (fun a e => (hxp a e).imp id (fun h => by omega)) hbb hbg (by omega) j hj hjk).mono ?_
    rintro e w' ⟨he, bo', bc', hf', ho', hli, hd, hC⟩
    have hlo := h.lo s g hg
    refine ⟨_, he, .inr ⟨stepR_code fs k, ⟨_, _, _, _, h.file hg hd ⟨bo', bn + j, bc', a, true, nl⟩ (B g ++ x.take j) hf' ho' ⟨a, rfl, by simp only; omega, by simp only; omega⟩ (by rw [hX]; exact hli) (by rw [hX]; exact hC)⟩, hC.mono (fun q hq e => ?_)⟩⟩
    rcases e with e | e | e
    · omega
    · omega
    · exact (ho.from_base q e).1

theorem sync_op (h : Iv w b m base fs st n D X B i) (hi : i < 300) (s : ByteArray) : Calls Try.prog 19 #[.pointer (some ⟨b, 0, none⟩), .string s] w fun e w' => ∃ f, e = .returned (.int .i64 f) ∧ OpR w w' b m base fs st i f := by
  have h0 := h.st0
  have h1 : st < 4611686018427387904 := by have := h.st1; omega
  have hb := h.lb
  rcases h.look s with ⟨fe, hL, hfe⟩ | ⟨g, bo, bn, bc, nl, a, hs, hg, hX, hf, hla, hbn, ho, hbb, hbg, hne⟩
  · exact (sync_lost hL).mono fun e w' ⟨he, hw⟩ => ⟨fe, he, .inl ⟨hw, lost_code hfe⟩⟩
  · obtain ⟨j, hj, hjk⟩ := stepR_le fs (bn - a)
    have hcast : ((bn - a : Nat) : Int) = (bn : Int) - a := by omega
    rw [hcast] at hj
    refine (sync_at s g h.ds h0 h1 hs hg hf hne hla (by omega) j hj hjk).mono ?_
    rintro e w' ⟨he, hd, hf', hC⟩
    have hlo := h.lo s g hg
    refine ⟨_, he, .inr ⟨stepR_code fs _, ⟨_, _, _, _, h.file hg hd ⟨bo, bn, bc, ((a + j : Nat) : Int), true, nl⟩ (B g) hf' (ho.beside hC (fun q hq e => ?_)) ⟨a + j, rfl, by simp only; omega, by simp only; omega⟩ (by rw [hX]; exact fun q hq => .inl hq) (hC.mono (fun q _ e => by rcases e with e | e; exact .inl e; exact .inr (.inl e)))⟩, hC.mono (fun q hq e => by omega)⟩⟩
    rcases e with e | e
    · exact hbb (by rw [hq, e])
    · exact hbg (by rw [hq, e])

theorem cut_op (h : Iv w b m base fs st n D X B i) (hi : i < 300) (s : ByteArray) (z : Int) : Calls Try.prog 23 #[.pointer (some ⟨b, 0, none⟩), .string s, .int .i64 z] w fun e w' => ∃ f, e = .returned (.int .i64 f) ∧ OpR w w' b m base fs st i f := by
  have h0 := h.st0
  have h1 : st < 4611686018427387904 := by have := h.st1; omega
  have hb := h.lb
  rcases h.look s with ⟨fe, hL, hfe⟩ | ⟨g, bo, bn, bc, nl, a, hs, hg, hX, hf, hla, hbn, ho, hbb, hbg, hne⟩
  · exact (cut_lost hL z).mono fun e w' ⟨he, hw⟩ => ⟨fe, he, .inl ⟨hw, lost_code hfe⟩⟩
  · by_cases hz : z < 0 ∨ (bn : Int) < z
    · exact (cut_range s g h.ds hs hg hf z hz).mono fun e w' ⟨he, hw⟩ => ⟨4, he, .inl ⟨hw, .inr (.inl rfl)⟩⟩
    · obtain ⟨k, rfl⟩ : ∃ k : Nat, z = k := ⟨z.toNat, by omega⟩
      have hk : k ≤ bn := by omega
      have hlo := h.lo s g hg
      by_cases hc : (stepR fs 0).2 = 0
      · refine (cut_ok s g h.ds h0 h1 hs hg hf hne (B g) (ho.rebase (Nat.zero_le _)) hbg hbb k hk hc).mono ?_
        rintro e w' ⟨he, hd, hf', hC⟩
        refine ⟨0, he, .inr ⟨.inl rfl, ⟨_, _, _, _, h.file hg hd ⟨bo, k, bc, ((min a k : Nat) : Int), true, nl⟩ ((B g).take k) hf' ((ho.take k hk).beside hC (fun q hq e => ?_)) ⟨min a k, rfl, by simp only; omega, by simp only; omega⟩ (by rw [hX]; exact fun q hq => .inl hq) (hC.mono (fun q _ e => by rcases e with e | e; exact .inl e; exact .inr (.inl e)))⟩, hC.mono (fun q hq e => by omega)⟩⟩
        rcases e with e | e
        · exact hbb (by rw [hq, e])
        · exact hbg (by rw [hq, e])
      · refine (cut_fail s g h.ds h0 h1 hs hg hf k hk hc).mono ?_
        rintro e w' ⟨he, hd, hC⟩
        exact ⟨_, he, .inr ⟨stepR_code fs 0, ⟨_, _, _, _, h.step hd hC⟩, hC.mono (fun k _ e => by omega)⟩⟩

theorem remove_op (h : Iv w b m base fs st n D X B i) (hi : i < 300) (s : ByteArray) : Calls Try.prog 25 #[.pointer (some ⟨b, 0, none⟩), .string s] w fun e w' => ∃ f, e = .returned (.int .i64 f) ∧ OpR w w' b m base fs st i f := by
  have h0 := h.st0
  have h1 : st < 4611686018427387904 := by have := h.st1; omega
  have hb := h.lb
  have hm := h.lm
  rcases h.look s with ⟨fe, hL, hfe⟩ | ⟨g, bo, bn, bc, nl, a, hs, hg, hX, hf, hla, hbn, ho, hbb, hbg, hne⟩
  · exact (remove_lost hL).mono fun e w' ⟨he, hw⟩ => ⟨fe, he, .inl ⟨hw, lost_code hfe⟩⟩
  · have hlo := h.lo s g hg
    by_cases hc : (stepR fs 0).2 = 0
    · cases nl with
      | false =>
        refine (remove_new s g h.ds h0 h1 hs hg hf hne hc).mono ?_
        rintro e w' ⟨he, hd, hC⟩
        obtain ⟨es, rfl, hap, hkeys⟩ := h.ds.mp.entries (string_keyed Try.underlying9)
        have hsz := size_del (k := .string s.data.toList) (⟨es, rfl, hap⟩ : Tidy (.map es : DataW Unit))
        exact ⟨0, he, .inr ⟨.inl rfl, ⟨_, _, _, _, h.less _ X (fun g => ⟨rfl, rfl, rfl, rfl⟩) (fun s g hg => at_del hg) hd (h.nz.del _) (by omega) (fun s g hg => (h.fl s g (at_del hg)).chg hC (fun e => e.elim (h.ne s g (at_del hg)) (h.ds.mp.row (h.fl s g (at_del hg)).ty))) (hC.mono (fun k _ e => by rcases e with e | e; exact .inl e; exact .inr (.inl e)))⟩, hC.mono (fun k _ e => by omega)⟩⟩
      | true =>
        refine (remove_old s g h.ds h0 h1 hs hg hf hne hla (B g) (ho.rebase (Nat.zero_le _)) hc).mono ?_
        rintro e w' ⟨he, hd, hf', hC⟩
        refine ⟨0, he, .inr ⟨.inl rfl, ⟨_, _, _, _, h.file hg hd ⟨bo, a, bc, a, false, true⟩ ((B g).take a) hf' ((ho.take a hla).beside hC (fun q hq e => ?_)) ⟨a, rfl, by simp only; omega, by simp only; omega⟩ (by rw [hX]; exact fun q hq => .inl hq) (hC.mono (fun q _ e => by rcases e with e | e; exact .inl e; exact .inr (.inl e)))⟩, hC.mono (fun q hq e => by omega)⟩⟩
        rcases e with e | e
        · exact hbb (by rw [hq, e])
        · exact hbg (by rw [hq, e])
    · refine (remove_fail s g h.ds h0 h1 hs hg hf hc).mono ?_
      rintro e w' ⟨he, hd, hC⟩
      exact ⟨_, he, .inr ⟨stepR_code fs 0, ⟨_, _, _, _, h.step hd hC⟩, hC.mono (fun k _ e => by omega)⟩⟩

theorem syncdir_op (h : Iv w b m base fs st n D X B i) (hi : i < 300) : Calls Try.prog 21 #[.pointer (some ⟨b, 0, none⟩)] w fun e w' => ∃ f, e = .returned (.int .i64 f) ∧ OpR w w' b m base fs st i f := by
  have h0 := h.st0
  have h1 : st < 4611686018427387904 := by have := h.st1; omega
  have hb := h.lb
  have hm := h.lm
  by_cases hc : (stepR fs 0).2 = 0
  · refine (syncdir_ok h.ds h0 h1 X h.fl (fun s hs => h.ne s b hs rfl) h.inj h.nz hc).mono ?_
    rintro e w' ⟨he, hd, hf, hC⟩
    have hC2 : Chg w w' (fun k => base ≤ k) := hC.mono (fun k _ e => by
      rcases e with e | e | ⟨s, e⟩
      · omega
      · omega
      · exact h.lo s k e)
    obtain ⟨es, rfl, hap, hkeys⟩ := h.ds.mp.entries (string_keyed Try.underlying9)
    have hat : ∀ s g, at? (Lib.deleteFuncD (pdX X) (.map es)) s (some g) → at? (.map es) s (some g) := fun s g hg => at_filter hap hkeys hg
    exact ⟨0, he, .inr ⟨.inl rfl, ⟨_, _, _, _, h.less _ (fun g => (X g).named) (fun g => ⟨rfl, rfl, rfl, rfl⟩) hat hd (fun kl d hd => h.nz kl d (mem_filter_at hap hkeys hd)) (by unfold Lib.deleteFuncD; rw [size_eq, size_eq]; exact List.length_filter_le _ _) (fun s g hg => hf s g (hat s g hg)) hC⟩, hC2⟩⟩
  · refine (syncdir_fail h.ds h0 h1 hc).mono ?_
    rintro e w' ⟨he, hd, hC⟩
    exact ⟨_, he, .inr ⟨stepR_code fs 0, ⟨_, _, _, _, h.step hd hC⟩, hC.mono (fun k _ e => by omega)⟩⟩
end
end Go.Proofs.Ythkbakaodbceiaa
