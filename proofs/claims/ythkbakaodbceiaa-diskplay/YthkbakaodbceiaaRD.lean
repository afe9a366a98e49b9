/-
  Calls on both disks, in one word.
-/
import Derived.Test.YthkbakaodbceiaaBe
import Derived.Test.YthkbakaodbceiaaQ7
namespace Go.Proofs.Ythkbakaodbceiaa
open Go.RowKit Go.Maps Go.WideMaps
set_option linter.unusedVariables false

/-- What a call answers and leaves. -/
structure An where
  c : Int
  L : List Rf
  fs : List (Int × Int)
  st : Int

section
variable {w w' : World} {b rb i : Nat} {fs : List (Int × Int)} {st : Int} {T U : Nat → Prop} {L : List Rf} {s : ByteArray}

def hitA (L : List Rf) (fs : List (Int × Int)) (st : Int) (s : ByteArray) (k : Nat → Rf → An) : An :=
  if (findR L s).2 ≠ 0 then ⟨(findR L s).2, L, fs, st⟩ else match atN L s with
    | none => ⟨0, L, fs, st⟩
    | some j => match L[j]? with | none => ⟨0, L, fs, st⟩ | some f => k j f
theorem hitA_lost (k : Nat → Rf → An) (hc : (findR L s).2 ≠ 0) : hitA L fs st s k = ⟨(findR L s).2, L, fs, st⟩ := by unfold hitA; rw [if_pos hc]
theorem hitA_hit (k : Nat → Rf → An) {j : Nat} {f : Rf} (hh : Hit L s j f) : hitA L fs st s k = k j f := by
  unfold hitA
  rw [hh.find, if_neg (by simp), hh.at']
  simp only [hh.get]

def creA (L : List Rf) (fs : List (Int × Int)) (st : Int) (s : ByteArray) : An := ⟨(creL L fs s).1, (creL L fs s).2.2, if (creL L fs s).2.1 then fs.tail else fs, if (creL L fs s).2.1 then st + 1 else st⟩
def synA (L : List Rf) (fs : List (Int × Int)) (st : Int) (s : ByteArray) : An := hitA L fs st s fun j f => ⟨(stepR fs ((f.bs.length : Int) - f.la)).2, L.set j { f with la := f.la + (stepR fs ((f.bs.length : Int) - f.la)).1.toNat }, fs.tail, st + 1⟩
def appA (L : List Rf) (fs : List (Int × Int)) (st : Int) (s : ByteArray) (x : List UInt8) : An := hitA L fs st s fun j f => ⟨(stepR fs (x.length : Int)).2, L.set j { f with bs := f.bs ++ x.take (stepR fs (x.length : Int)).1.toNat }, fs.tail, st + 1⟩
def cutA (L : List Rf) (fs : List (Int × Int)) (st : Int) (s : ByteArray) (z : Int) : An := hitA L fs st s fun j f => if z < 0 ∨ (f.bs.length : Int) < z then ⟨4, L, fs, st⟩ else ⟨(stepC fs).1, if (stepC fs).1 = 0 then L.set j { f with bs := f.bs.take z.toNat, la := min f.la z.toNat } else L, fs.tail, st + 1⟩
def remA (L : List Rf) (fs : List (Int × Int)) (st : Int) (s : ByteArray) : An := hitA L fs st s fun j f => ⟨(stepC fs).1, if (stepC fs).1 = 0 then rmL L j f else L, fs.tail, st + 1⟩
def sdA (L : List Rf) (fs : List (Int × Int)) (st : Int) : An := ⟨(stepC fs).1, if (stepC fs).1 = 0 then sdL L else L, fs.tail, st + 1⟩

theorem step_nat (fs : List (Int × Int)) (z : Nat) : (stepR fs (z : Int)).1 = ((stepR fs (z : Int)).1.toNat : Int) ∧ (stepR fs (z : Int)).1.toNat ≤ z := by
  obtain ⟨j, h1, h2⟩ := stepR_le fs z
  rw [h1]
  simpa using h2

/-- What the program's call leaves. -/
def PA (w : World) (T : Nat → Prop) (b i : Nat) (A : An) (e : Ending) (w' : World) : Prop := e = .returned (.int .i64 A.c) ∧ Pn w w' T b A.L A.fs A.st (i + 1)
def RA' (w : World) (U : Nat → Prop) (rb : Nat) (A : An) (e : Ending) (w' : World) : Prop := e = .returned (.int .i64 A.c) ∧ Rn w w' U rb A.L A.fs A.st
theorem Rn.refl (h : Rv w U rb L fs st) : Rn w w U rb L fs st := Rn.of h (Chg.refl _ _)

theorem cre_P (h : Pv w T b L fs st i) (hi : i < 300) (s : ByteArray) : Calls Try.prog 15 #[.pointer (some ⟨b, 0, none⟩), .string s] w (PA w T b i (creA L fs st s)) := create_p h hi s
theorem syn_P (h : Pv w T b L fs st i) (hi : i < 300) (s : ByteArray) : Calls Try.prog 19 #[.pointer (some ⟨b, 0, none⟩), .string s] w (PA w T b i (synA L fs st s)) := by
  rcases find_or L s with hc | ⟨j, f, hh, hlk, hc⟩
  · unfold synA
    rw [hitA_lost _ hc]
    refine (sync_lost (h.lost s hc)).mono ?_
    rintro e w2 ⟨rfl, rfl⟩
    exact ⟨rfl, Pn.refl h⟩
  · unfold synA
    rw [hitA_hit _ hh]
    have hw := (h.lw.fl f (lk_mem hlk)).1
    have := step_nat fs (f.bs.length - f.la)
    rw [show ((f.bs.length - f.la : Nat) : Int) = (f.bs.length : Int) - f.la by omega] at this
    exact sync_p h hi hh _ this.1
theorem app_P (h : Pv w T b L fs st i) (hi : i < 300) (s : ByteArray) {xo : Option Addr} {k xc : Nat} {x : List UInt8} (hx : Bs w xo k xc x) (hk : k ≤ 3000) (hxT : ∀ a, xo = some a → k = 0 ∨ ¬ T a.block) : Calls Try.prog 17 #[.pointer (some ⟨b, 0, none⟩), .string s, .slice xo k xc] w (PA w T b i (appA L fs st s x)) := by
  rcases find_or L s with hc | ⟨j, f, hh, hlk, hc⟩
  · unfold appA
    rw [hitA_lost _ hc]
    refine (append_lost (h.lost s hc) _).mono ?_
    rintro e w2 ⟨rfl, rfl⟩
    exact ⟨rfl, Pn.refl h⟩
  · unfold appA
    rw [hitA_hit _ hh, hx.len]
    exact append_p h hi hh hx hk hxT _ (step_nat fs k).1
theorem cut_P (h : Pv w T b L fs st i) (hi : i < 300) (s : ByteArray) (z : Int) : Calls Try.prog 23 #[.pointer (some ⟨b, 0, none⟩), .string s, .int .i64 z] w (PA w T b i (cutA L fs st s z)) := by
  rcases find_or L s with hc | ⟨j, f, hh, hlk, hc⟩
  · unfold cutA
    rw [hitA_lost _ hc]
    refine (cut_lost (h.lost s hc) _).mono ?_
    rintro e w2 ⟨rfl, rfl⟩
    exact ⟨rfl, Pn.refl h⟩
  · unfold cutA
    rw [hitA_hit _ hh]
    by_cases hz : z < 0 ∨ (f.bs.length : Int) < z
    · rw [if_pos hz]
      refine (cut_p_range h hh z hz).mono ?_
      rintro e w2 ⟨rfl, rfl⟩
      exact ⟨rfl, Pn.refl h⟩
    · rw [if_neg hz]
      obtain ⟨k, rfl⟩ : ∃ k : Nat, z = k := ⟨z.toNat, by omega⟩
      exact cut_p h hi hh k (by omega)
theorem rem_P (h : Pv w T b L fs st i) (hi : i < 300) (s : ByteArray) : Calls Try.prog 25 #[.pointer (some ⟨b, 0, none⟩), .string s] w (PA w T b i (remA L fs st s)) := by
  rcases find_or L s with hc | ⟨j, f, hh, hlk, hc⟩
  · unfold remA
    rw [hitA_lost _ hc]
    refine (remove_lost (h.lost s hc)).mono ?_
    rintro e w2 ⟨rfl, rfl⟩
    exact ⟨rfl, Pn.refl h⟩
  · unfold remA
    rw [hitA_hit _ hh]
    exact remove_p h hi hh
theorem sd_P (h : Pv w T b L fs st i) (hi : i < 300) : Calls Try.prog 21 #[.pointer (some ⟨b, 0, none⟩)] w (PA w T b i (sdA L fs st)) := syncdir_p h hi

theorem cre_R (h : Rv w U rb L fs st) (hw : Lw L fs st i) (hi : i < 300) (s : ByteArray) : Calls Try.prog 16 #[.pointer (some ⟨rb, 0, none⟩), .string s] w (RA' w U rb (creA L fs st s)) := by
  have := hw.len
  have := hw.st1
  exact create_r h (by omega) hw.st0 (by omega) s
theorem syn_R (h : Rv w U rb L fs st) (hw : Lw L fs st i) (hi : i < 300) (s : ByteArray) : Calls Try.prog 20 #[.pointer (some ⟨rb, 0, none⟩), .string s] w (RA' w U rb (synA L fs st s)) := by
  have hl := hw.len
  have h1 := hw.st1
  rcases find_or L s with hc | ⟨j, f, hh, hlk, hc⟩
  · unfold synA
    rw [hitA_lost _ hc]
    refine (sync_r_lost h (by omega) s hc).mono ?_
    rintro e w2 ⟨rfl, rfl⟩
    exact ⟨rfl, Rn.refl h⟩
  · unfold synA
    rw [hitA_hit _ hh]
    have hf := hw.fl f (lk_mem hlk)
    have := step_nat fs (f.bs.length - f.la)
    rw [show ((f.bs.length - f.la : Nat) : Int) = (f.bs.length : Int) - f.la by omega] at this
    refine (sync_r h (by omega) hw.st0 (by omega) hh hf.1 (by omega) _ this.1).mono ?_
    rintro e w2 ⟨rfl, h2, h3⟩
    exact ⟨rfl, Rn.of h2 h3⟩
theorem app_R (h : Rv w U rb L fs st) (hw : Lw L fs st i) (hi : i < 300) (s : ByteArray) {xo : Option Addr} {k xc : Nat} {x : List UInt8} (hx : Bs w xo k xc x) (hk : k ≤ 3000) (hxT : ∀ a, xo = some a → k = 0 ∨ ¬ U a.block) : Calls Try.prog 18 #[.pointer (some ⟨rb, 0, none⟩), .string s, .slice xo k xc] w (RA' w U rb (appA L fs st s x)) := by
  have hl := hw.len
  have h1 := hw.st1
  rcases find_or L s with hc | ⟨j, f, hh, hlk, hc⟩
  · unfold appA
    rw [hitA_lost _ hc]
    refine (append_r_lost h (by omega) s hc _).mono ?_
    rintro e w2 ⟨rfl, rfl⟩
    exact ⟨rfl, Rn.refl h⟩
  · unfold appA
    rw [hitA_hit _ hh, hx.len]
    have hf := hw.fl f (lk_mem hlk)
    refine (append_r h (by omega) hw.st0 (by omega) hh hx hxT (by omega) _ (step_nat fs k).1).mono ?_
    rintro e w2 ⟨rfl, h2, h3⟩
    exact ⟨rfl, Rn.of h2 h3⟩
theorem cut_R (h : Rv w U rb L fs st) (hw : Lw L fs st i) (hi : i < 300) (s : ByteArray) (z : Int) : Calls Try.prog 24 #[.pointer (some ⟨rb, 0, none⟩), .string s, .int .i64 z] w (RA' w U rb (cutA L fs st s z)) := by
  have hl := hw.len
  have h1 := hw.st1
  rcases find_or L s with hc | ⟨j, f, hh, hlk, hc⟩
  · unfold cutA
    rw [hitA_lost _ hc]
    refine (cut_r_lost h (by omega) s hc _).mono ?_
    rintro e w2 ⟨rfl, rfl⟩
    exact ⟨rfl, Rn.refl h⟩
  · unfold cutA
    rw [hitA_hit _ hh]
    have hf := hw.fl f (lk_mem hlk)
    by_cases hz : z < 0 ∨ (f.bs.length : Int) < z
    · rw [if_pos hz]
      refine (cut_r_range h (by omega) hh (by omega) z hz).mono ?_
      rintro e w2 ⟨rfl, rfl⟩
      exact ⟨rfl, Rn.refl h⟩
    · rw [if_neg hz]
      obtain ⟨k, rfl⟩ : ∃ k : Nat, z = k := ⟨z.toNat, by omega⟩
      refine (cut_r h (by omega) hw.st0 (by omega) hh (by omega) k (by omega)).mono ?_
      rintro e w2 ⟨rfl, h2, h3⟩
      exact ⟨rfl, Rn.of h2 h3⟩
theorem rem_R (h : Rv w U rb L fs st) (hw : Lw L fs st i) (hi : i < 300) (s : ByteArray) : Calls Try.prog 26 #[.pointer (some ⟨rb, 0, none⟩), .string s] w (RA' w U rb (remA L fs st s)) := by
  have hl := hw.len
  have h1 := hw.st1
  rcases find_or L s with hc | ⟨j, f, hh, hlk, hc⟩
  · unfold remA
    rw [hitA_lost _ hc]
    refine (remove_r_lost h (by omega) s hc).mono ?_
    rintro e w2 ⟨rfl, rfl⟩
    exact ⟨rfl, Rn.refl h⟩
  · unfold remA
    rw [hitA_hit _ hh]
    exact remove_r h (by omega) hw.st0 (by omega) hh (hw.fl f (lk_mem hlk)).1
theorem sd_R (h : Rv w U rb L fs st) (hw : Lw L fs st i) (hi : i < 300) : Calls Try.prog 22 #[.pointer (some ⟨rb, 0, none⟩)] w (RA' w U rb (sdA L fs st)) := by
  have hl := hw.len
  have h1 := hw.st1
  exact syncdir_r h (by omega) hw.st0 (by omega)

/-! Files that may come back last, behind each call. -/
theorem Gd.set (h : Gd L) {j : Nat} {f : Rf} (hf : f.la ≤ f.bs.length) (ht : f.th = false → f.la = f.bs.length) : Gd (L.set j f) := fun g hg => by
  rcases List.mem_or_eq_of_mem_set hg with h1 | rfl
  · exact h g h1
  · exact ⟨hf, ht⟩
theorem hitA_gd (h : Gd L) (k : Nat → Rf → An) (hk : ∀ j f, Hit L s j f → Gd (k j f).L) : Gd (hitA L fs st s k).L := by
  rcases find_or L s with hc | ⟨j, f, hh, hlk, hc⟩
  · rw [hitA_lost _ hc]; exact h
  · rw [hitA_hit _ hh]; exact hk j f hh
theorem cre_gd (h : Gd L) (s : ByteArray) : Gd (creA L fs st s).L := by
  unfold creA creL
  simp only
  split
  · exact h
  · split
    · exact h
    · simp only
      split
      · intro f hf
        unfold insL at hf
        simp only [List.mem_append, List.mem_singleton] at hf
        rcases hf with (h1 | rfl) | h1
        · exact h f (List.mem_of_mem_take h1)
        · simp
        · exact h f (List.mem_of_mem_drop h1)
      · exact h
theorem syn_gd (h : Gd L) (s : ByteArray) : Gd (synA L fs st s).L := hitA_gd h _ fun j f hh => by
  have hf := h f (List.mem_of_getElem? hh.get)
  have := step_nat fs (f.bs.length - f.la)
  rw [show ((f.bs.length - f.la : Nat) : Int) = (f.bs.length : Int) - f.la by omega] at this
  exact h.set (by simp only; omega) (fun e => by rw [hh.th] at e; cases e)
theorem app_gd (h : Gd L) (s : ByteArray) (x : List UInt8) : Gd (appA L fs st s x).L := hitA_gd h _ fun j f hh => by
  have hf := h f (List.mem_of_getElem? hh.get)
  exact h.set (by simp; omega) (fun e => by rw [hh.th] at e; cases e)
theorem cut_gd (h : Gd L) (s : ByteArray) (z : Int) : Gd (cutA L fs st s z).L := hitA_gd h _ fun j f hh => by
  have hf := h f (List.mem_of_getElem? hh.get)
  split
  · exact h
  · simp only
    split
    · exact h.set (by simp; omega) (fun e => by rw [hh.th] at e; cases e)
    · exact h
theorem rem_gd (h : Gd L) (s : ByteArray) : Gd (remA L fs st s).L := hitA_gd h _ fun j f hh => by
  have hf := h f (List.mem_of_getElem? hh.get)
  simp only
  split
  · unfold rmL
    split
    · exact h.set (by simp; omega) (fun e => by simp; omega)
    · exact fun g hg => h g ((cut_sub L j).subset hg)
  · exact h
theorem sd_gd (h : Gd L) : Gd (sdA L fs st).L := by
  unfold sdA
  simp only
  split
  · intro f hf
    unfold sdL at hf
    obtain ⟨g, hg, rfl⟩ := List.mem_map.1 hf
    have := List.mem_filter.1 hg
    have h1 := h g this.1
    exact ⟨h1.1, fun e => by have h2 := this.2; simp only at e h2; rw [e] at h2; cases h2⟩
  · exact h
end
end Go.Proofs.Ythkbakaodbceiaa
