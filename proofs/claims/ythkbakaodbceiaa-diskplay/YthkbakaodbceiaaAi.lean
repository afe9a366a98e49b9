import Derived.Test.YthkbakaodbceiaaP4
import Derived.BigQuiet
/-
  The document's disk: one file's record, changed in its place; Append, Sync, Cut.
-/
namespace Go.Proofs.Ythkbakaodbceiaa
open Go.RowKit
set_option linter.unusedVariables false

theorem ba_append (a b : List UInt8) : (⟨a.toArray⟩ : ByteArray) ++ ⟨b.toArray⟩ = ⟨(a ++ b).toArray⟩ := by
  apply ByteArray.ext
  simp
theorem ba_take0 (a : List UInt8) (k : Nat) (h : k ≤ a.length) : (⟨a.toArray⟩ : ByteArray).extract 0 k = ⟨(a.take k).toArray⟩ := by
  apply ByteArray.ext
  simp
theorem bs_chg {w w' : World} {S : Nat → Prop} {xo : Option Addr} {k c : Nat} {x : List UInt8} (h : Bs w xo k c x) (hc : Chg w w' S) (hS : ∀ a, xo = some a → k = 0 ∨ ¬ S a.block) : Bs w' xo k c x :=
  ⟨h.len, h.room, h.top, h.nil, fun a ha j u hu => by
    rcases hS a ha with h0 | h0
    · have : x = [] := List.eq_nil_of_length_eq_zero (by rw [h.len]; exact h0)
      rw [this] at hu
      simp at hu
    · exact hc.cell (h.cells a ha j u hu) (by rw [add_block]; exact h0)⟩
theorem rcells_set {L : List Rf} {i k : Nat} {f f' : Rf} {v : Value} (hf : L[i]? = some f) (hk : k < 5) (hc : f'.cells = f.cells.set k v) : rcells (L.set i f') = (rcells L).set (i * 5 + k) v := by
  induction L generalizing i with
  | nil => simp at hf
  | cons q t ih =>
    have e0 : ∀ (x : Rf) (y : List Rf), rcells (x :: y) = x.cells ++ rcells y := fun x y => by simp [rcells]
    have hq : ∀ x : Rf, x.cells.length = 5 := fun x => rfl
    cases i with
    | zero =>
      simp at hf
      subst hf
      rw [List.set_cons_zero, e0, e0, hc, Nat.zero_mul, Nat.zero_add, List.set_append_left _ _ (by rw [hq]; exact hk)]
    | succ i =>
      have h2 := ih (i := i) (by simpa using hf)
      rw [List.set_cons_succ, e0, e0, h2, List.set_append_right _ _ (by rw [hq]; omega), hq, show (i + 1) * 5 + k - 5 = i * 5 + k by omega]

theorem Rr.set {w : World} {base g n c : Nat} {L : List Rf} (h : Rr w base (some ⟨g, 0, none⟩) n c L) {i k : Nat} {f f' : Rf} {v : Value} (hf : L[i]? = some f) (hk : k < 5) (hc : f'.cells = f.cells.set k v) : Rr (w.setCell ⟨g, i * 5 + k, none⟩ v) base (some ⟨g, 0, none⟩) n c (L.set i f') := by
  refine ⟨by simpa using h.len, ?_, ?_⟩
  · rw [rcells_len, List.length_set, h.len]
  · rcases h.row.2 with ⟨h4, _⟩ | ⟨g', cap, cur, hv, hb, hg, h1, h2, h3, h4⟩
    · cases h4
    · cases hv
      refine .inr ⟨g, c, _, rfl, hb, heap_set hg (i * 5 + k) v, h1, h2, by simpa using h3, ?_⟩
      rw [Array.toList_setIfInBounds, List.take_set, h4, rcells_set hf hk hc]

section
variable {w w' : World} {T : Nat → Prop} {rb : Nat} {L : List Rf} {fs : List (Int × Int)} {st : Int}

/-- One file's record. -/
theorem Rv.file (h : Rv w T rb L fs st) {i : Nat} {f : Rf} (hf : L[i]? = some f) : ∃ g ac, w.cell? ⟨rb, 0, none⟩ = some (.slice (some ⟨g, 0, none⟩) L.length ac) ∧ rb ≠ g ∧ (∀ k, k < 5 → w.cell? ⟨g, i * 5 + k, none⟩ = f.cells[k]?) ∧ (∀ k, w.frozen? ⟨g, k, none⟩ = false) ∧ T g ∧
    ∀ k v f', k < 5 → f'.cells = f.cells.set k v → Rv (w.setCell ⟨g, i * 5 + k, none⟩ v) T rb (L.set i f') fs st ∧ Chg w (w.setCell ⟨g, i * 5 + k, none⟩ v) T := by
  obtain ⟨ao, ac, fo, fn, fc, h1, h2, h3, h4, h5⟩ := h.ex
  have hlt : i < L.length := (List.getElem?_eq_some_iff.1 hf).1
  obtain ⟨g, rfl, _, _⟩ := h2.addr (by omega)
  have tg := h2.ty g rfl
  have trb : Ty w rb 89 := ⟨_, _, h1⟩
  have hrg : rb ≠ g := trb.ne tg (by decide)
  refine ⟨g, ac, by rw [cell_at h1]; rfl, hrg, fun k hk => h2.at hf k hk, fun k => ?_, h5 g rfl, fun k v f' hk hc => ?_⟩
  · rcases h2.row.2 with ⟨h9, _⟩ | ⟨g', cap, cur, hv, _, hg, _⟩
    · cases h9
    · cases hv
      unfold World.frozen?
      rw [hg]
      simp
  · have hC := setCell_chg w g (i * 5 + k) v
    have hl : (L.set i f').length = L.length := by simp
    refine ⟨⟨⟨some ⟨g, 0, none⟩, ac, fo, fn, fc, ?_, ?_, h3.chg hC (fun a e k => (h4 a e).2.ne tg (by decide) k), fun a e => ⟨(h4 a e).1, (h4 a e).2.chg hC (fun k => (h4 a e).2.ne tg (by decide) k)⟩, h5⟩, h.tb, fun k hk => by simpa using h.lt k hk⟩, hC.mono (fun q _ e => e ▸ h5 g rfl)⟩
    · rw [hl]; exact (hC.block rb (lt_of_heap h1) hrg).trans h1
    · rw [hl]; exact h2.set hf hk hc

/-- A place and a file that is there. -/
structure Hit (L : List Rf) (s : ByteArray) (i : Nat) (f : Rf) : Prop where
  nm : nameB s = true
  at' : atN L s = some i
  get : L[i]? = some f
  th : f.th = true
theorem Hit.find {s : ByteArray} {i : Nat} {f : Rf} (h : Hit L s i f) : findR L s = ((i : Int), 0) := by
  unfold findR
  rw [if_neg (by simp [h.nm]), h.at']
  simp [h.get, h.th]
set_option maxRecDepth 100000 in
set_option maxHeartbeats 2000000 in
theorem append_r_lost (h : Rv w T rb L fs st) (hl : L.length ≤ 100000) (s : ByteArray) (hc : (findR L s).2 ≠ 0) (v : Value) : Calls Try.prog 18 #[.pointer (some ⟨rb, 0, none⟩), .string s, v] w fun e w' => e = .returned (.int .i64 (findR L s).2) ∧ w' = w := by
  have hf := find_r h hl s
  have d : ((findR L s).2 != 0) = true := by simpa using hc
  generalize (findR L s).1 = q at *
  generalize (findR L s).2 = q2 at *
  clear h hc
  go_enter Try.func18, Try.ntmps18
  go_wp2_with fail
  refine hf.mono ?_
  rintro e w1 ⟨rfl, rfl⟩
  go_wp2
  go_ret
  exact ⟨rfl, rfl⟩

set_option maxRecDepth 100000 in
set_option maxHeartbeats 4000000 in
theorem append_r (h : Rv w T rb L fs st) (hl : L.length ≤ 100000) (h0 : 0 ≤ st) (h1 : st < 4611686018427387904) {s : ByteArray} {i : Nat} {f : Rf} (hh : Hit L s i f) {xo : Option Addr} {k xc : Nat} {x : List UInt8} (hx : Bs w xo k xc x) (hxT : ∀ a, xo = some a → k = 0 ∨ ¬ T a.block) (hsz : f.bs.length + k ≤ 16777216) (j : Nat) (hj : (stepR fs k).1 = (j : Int)) :
    Calls Try.prog 18 #[.pointer (some ⟨rb, 0, none⟩), .string s, .slice xo k xc] w fun e w' => e = .returned (.int .i64 (stepR fs k).2) ∧ Rv w' T rb (L.set i { f with bs := f.bs ++ x.take j }) fs.tail (st + 1) ∧ Chg w w' T := by
  have hfd := find_r h hl s
  rw [hh.find] at hfd
  obtain ⟨g, ac, c0, hrg, hcl, _, _, _⟩ := h.file hh.get
  have c1 := hcl 1 (by decide)
  simp only [Rf.cells, List.getElem?_cons_zero, List.getElem?_cons_succ] at c1
  have hlt : i < L.length := (List.getElem?_eq_some_iff.1 hh.get).1
  have hst := step_r h h0 h1
  have hss : (⟨f.bs.toArray⟩ : ByteArray).size = f.bs.length := by simp [ByteArray.size]
  have i1 : (0 : Int) ≤ (i : Int) := by omega
  have i2 : (i : Int) < (L.length : Int) := by omega
  have hk1 := hx.len
  have hroom := hx.room
  have htop := hx.top
  unfold maxLen at htop
  have wz : IntKind.i64.wrap (16777216 - (f.bs.length : Int)) = 16777216 - (f.bs.length : Int) := by rw [IntWalk.i64_in _ (by omega)]
  have dz : decide ((16777216 : Int) - (f.bs.length : Int) < (k : Int)) = false := by simp; omega
  have hT1 : ∀ a, xo = some a → k = 0 ∨ ¬ T a.block := hxT
  have hjk : j ≤ k := by
    by_cases hc : (stepC fs).1 = 0
    · have := stepC_good fs k hc; omega
    · have := stepC_keep fs k hc; omega
  have hfin : ∀ w2, Rv w2 T rb L fs.tail (st + 1) → Chg w w2 T → ∃ g2 ac2, w2.cell? ⟨rb, 0, none⟩ = some (.slice (some ⟨g2, 0, none⟩) L.length ac2) ∧ rb ≠ g2 ∧ w2.cell? ⟨g2, i * 5 + 1, none⟩ = some (.string ⟨f.bs.toArray⟩) ∧ w2.frozen? ⟨g2, i * 5 + 1, none⟩ = false ∧ (∀ V, Chg w2 V (fun q => q = g2) → (convert 38 9 (.slice xo j xc)).run Try.prog V = .ok (.string ⟨(x.take j).toArray⟩) V) ∧ (Rv (w2.drew.setCell ⟨g2, i * 5 + 1, none⟩ (.string (⟨f.bs.toArray⟩ ++ ⟨(x.take j).toArray⟩))) T rb (L.set i { f with bs := f.bs ++ x.take j }) fs.tail (st + 1) ∧ Chg w (w2.drew.setCell ⟨g2, i * 5 + 1, none⟩ (.string (⟨f.bs.toArray⟩ ++ ⟨(x.take j).toArray⟩))) T) := by
    intro w2 hR2 hC2
    obtain ⟨g2, ac2, k0, k1, k2, k3, k4, _⟩ := hR2.file hh.get
    obtain ⟨g3, ac3, m0, m1, m2, m3, m4, m5⟩ := (hR2.grown (grown_drew w2 none)).file hh.get
    have e0 : g3 = g2 := by have := (grown_drew w2 none).cell k0 (by simp); rw [m0] at this; simp at this; exact this.1
    subst e0
    have kk := k2 1 (by decide)
    simp only [Rf.cells, List.getElem?_cons_zero, List.getElem?_cons_succ] at kk
    refine ⟨g3, ac2, k0, k1, kk, k3 _, fun V hV => ?_, ?_⟩
    · have hB := (bs_chg (bs_chg hx hC2 hT1) hV (fun a e => (hT1 a e).imp id (fun h9 e9 => h9 (e9 ▸ k4)))).take j (by omega)
      exact run_string_bs V 38 9 5 Try.underlying38 Try.underlying5 Try.underlying9 hB
    · rw [ba_append]
      have := m5 1 (.string ⟨(f.bs ++ x.take j).toArray⟩) { f with bs := f.bs ++ x.take j } (by decide) rfl
      exact ⟨this.1, (hC2.trans (Chg.of_grown (grown_drew w2 none) _)).trans this.2⟩
  have hs9 : ¬ 9223372036854775807 < (⟨f.bs.toArray⟩ : ByteArray).size + (⟨(x.take j).toArray⟩ : ByteArray).size := by simp [ByteArray.size]; omega
  have hcode := stepC_code fs k
  rw [← hcode]
  have HF : Hid _ := hfin
  have HS9 : Hid _ := hs9
  by_cases hc : (stepC fs).1 = 0
  · have hjk2 : j = k := by have := stepC_good fs k hc; omega
    subst hjk2
    rw [hc] at hst ⊢
    generalize (stepC fs).2 = kp at *
    clear h hcl hfin hs9 hj hcode hx hc hT1 hxT
    go_enter Try.func18, Try.ntmps18
    go_wp2_with fail
    refine hfd.mono ?_
    rintro e w1 ⟨rfl, rfl⟩
    go_wp2_with fail
    refine hst.mono ?_
    rintro e w2 ⟨rfl, hR2, hC2⟩
    obtain ⟨g2, ac2, k0, k1, k2, k3, k4, k5⟩ := HF.out w2 hR2 hC2
    go_wp2_with fail
    refine wp_mono (reg18 w2 rb g2 i L.length ac2 k0 k1 hlt xo j xc _ _ HS9.out k2 k3 k4 _ _ _ _ _ _ _ _ _ _ _ _ _ _ _ _ _ _ _ _ _ _ _ _ _ _ _ _ _ _ _ _ _ _ _ _ _ _ _ _ _ _ _ _ _ _ _ _ _ _ _ _ _ _ _ _ _ _ _ _ _ _ _) ?_
    rintro e a' w3 ⟨rfl, u46, u47, u48, u49, u50, u51, u52, u53, u54, u55, u56, u57, u58, u59, u60, u61, u62, u63, rfl, rfl⟩
    go_wp2
    go_ret
    exact ⟨rfl, k5⟩
  · have hjm := stepC_keep fs k hc
    rw [hj] at hjm
    have d0 : ((stepC fs).1 != 0) = true := by simpa using hc
    obtain ⟨kp, hkp⟩ : ∃ kp, (stepC fs).2 = kp := ⟨_, rfl⟩
    rw [hkp] at hst hjm
    generalize (stepC fs).1 = cd at *
    have hmn : min kp (k : Int) = (j : Int) := hjm.symm
    have s1 : (0 : Int) ≤ (j : Int) := by omega
    have s2 : (j : Int) ≤ (xc : Int) := by omega
    clear h hcl hfin hs9 hj hcode hx hc hT1 hxT hjm
    go_enter Try.func18, Try.ntmps18
    go_wp2_with fail
    refine hfd.mono ?_
    rintro e w1 ⟨rfl, rfl⟩
    go_wp2_with fail
    refine hst.mono ?_
    rintro e w2 ⟨rfl, hR2, hC2⟩
    obtain ⟨g2, ac2, k0, k1, k2, k3, k4, k5⟩ := HF.out w2 hR2 hC2
    cases xo with
    | none =>
      go_wp2_with fail
      refine wp_mono (reg18 w2 rb g2 i L.length ac2 k0 k1 hlt none j xc _ _ HS9.out k2 k3 k4 _ _ _ _ _ _ _ _ _ _ _ _ _ _ _ _ _ _ _ _ _ _ _ _ _ _ _ _ _ _ _ _ _ _ _ _ _ _ _ _ _ _ _ _ _ _ _ _ _ _ _ _ _ _ _ _ _ _ _ _ _ _ _) ?_
      rintro e a' w3 ⟨rfl, u46, u47, u48, u49, u50, u51, u52, u53, u54, u55, u56, u57, u58, u59, u60, u61, u62, u63, rfl, rfl⟩
      go_wp2
      go_ret
      exact ⟨rfl, k5⟩
    | some xa =>
      go_wp2_with fail
      refine wp_mono (reg18 w2 rb g2 i L.length ac2 k0 k1 hlt (some xa) j xc _ _ HS9.out k2 k3 k4 _ _ _ _ _ _ _ _ _ _ _ _ _ _ _ _ _ _ _ _ _ _ _ _ _ _ _ _ _ _ _ _ _ _ _ _ _ _ _ _ _ _ _ _ _ _ _ _ _ _ _ _ _ _ _ _ _ _ _ _ _ _ _) ?_
      rintro e a' w3 ⟨rfl, u46, u47, u48, u49, u50, u51, u52, u53, u54, u55, u56, u57, u58, u59, u60, u61, u62, u63, rfl, rfl⟩
      go_wp2
      go_ret
      exact ⟨rfl, k5⟩
end
end Go.Proofs.Ythkbakaodbceiaa

/-
  The document's Sync and Cut.
-/
namespace Go.Proofs.Ythkbakaodbceiaa
open Go.RowKit
set_option linter.unusedVariables false

section
variable {w w' : World} {T : Nat → Prop} {rb : Nat} {L : List Rf} {fs : List (Int × Int)} {st : Int}

/-- A file's record ahead of a store into it, in a world that draws. -/
theorem Rv.put {w2 : World} (hR2 : Rv w2 T rb L fs st) (hC2 : Chg w w2 T) {i : Nat} {f : Rf} (hg : L[i]? = some f) : ∃ g2 ac2, w2.cell? ⟨rb, 0, none⟩ = some (.slice (some ⟨g2, 0, none⟩) L.length ac2) ∧ rb ≠ g2 ∧ w2.cell? ⟨g2, i * 5 + 1, none⟩ = some (.string ⟨f.bs.toArray⟩) ∧ w2.cell? ⟨g2, i * 5 + 2, none⟩ = some (.int .i64 (f.la : Int)) ∧ (∀ k, w2.frozen? ⟨g2, k, none⟩ = false) ∧
    ∀ k v f', k < 5 → f'.cells = f.cells.set k v → Rv (w2.drew.setCell ⟨g2, i * 5 + k, none⟩ v) T rb (L.set i f') fs st ∧ Chg w (w2.drew.setCell ⟨g2, i * 5 + k, none⟩ v) T := by
  obtain ⟨g2, ac2, k0, k1, k2, k3, k4, _⟩ := hR2.file hg
  obtain ⟨g3, ac3, m0, m1, m2, m3, m4, m5⟩ := (hR2.grown (grown_drew w2 none)).file hg
  have e0 : g3 = g2 := by have := (grown_drew w2 none).cell k0 (by simp); rw [m0] at this; simp at this; exact this.1
  subst e0
  have kk := k2 1 (by decide)
  have kl := k2 2 (by decide)
  simp only [Rf.cells, List.getElem?_cons_zero, List.getElem?_cons_succ] at kk kl
  refine ⟨g3, ac2, k0, k1, kk, kl, k3, fun k v f' hk hc => ?_⟩
  have := m5 k v f' hk hc
  exact ⟨this.1, (hC2.trans (Chg.of_grown (grown_drew w2 none) _)).trans this.2⟩

set_option maxRecDepth 100000 in
set_option maxHeartbeats 2000000 in
theorem sync_r_lost (h : Rv w T rb L fs st) (hl : L.length ≤ 100000) (s : ByteArray) (hc : (findR L s).2 ≠ 0) : Calls Try.prog 20 #[.pointer (some ⟨rb, 0, none⟩), .string s] w fun e w' => e = .returned (.int .i64 (findR L s).2) ∧ w' = w := by
  have hf := find_r h hl s
  have d : ((findR L s).2 != 0) = true := by simpa using hc
  generalize (findR L s).1 = q at *
  generalize (findR L s).2 = q2 at *
  clear h hc
  go_enter Try.func20, Try.ntmps20
  go_wp2_with fail
  refine hf.mono ?_
  rintro e w1 ⟨rfl, rfl⟩
  go_wp2
  go_ret
  exact ⟨rfl, rfl⟩


set_option maxRecDepth 100000 in
set_option maxHeartbeats 4000000 in
theorem sync_r (h : Rv w T rb L fs st) (hl : L.length ≤ 100000) (h0 : 0 ≤ st) (h1 : st < 4611686018427387904) {s : ByteArray} {i : Nat} {f : Rf} (hh : Hit L s i f) (hla : f.la ≤ f.bs.length) (hsz : f.bs.length ≤ 16777216) (j : Nat) (hj : (stepR fs ((f.bs.length : Int) - f.la)).1 = (j : Int)) :
    Calls Try.prog 20 #[.pointer (some ⟨rb, 0, none⟩), .string s] w fun e w' => e = .returned (.int .i64 (stepR fs ((f.bs.length : Int) - f.la)).2) ∧ Rv w' T rb (L.set i { f with la := f.la + j }) fs.tail (st + 1) ∧ Chg w w' T := by
  have hfd := find_r h hl s
  rw [hh.find] at hfd
  have hlt : i < L.length := (List.getElem?_eq_some_iff.1 hh.get).1
  have hst := step_r h h0 h1
  have hss : (⟨f.bs.toArray⟩ : ByteArray).size = f.bs.length := by simp [ByteArray.size]
  have i1 : (0 : Int) ≤ (i : Int) := by omega
  have i2 : (i : Int) < (L.length : Int) := by omega
  have wz : IntKind.i64.wrap ((f.bs.length : Int) - (f.la : Int)) = (f.bs.length : Int) - (f.la : Int) := by rw [IntWalk.i64_in _ (by omega)]
  have hjk : j ≤ f.bs.length - f.la := by
    by_cases hc : (stepC fs).1 = 0
    · have := stepC_good fs ((f.bs.length : Int) - f.la) hc; omega
    · have := stepC_keep fs ((f.bs.length : Int) - f.la) hc; omega
  have hfin : ∀ w2, Rv w2 T rb L fs.tail (st + 1) → Chg w w2 T → ∃ g2 ac2, w2.cell? ⟨rb, 0, none⟩ = some (.slice (some ⟨g2, 0, none⟩) L.length ac2) ∧ rb ≠ g2 ∧ w2.cell? ⟨g2, i * 5 + 1, none⟩ = some (.string ⟨f.bs.toArray⟩) ∧ w2.cell? ⟨g2, i * 5 + 2, none⟩ = some (.int .i64 (f.la : Int)) ∧ w2.frozen? ⟨g2, i * 5 + 2, none⟩ = false ∧ (Rv (w2.drew.setCell ⟨g2, i * 5 + 2, none⟩ (.int .i64 ((f.la : Int) + (j : Int)))) T rb (L.set i { f with la := f.la + j }) fs.tail (st + 1) ∧ Chg w (w2.drew.setCell ⟨g2, i * 5 + 2, none⟩ (.int .i64 ((f.la : Int) + (j : Int)))) T) := by
    intro w2 hR2 hC2
    obtain ⟨g2, ac2, k0, k1, k2, k3, k4, k5⟩ := hR2.put hC2 hh.get
    exact ⟨g2, ac2, k0, k1, k2, k3, k4 _, k5 2 (.int .i64 ((f.la : Int) + (j : Int))) { f with la := f.la + j } (by decide) (by simp [Rf.cells])⟩
  have hw2 : IntKind.i64.wrap ((f.la : Int) + (j : Int)) = (f.la : Int) + (j : Int) := by rw [IntWalk.i64_in _ (by omega)]
  have hcode := stepC_code fs ((f.bs.length : Int) - f.la)
  rw [← hcode]
  have HF : Hid _ := hfin
  have HW2 : Hid _ := hw2
  by_cases hc : (stepC fs).1 = 0
  · have hjk2 : (f.bs.length : Int) - (f.la : Int) = (j : Int) := by have := stepC_good fs ((f.bs.length : Int) - f.la) hc; omega
    rw [hc] at hst ⊢
    rw [hjk2] at wz
    have HJ : Hid _ := hjk2
    generalize (stepC fs).2 = kp at *
    clear h hfin hj hcode hc hw2 hjk2
    go_enter Try.func20, Try.ntmps20
    go_wp2_with fail
    refine hfd.mono ?_
    rintro e w1 ⟨rfl, rfl⟩
    go_wp2_with fail
    refine hst.mono ?_
    rintro e w2 ⟨rfl, hR2, hC2⟩
    obtain ⟨g2, ac2, k0, k1, k2, k3, _, _⟩ := HF.out w2 hR2 hC2
    have hjk3 := HJ.out
    go_wp2_with fail
    go_quiet (fail)
    have hgq := grown_drewN w2 nq none
    obtain ⟨g3, ac3, p0, p1, p2, p3, p4, p5⟩ := HF.out _ (hR2.grown hgq) (hC2.trans (Chg.of_grown hgq _))
    clear k0 k1 k2 k3 hR2 hC2 hjk3
    generalize w2.drewN nq = w3 at *
    go_wp2_with fail
    refine wp_mono (reg20 w3 rb g3 i L.length ac3 p0 p1 hlt (f.la : Int) (j : Int) p3 p4 HW2.out _ _ _ _ _ _ _ _ _ _ _ _ _ _ _ _ _ _ _ _ _ _ _ _ _ _ _ _ _ _ _ _ _ _ _ _ _ _ _ _ _ _ _ _ _ _ _ _ _ _ _ _ _ _ _ _ _ _ _ _ _ _ _) ?_
    rintro e a' w4 ⟨rfl, u47, u48, u49, u50, u51, u52, u53, u54, u55, u56, u57, u58, u59, u60, u61, u62, u63, rfl, rfl⟩
    go_wp2
    go_ret
    exact ⟨rfl, p5⟩
  · have hjm := stepC_keep fs ((f.bs.length : Int) - f.la) hc
    rw [hj] at hjm
    have d0 : ((stepC fs).1 != 0) = true := by simpa using hc
    obtain ⟨kp, hkp⟩ : ∃ kp, (stepC fs).2 = kp := ⟨_, rfl⟩
    rw [hkp] at hst hjm
    generalize (stepC fs).1 = cd at *
    obtain ⟨mo, hmo⟩ : ∃ mo : Int, (f.bs.length : Int) - (f.la : Int) = mo := ⟨_, rfl⟩
    rw [hmo] at wz hjm
    have hmn : min mo kp = (j : Int) := by omega
    have HM : Hid _ := hmn
    have HO : Hid _ := hmo
    clear h hfin hj hcode hc hw2 hjm hmn hmo
    go_enter Try.func20, Try.ntmps20
    go_wp2_with fail
    refine hfd.mono ?_
    rintro e w1 ⟨rfl, rfl⟩
    go_wp2_with fail
    refine hst.mono ?_
    rintro e w2 ⟨rfl, hR2, hC2⟩
    obtain ⟨g2, ac2, k0, k1, k2, k3, _, _⟩ := HF.out w2 hR2 hC2
    have hmo := HO.out
    go_wp2_with fail
    go_quiet (fail)
    have hgq := grown_drewN w2 nq none
    obtain ⟨g3, ac3, p0, p1, p2, p3, p4, p5⟩ := HF.out _ (hR2.grown hgq) (hC2.trans (Chg.of_grown hgq _))
    clear k0 k1 k2 k3 hR2 hC2 hmo
    generalize w2.drewN nq = w3 at *
    have hmn := HM.out
    go_wp2_with fail
    refine wp_mono (reg20 w3 rb g3 i L.length ac3 p0 p1 hlt (f.la : Int) (j : Int) p3 p4 HW2.out _ _ _ _ _ _ _ _ _ _ _ _ _ _ _ _ _ _ _ _ _ _ _ _ _ _ _ _ _ _ _ _ _ _ _ _ _ _ _ _ _ _ _ _ _ _ _ _ _ _ _ _ _ _ _ _ _ _ _ _ _ _ _) ?_
    rintro e a' w4 ⟨rfl, u47, u48, u49, u50, u51, u52, u53, u54, u55, u56, u57, u58, u59, u60, u61, u62, u63, rfl, rfl⟩
    go_wp2
    go_ret
    exact ⟨rfl, p5⟩

set_option maxRecDepth 100000 in
set_option maxHeartbeats 2000000 in
theorem cut_r_lost (h : Rv w T rb L fs st) (hl : L.length ≤ 100000) (s : ByteArray) (hc : (findR L s).2 ≠ 0) (v : Value) : Calls Try.prog 24 #[.pointer (some ⟨rb, 0, none⟩), .string s, v] w fun e w' => e = .returned (.int .i64 (findR L s).2) ∧ w' = w := by
  have hf := find_r h hl s
  have d : ((findR L s).2 != 0) = true := by simpa using hc
  generalize (findR L s).1 = q at *
  generalize (findR L s).2 = q2 at *
  clear h hc
  go_enter Try.func24, Try.ntmps24
  go_wp2_with fail
  refine hf.mono ?_
  rintro e w1 ⟨rfl, rfl⟩
  go_wp2
  go_ret
  exact ⟨rfl, rfl⟩


set_option maxRecDepth 100000 in
set_option maxHeartbeats 2000000 in
theorem cut_r_range (h : Rv w T rb L fs st) (hl : L.length ≤ 100000) {s : ByteArray} {i : Nat} {f : Rf} (hh : Hit L s i f) (hsz : f.bs.length ≤ 16777216) (z : Int) (hz : z < 0 ∨ (f.bs.length : Int) < z) :
    Calls Try.prog 24 #[.pointer (some ⟨rb, 0, none⟩), .string s, .int .i64 z] w fun e w' => e = .returned (.int .i64 4) ∧ w' = w := by
  have hfd := find_r h hl s
  rw [hh.find] at hfd
  obtain ⟨g, ac, c0, hrg, hcl, _, _, _⟩ := h.file hh.get
  have c1 := hcl 1 (by decide)
  simp only [Rf.cells, List.getElem?_cons_zero, List.getElem?_cons_succ] at c1
  have hlt : i < L.length := (List.getElem?_eq_some_iff.1 hh.get).1
  have hss : (⟨f.bs.toArray⟩ : ByteArray).size = f.bs.length := by simp [ByteArray.size]
  have i1 : (0 : Int) ≤ (i : Int) := by omega
  have i2 : (i : Int) < (L.length : Int) := by omega
  clear h hcl
  by_cases hz0 : z < 0
  · have d0 : decide (z < 0) = true := by simpa using hz0
    go_enter Try.func24, Try.ntmps24
    go_wp2_with fail
    refine hfd.mono ?_
    rintro e w1 ⟨rfl, rfl⟩
    go_wp2
    go_ret
    exact ⟨rfl, rfl⟩
  · have d0 : decide (z < 0) = false := by simpa using hz0
    have d1 : decide ((f.bs.length : Int) < z) = true := by simp; omega
    go_enter Try.func24, Try.ntmps24
    go_wp2_with fail
    refine hfd.mono ?_
    rintro e w1 ⟨rfl, rfl⟩
    go_wp2
    go_ret
    exact ⟨rfl, rfl⟩

set_option maxRecDepth 100000 in
set_option maxHeartbeats 4000000 in
theorem cut_r (h : Rv w T rb L fs st) (hl : L.length ≤ 100000) (h0 : 0 ≤ st) (h1 : st < 4611686018427387904) {s : ByteArray} {i : Nat} {f : Rf} (hh : Hit L s i f) (hsz : f.bs.length ≤ 16777216) (k : Nat) (hk : k ≤ f.bs.length) :
    Calls Try.prog 24 #[.pointer (some ⟨rb, 0, none⟩), .string s, .int .i64 k] w fun e w' => e = .returned (.int .i64 (stepC fs).1) ∧ Rv w' T rb (if (stepC fs).1 = 0 then L.set i { f with bs := f.bs.take k, la := min f.la k } else L) fs.tail (st + 1) ∧ Chg w w' T := by
  have hfd := find_r h hl s
  rw [hh.find] at hfd
  obtain ⟨g, ac, c0, hrg, hcl, _, _, _⟩ := h.file hh.get
  have c1 := hcl 1 (by decide)
  simp only [Rf.cells, List.getElem?_cons_zero, List.getElem?_cons_succ] at c1
  have hlt : i < L.length := (List.getElem?_eq_some_iff.1 hh.get).1
  have hst := step_r h h0 h1
  have hss : (⟨f.bs.toArray⟩ : ByteArray).size = f.bs.length := by simp [ByteArray.size]
  have i1 : (0 : Int) ≤ (i : Int) := by omega
  have i2 : (i : Int) < (L.length : Int) := by omega
  have d0 : decide ((k : Int) < 0) = false := by simp
  have d1 : decide ((f.bs.length : Int) < (k : Int)) = false := by simp; omega
  have d1n : decide (f.bs.length < k) = false := by simp; omega
  have hget2 : (L.set i { f with bs := f.bs.take k })[i]? = some { f with bs := f.bs.take k } := by simp [hlt]
  have hset2 : (L.set i { f with bs := f.bs.take k }).set i { f with bs := f.bs.take k, la := min f.la k } = L.set i { f with bs := f.bs.take k, la := min f.la k } := by simp
  have hl2 : (L.set i { f with bs := f.bs.take k }).length = L.length := by simp
  by_cases hc : (stepC fs).1 = 0
  · rw [hc] at hst ⊢
    rw [if_pos rfl]
    generalize (stepC fs).2 = kp at *
    have hfin : ∀ w2, Rv w2 T rb L fs.tail (st + 1) → Chg w w2 T → ∃ g2 ac2, w2.cell? ⟨rb, 0, none⟩ = some (.slice (some ⟨g2, 0, none⟩) L.length ac2) ∧ rb ≠ g2 ∧ w2.cell? ⟨g2, i * 5 + 1, none⟩ = some (.string ⟨f.bs.toArray⟩) ∧ w2.frozen? ⟨g2, i * 5 + 1, none⟩ = false ∧ (Rv (w2.drew.setCell ⟨g2, i * 5 + 1, none⟩ (.string ((⟨f.bs.toArray⟩ : ByteArray).extract 0 k))) T rb (L.set i { f with bs := f.bs.take k }) fs.tail (st + 1) ∧ Chg w (w2.drew.setCell ⟨g2, i * 5 + 1, none⟩ (.string ((⟨f.bs.toArray⟩ : ByteArray).extract 0 k))) T) := by
      intro w2 hR2 hC2
      obtain ⟨g2, ac2, k0, k1, k2, k3, k4, k5⟩ := hR2.put hC2 hh.get
      rw [ba_take0 _ _ hk]
      exact ⟨g2, ac2, k0, k1, k2, k4 _, k5 1 (.string ⟨(f.bs.take k).toArray⟩) { f with bs := f.bs.take k } (by decide) rfl⟩
    have hfin2 : ∀ w2, Rv w2 T rb (L.set i { f with bs := f.bs.take k }) fs.tail (st + 1) → Chg w w2 T → ∃ g2 ac2, w2.cell? ⟨rb, 0, none⟩ = some (.slice (some ⟨g2, 0, none⟩) L.length ac2) ∧ rb ≠ g2 ∧ w2.cell? ⟨g2, i * 5 + 2, none⟩ = some (.int .i64 (f.la : Int)) ∧ w2.frozen? ⟨g2, i * 5 + 2, none⟩ = false ∧ (Rv (w2.drew.setCell ⟨g2, i * 5 + 2, none⟩ (.int .i64 (min (f.la : Int) (k : Int)))) T rb (L.set i { f with bs := f.bs.take k, la := min f.la k }) fs.tail (st + 1) ∧ Chg w (w2.drew.setCell ⟨g2, i * 5 + 2, none⟩ (.int .i64 (min (f.la : Int) (k : Int)))) T) := by
      intro w2 hR2 hC2
      obtain ⟨g2, ac2, k0, k1, k2, k3, k4, k5⟩ := hR2.put hC2 hget2
      rw [hl2] at k0
      have := k5 2 (.int .i64 (min (f.la : Int) (k : Int))) { f with bs := f.bs.take k, la := min f.la k } (by decide) (by simp [Rf.cells]; omega)
      rw [hset2] at this
      exact ⟨g2, ac2, k0, k1, k3, k4 _, this⟩
    have HF : Hid _ := hfin
    have HF2 : Hid _ := hfin2
    have HK : Hid (k ≤ (⟨f.bs.toArray⟩ : ByteArray).size) := (by show _ ≤ _; rw [hss]; exact hk)
    clear h hcl hfin hfin2 hc hget2 hset2 hl2
    go_enter Try.func24, Try.ntmps24
    go_wp2_with fail
    refine hfd.mono ?_
    rintro e w1 ⟨rfl, rfl⟩
    go_wp2_with fail
    refine hst.mono ?_
    rintro e w2 ⟨rfl, hR2, hC2⟩
    obtain ⟨g2, ac2, k0, k1, k2, k3, k5, k6⟩ := HF.out w2 hR2 hC2
    clear hR2 hC2
    go_wp2_with fail
    refine wp_mono (reg24a w2 rb g2 i L.length ac2 k0 k1 hlt k _ HK.out k2 k3 _ _ _ _ _ _ _ _ _ _ _ _ _ _ _ _ _ _ _ _ _ _ _ _ _ _ _ _ _ _ _ _ _ _ _ _ _ _ _ _ _ _ _ _ _ _ _ _ _ _ _ _ _ _ _ _ _ _ _ _ _ _ _ _ _ _ _ _ _ _ _ _ _ _ _) ?_
    rintro e a' w3 ⟨rfl, u43, u44, u45, u46, u47, u48, u49, u50, u51, u52, u53, u54, u55, u56, u57, u58, u59, rfl, hw3⟩
    rw [← hw3] at k5 k6
    obtain ⟨g3, ac3, p0, p1, p2, p3, p4⟩ := HF2.out w3 k5 k6
    clear k0 k1 k2 k3 k5 k6 hw3
    go_wp2_with fail
    refine wp_mono (reg24b w3 rb g3 i L.length ac3 p0 p1 hlt (f.la : Int) (k : Int) p2 p3 _ _ _ _ _ _ _ _ _ _ _ _ _ _ _ _ _ _ _ _ _ _ _ _ _ _ _ _ _ _ _ _ _ _ _ _ _ _ _ _ _ _ _ _ _ _ _ _ _ _ _ _ _ _ _ _ _ _ _ _ _ _ _ _ _ _ _ _ _ _ _ _ _ _ _) ?_
    rintro e a' w4 ⟨rfl, u60, u61, u62, u63, u64, u65, u66, u67, u68, u69, u70, u71, u72, u73, u74, u75, u76, rfl, rfl⟩
    go_wp2
    go_ret
    exact ⟨rfl, p4⟩
  · rw [if_neg hc]
    have d2 : ((stepC fs).1 != 0) = true := by simpa using hc
    generalize (stepC fs).2 = kp at *
    generalize (stepC fs).1 = cd at *
    clear h hcl hc hget2 hset2 hl2
    go_enter Try.func24, Try.ntmps24
    go_wp2_with fail
    refine hfd.mono ?_
    rintro e w1 ⟨rfl, rfl⟩
    go_wp2_with fail
    refine hst.mono ?_
    rintro e w2 ⟨rfl, hR2, hC2⟩
    go_wp2
    go_ret
    exact ⟨rfl, hR2, hC2⟩
end
end Go.Proofs.Ythkbakaodbceiaa
