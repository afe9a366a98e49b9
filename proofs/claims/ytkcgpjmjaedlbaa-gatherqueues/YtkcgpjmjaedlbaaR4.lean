/-
  Take of what may be taken.
-/
import Derived.Test.YtkcgpjmjaedlbaaR3
namespace Go.Proofs.Ytkcgpjmjaedlbaa
open Go.RowKit
set_option linter.unusedVariables false
/-- The blocks that the loop of Take writes. -/
def tw (o : Nat) (ro : Option Addr) (k : Nat) : Prop := k = o ∨ blk ro = some k
/-- What Take answers of what may be taken. -/
structure TakR (w0 w' : World) (b g bnd f : Nat) (take : Int) (l : List Cl) (o k : Nat) (ro : Option Addr) (N rc : Nat) : Prop where
  tk : Tk take (ys l) k
  row : ∃ cs, Ro5 w' o cs ∧ Als cs (l.take k) ∧ ∀ c ∈ cs, Rs w' c.y.o c.y.n c.y.c c.y.l
  recs : ∃ rs, Rs w' ro N rc rs ∧ ds rs = ds (flat (ys (l.take k)))
  num : N = (flat (ys (l.take k))).length
  rg : Rq.Rg w' b g bnd ((f + k) % bnd) (l.drop k)
  chg : Chg w0 w' (Rq.two b g)
theorem ys_take (l : List Cl) (n : Nat) : ys (l.take n) = (ys l).take n := by simp [ys, List.map_take]
theorem ys_drop (l : List Cl) (n : Nat) : ys (l.drop n) = (ys l).drop n := by simp [ys, List.map_drop]
theorem ys_snoc (l : List Cl) (c : Cl) : ys (l ++ [c]) = ys l ++ [c.y] := by simp [ys]
theorem ds_append (l k : List Rc) : ds (l ++ k) = ds l ++ ds k := by simp [ds]
theorem set_mid (done rest : List Cl) (c x : Cl) : (done ++ c :: rest).set done.length x = done ++ [x] ++ rest := by
  rw [List.set_append_right _ _ (by omega)]
  simp
namespace Rq
set_option maxRecDepth 100000 in
set_option maxHeartbeats 4000000 in
theorem take_ok (w : World) (take : Int) (b g bnd f : Nat) (l : List Cl) (h : Rg w b g bnd f l) (hr : ∀ c ∈ l, Aq w (two b g) c.y) (hs : ∀ c ∈ l, c.y.n ≤ 4096) (hok : lookC take l = 0) :
    Calls Try.prog 30 #[.pointer (some ⟨b, 0, none⟩), .int .i64 take] w fun e w' => ∃ o k ro N rc, e = .returned (.tuple #[.slice (some ⟨o, 0, none⟩) k k, .slice ro N rc, .int .i64 0]) ∧ TakR w w' b g bnd f take l o k ro N rc := by
  have hlen := h.len
  have htop := h.top
  have hblt := h.lt
  have hglt := h.glt
  have hlr : ∀ c ∈ l, c.y.l ≠ [] := fun c hc => (fitsR_ok ((lref_ok (refR_pos (lookC_ok hok).2).2).2 c.y (List.mem_map.2 ⟨c, hc, rfl⟩))).2.1
  have hfl : (flat (ys l)).length ≤ 65536 := flat_len (refR_pos (lookC_ok hok).2).2
  have hlk := look_any w take b g bnd f l h (fun c hc => (hr c hc).rs) hs
  go_enter Try.func30, Try.ntmps30
  go_wp2_with fail
  refine hlk.mono ?_
  rintro e w1 ⟨⟨k, ce, rfl, hF⟩, hg1⟩
  obtain ⟨rfl, hTk⟩ : ce = 0 ∧ Tk take (ys l) k := by
    rcases hF with h | h
    · exact absurd hok h.1
    · exact h.2
  have hkl : k ≤ l.length := by have := hTk.le; rw [ys_len] at this; exact this
  have h1 := h.grown hg1
  clear hF hlk h
  go_wp2_with fail
  refine (drop_any _ b g bnd f k l h1 hkl).mono ?_
  rintro e w2 ⟨o, rfl, hro, hol, hrg, hc2⟩
  have hC2 : Chg w w2 (two b g) := (Chg.of_grown hg1 _).trans hc2
  have hs1 := hg1.size
  have hos : w.heap.size ≤ o := by omega
  have hob : o ≠ b := by omega
  have hog : o ≠ g := by omega
  have ho2 := hro.lt
  obtain ⟨lk, hlk⟩ : ∃ lk, l.take k = lk := ⟨_, rfl⟩
  have hlkl : lk.length = k := by rw [← hlk]; simp; omega
  have hlm : ∀ c ∈ lk, c ∈ l := fun c hc => List.mem_of_mem_take (by rw [hlk]; exact hc)
  have hfl2 : ∀ i, (flat (ys (lk.take i))).length ≤ 65536 := fun i => by
    rw [← hlk, List.take_take]
    have h9 := flat_append (ys (l.take (min i k))) (ys (l.drop (min i k)))
    have h8 : ys (l.take (min i k)) ++ ys (l.drop (min i k)) = ys l := by rw [ys_take, ys_drop, List.take_append_drop]
    rw [h8] at h9
    rw [h9, List.length_append] at hfl
    omega
  rw [hlk] at hro
  have hrs : ∀ W, Chg w2 W (fun x => x = o) → ∀ c ∈ lk, Rs W c.y.o c.y.n c.y.c c.y.l := fun W hW c hc => hr c (hlm c hc) W (hC2.then hW (fun q hq e => by omega))
  have hne : ∀ c ∈ lk, c.y.l ≠ [] := fun c hc => hlr c (hlm c hc)
  have hnn : ∀ c ∈ lk, c.y.n ≤ 4096 := fun c hc => hs c (hlm c hc)
  clear hr hlr h1 hc2 hg1 hfl hs
  go_wp2_with fail
  go_loopw [11, 12, 13, 31] (fun r' _ _ i' wr => ∃ (i m : Nat) (ro : Option Addr) (rc : Nat) (rs : List Rc) (done : List Cl), i ≤ k ∧ i' = .int .i64 i ∧ r' = .slice ro m rc ∧ done.length = i ∧ Ro5 wr o (done ++ lk.drop i) ∧ Als done (lk.take i) ∧ (∀ c ∈ done, Aq wr (tw o ro) c.y) ∧ Hid ((flat (ys (lk.take i))).length = m) ∧ Rw wr w2.heap.size ro m rc rs ∧ Hid (ds rs = ds (flat (ys (lk.take i)))) ∧ (∀ r ∈ rs, Ak wr (tw o ro) r) ∧ Chg w2 wr (fun x => x = o)) (fun _ _ _ i' _ => k - (intOf i').toNat)
  case atStart => exact ⟨0, 0, none, 0, [], [], Nat.zero_le _, rfl, rfl, rfl, by simpa using hro, ⟨rfl, fun j c d hc => (by simp at hc)⟩, fun c hc => (by cases hc), (by simp [ys, flat] : _ = _), Rw.nil _ _, (by simp [ys, flat, ds] : _ = _), fun r hr => (by cases hr), Chg.refl _ _⟩
  case round =>
    obtain ⟨i, m, ro, rc, rs, done, hi, rfl, rfl, hdl, hro5, hals, hdq, hm, hRw, hds, hak, hcr⟩ := hrel
    by_cases hlt : i < k
    · have hd : decide ((i : Int) < (k : Int)) = true := by simp; omega
      have hil : i < lk.length := by omega
      have hrsi := fun W hW => hrs W hW _ (List.getElem_mem hil)
      have hnei := hne _ (List.getElem_mem hil)
      have hnni := hnn _ (List.getElem_mem hil)
      have hget : (done ++ lk.drop i)[i]? = some lk[i] := by rw [List.getElem?_append_right (by omega), hdl, Nat.sub_self, List.drop_eq_getElem_cons hil]; rfl
      have hdrop : lk.drop i = lk[i] :: lk.drop (i + 1) := List.drop_eq_getElem_cons hil
      have htk : Hid (lk.take (i + 1) = lk.take i ++ [lk[i]]) := List.take_succ_eq_append_getElem hil
      have hfl3 := hfl2 (i + 1)
      rw [htk.out, ys_snoc, flat_append, flat_one, List.length_append, hm.out, (hrsi wr hcr).len] at hfl3
      generalize lk[i] = u at *
      obtain ⟨u0, u1, u2, u3, u4⟩ := hro5.five hget
      have i1 : (0 : Int) ≤ (i : Int) := by omega
      have i2 : (i : Int) < (k : Int) := by omega
      have hun : 0 < u.y.n := by have := (hrsi wr hcr).len; have := List.length_pos_iff.2 hnei; omega
      have htk2 : Hid (ys (lk.take (i + 1)) = ys (lk.take i) ++ [u.y]) := by show _ = _; rw [htk.out, ys_snoc]
      have ga := alloc_grown wr (.cells #[.int .i64 u.k, .int .i64 u.p, .slice u.y.o u.y.n u.y.c, .int .i64 u.b, .int .i64 u.i] 55)
      have kA := heap_alloc_new wr (.cells #[.int .i64 u.k, .int .i64 u.p, .slice u.y.o u.y.n u.y.c, .int .i64 u.b, .int .i64 u.i] 55)
      have hsA : (wr.alloc (.cells #[.int .i64 u.k, .int .i64 u.p, .slice u.y.o u.y.n u.y.c, .int .i64 u.b, .int .i64 u.i] 55)).heap.size = wr.heap.size + 1 := by simp
      have hsr := hcr.size
      have hrb : ∀ q, blk ro = some q → w2.heap.size ≤ q ∧ q < wr.heap.size := fun q hq => hRw.from_base q hq
      have hRsA := hrsi _ (hcr.trans (Chg.of_grown ga _))
      have hcp1 := copy_any _ u.y.o u.y.n u.y.c u.y.l hRsA (by omega) (fun r hr => ⟨(hRsA.shows r hr).kb, (hRsA.shows r hr).vb⟩)
      rw [hsA] at hcp1
      go_wp2_with fail
      refine hcp1.mono ?_
      rintro e w3 ⟨rs1, rfl, hR1, hD1, hO1, hg3⟩
      have hs3 := hg3.size
      have hl1 := (hR1.from_base _ rfl).2
      have k3 := heap_kept hg3 kA (by simp)
      have c2 := cell_of (i := 2) (v := .slice u.y.o u.y.n u.y.c) k3 rfl
      have hRw3 := (hRw.kept ga (by cases ro <;> simp [blk])).kept hg3 (by cases ro <;> simp [blk])
      have hS1 := hR1.shows (fun r hr => (hO1 r hr).rk)
      clear hcp1 hRsA
      go_wp2_with (at_builtin; refine wpList_append_recs2 _ rfl _ _ rfl w2.heap.size rfl hRw3 rfl hS1 hun (by omega) (by omega) ?_)
      intro g4 rc4 w4 hR4 hg4 hat hl4
      have hs4 := hg4.size
      have k4 := heap_kept hg4 k3 (by intro e; have := hrb _ e.symm; omega)
      have d2 := cell_of (i := 2) (v := .slice u.y.o u.y.n u.y.c) k4 rfl
      have hg4b := (hR4.from_base g4 rfl).1
      have hC24 : Chg w2 w4 (fun x => x = o) := ((hcr.trans (Chg.of_grown ga _)).trans (Chg.of_grown hg3 _)).then (Chg.of_row hg4 (S := fun q => blk ro = some q) (fun q e => e)) (fun q hq e => by have := hrb q e; omega)
      have hRs4 := hrsi _ hC24
      have hcp2 := copy_any _ u.y.o u.y.n u.y.c u.y.l hRs4 (by omega) (fun r hr => ⟨(hRs4.shows r hr).kb, (hRs4.shows r hr).vb⟩)
      clear hS1 hRw3 c2
      go_wp2_with fail
      refine hcp2.mono ?_
      rintro e w5 ⟨rs2, rfl, hR2, hD2, hO2, hg5⟩
      have hs5 := hg5.size
      have HC5 : Chg wr w5 (fun q => blk ro = some q) := (((Chg.of_grown ga _).trans (Chg.of_grown hg3 _)).trans (Chg.of_row hg4 (fun q e => e))).trans (Chg.of_grown hg5 _)
      have hro55 := hro5.chg HC5 (fun e => by have := hrb _ e; omega)
      obtain ⟨v0, v1, v2, v3, v4⟩ := hro55.five hget
      have vf := hro55.frozen
      have hT := hro55.turn hget ⟨some ⟨w4.heap.size, 0, none⟩, u.y.n, u.y.n, rs2⟩
      have hro6 := hT.1
      have hc6 := hT.2
      rw [hdrop, ← hdl, set_mid, hdl] at hro6
      have HC6 : Chg wr (w5.setCell ⟨o, i * 5 + 2, none⟩ (.slice (some ⟨w4.heap.size, 0, none⟩) u.y.n u.y.n)) (tw o ro) := (HC5.mono (fun q _ e => Or.inr e)).trans (hc6.mono (fun q _ e => Or.inl e))
      have hTT : ∀ q, q < w3.heap.size → tw o (some ⟨g4, 0, none⟩) q → tw o ro q := fun q hq e => by
        rcases e with e | e
        · exact Or.inl e
        · have e2 : g4 = q := Option.some.inj e
          subst e2
          rcases hat with h9 | h9
          · exact Or.inr h9
          · omega
      have hdq6 : ∀ c ∈ done ++ [u.turn ⟨some ⟨w4.heap.size, 0, none⟩, u.y.n, u.y.n, rs2⟩], Aq (w5.setCell ⟨o, i * 5 + 2, none⟩ (.slice (some ⟨w4.heap.size, 0, none⟩) u.y.n u.y.n)) (tw o (some ⟨g4, 0, none⟩)) c.y := fun c hc => by
        rcases List.mem_append.1 hc with hc | hc
        · exact (hdq c hc).step HC6 (fun q hq e => hTT q (by omega) e)
        · obtain rfl : c = _ := by simpa using hc
          refine Aq.chg (Aq.own hR2 hO2 (by omega) (fun q e => ?_)) (hc6.mono (fun q _ e => Or.inl e))
          left
          rcases e with e | e
          · omega
          · have e2 : g4 = q := Option.some.inj e
            omega
      have hC36 : Chg w3 (w5.setCell ⟨o, i * 5 + 2, none⟩ (.slice (some ⟨w4.heap.size, 0, none⟩) u.y.n u.y.n)) (tw o ro) := ((Chg.of_row hg4 (fun q e => Or.inr e)).trans (Chg.of_grown hg5 _)).trans (hc6.mono (fun q _ e => Or.inl e))
      have hak6 : ∀ r ∈ rs ++ rs1, Ak (w5.setCell ⟨o, i * 5 + 2, none⟩ (.slice (some ⟨w4.heap.size, 0, none⟩) u.y.n u.y.n)) (tw o (some ⟨g4, 0, none⟩)) r := fun r hr => by
        rcases List.mem_append.1 hr with hr | hr
        · exact (hak r hr).step HC6 (fun q hq e => hTT q (by omega) e)
        · refine Ak.step (Ak.own (hO1 r hr) (fun q e => ?_)) hC36 hTT
          left
          rcases e with e | e
          · omega
          · have := hrb q e
            omega
      have hR6 := (hR4.kept hg5 (by simp [blk])).kept (setCell_grown w5 o (i * 5 + 2) (.slice (some ⟨w4.heap.size, 0, none⟩) u.y.n u.y.n)) (by right; simp [blk]; omega)
      have hal6 : Als (done ++ [u.turn ⟨some ⟨w4.heap.size, 0, none⟩, u.y.n, u.y.n, rs2⟩]) (lk.take (i + 1)) := by
        rw [htk.out]
        exact hals.snoc ⟨rfl, rfl, rfl, rfl, rfl, hD2⟩
      have hm6 : Hid ((flat (ys (lk.take (i + 1)))).length = m + u.y.n) := by
        show _ = _
        rw [htk2.out, flat_append, flat_one, List.length_append, hm.out, hRs4.len]
      have hds6 : Hid (ds (rs ++ rs1) = ds (flat (ys (lk.take (i + 1))))) := by
        show _ = _
        rw [htk2.out, flat_append, flat_one, ds_append, ds_append, hds.out, hD1]
      have hcr6 : Chg w2 (w5.setCell ⟨o, i * 5 + 2, none⟩ (.slice (some ⟨w4.heap.size, 0, none⟩) u.y.n u.y.n)) (fun x => x = o) := (hC24.trans (Chg.of_grown hg5 _)).trans hc6
      have hdl6 : (done ++ [u.turn ⟨some ⟨w4.heap.size, 0, none⟩, u.y.n, u.y.n, rs2⟩]).length = i + 1 := by simp [hdl]
      clear hC36 hTT HC6 HC5 hT hc6 hR1 hO1 hR2 hO2 hR4 hcp2 hRs4 hdq hak hals hm hds hro5 hro55 hC24 hcr hD1 hD2 hRw htk htk2 hdrop hget hrsi
      go_wp2
      go_roundw
      case rel => exact ⟨i + 1, m + u.y.n, _, rc4, _, _, by omega, by go_num, rfl, hdl6, hro6, hal6, hdq6, hm6, hR6, hds6, hak6, hcr6⟩
      case measure => simp [intOf]; omega
    · obtain rfl : i = k := by omega
      have hd : decide ((i : Int) < (i : Int)) = false := by simp
      have hl2 : lk.take i = lk := List.take_of_length_le (by omega)
      have hl3 : lk.drop i = [] := List.drop_eq_nil_of_le (by omega)
      rw [hl2] at hals hm hds
      rw [hl3, List.append_nil] at hro5
      go_wp2
      go_returns
      refine ⟨o, i, ro, m, rc, rfl, hTk, ⟨done, hro5, by rw [hlk]; exact hals, fun c hc => (hdq c hc).rs⟩, ⟨rs, hRw.shows fun r hr => (hak r hr).rk, by rw [hlk]; exact hds.out⟩, by rw [hlk]; exact hm.out.symm, ?_, ?_⟩
      · exact hrg.chg hcr (fun e => by omega) (fun e => by omega)
      · exact hC2.then hcr (fun q hq e => by omega)
/-- What Take answers, whatever it is asked. -/
structure TakA (w0 w' : World) (b g bnd f : Nat) (take : Int) (l : List Cl) (co : Option Addr) (k kc : Nat) (ro : Option Addr) (N rc : Nat) (ce : Int) : Prop where
  code : ce = lookC take l
  tk : lookC take l = 0 → Tk take (ys l) k
  no : lookC take l ≠ 0 → k = 0
  row : ∃ cs, Vc w' co k kc cs ∧ Als cs (l.take k) ∧ ∀ c ∈ cs, Rs w' c.y.o c.y.n c.y.c c.y.l
  plain : Plain co
  recs : ∃ rs, Rs w' ro N rc rs ∧ ds rs = ds (flat (ys (l.take k)))
  num : N = (flat (ys (l.take k))).length
  rg : Rg w' b g bnd ((f + k) % bnd) (l.drop k)
  chg : Chg w0 w' (two b g)
theorem take_all (w : World) (take : Int) (b g bnd f : Nat) (l : List Cl) (h : Rg w b g bnd f l) (hr : ∀ c ∈ l, Aq w (two b g) c.y) (hs : ∀ c ∈ l, c.y.n ≤ 4096) :
    Calls Try.prog 30 #[.pointer (some ⟨b, 0, none⟩), .int .i64 take] w fun e w' => ∃ co k kc ro N rc ce, e = .returned (.tuple #[.slice co k kc, .slice ro N rc, .int .i64 ce]) ∧ TakA w w' b g bnd f take l co k kc ro N rc ce := by
  by_cases hL : lookC take l = 0
  · refine (take_ok w take b g bnd f l h hr hs hL).mono ?_
    rintro e w' ⟨o, k, ro, N, rc, rfl, hT⟩
    obtain ⟨cs, h1, h2, h3⟩ := hT.row
    have hcl : cs.length = k := by
      have := h2.1
      have := hT.tk.le
      rw [ys_len] at this
      simp at *
      omega
    have hkl := hT.tk.le
    have hll := h.len
    have htt := h.top
    rw [ys_len] at hkl
    refine ⟨_, k, k, ro, N, rc, 0, rfl, ⟨hL.symm, fun _ => hT.tk, fun e => absurd hL e, ⟨cs, ⟨hcl, Nat.le_refl _, by unfold maxLen; omega, fun e => (by cases e), fun a ha j u hu => ?_⟩, h2, h3⟩, Or.inr ⟨_, _, rfl⟩, hT.recs, hT.num, hT.rg, hT.chg⟩⟩
    cases ha
    rw [Addr.add_lit, Nat.zero_add, h1.cell]
    exact hu
  · refine (take_no w take b g bnd f l h (fun c hc => (hr c hc).rs) hs hL).mono ?_
    rintro e w' ⟨rfl, hg⟩
    have hf := h.fst
    refine ⟨none, 0, 0, none, 0, 0, _, rfl, ⟨rfl, fun e => absurd e hL, fun _ => rfl, ⟨[], ⟨rfl, Nat.le_refl _, Nat.zero_le _, fun _ => rfl, fun a ha => (by cases ha)⟩, ⟨rfl, fun j c d hc => (by simp at hc)⟩, fun c hc => (by cases hc)⟩, Or.inl rfl, ⟨[], ⟨rfl, Nat.le_refl _, by omega, fun _ => rfl, fun a ha => (by cases ha), fun b o ha => (by cases ha), fun r hr => (by cases hr)⟩, by simp [ys, flat, ds]⟩, by simp [ys, flat], ?_, Chg.of_grown hg _⟩⟩
    rw [Nat.add_zero, Nat.mod_eq_of_lt hf, List.drop_zero]
    exact h.grown hg
end Rq
end Go.Proofs.Ytkcgpjmjaedlbaa
