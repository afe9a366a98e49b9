/-
  A fair choice's Next.
-/
import Derived.Test.YtfhbnkfpbjloeaaA3
import Derived.Test.YtfhbnkfpbjloeaaA9
namespace Go.Proofs.Ytfhbnkfpbjloeaa
open Go.RowKit
set_option linter.unusedVariables false

/-- Who is next by a fair choice. -/
def Who (f : Nat → Nat) (n : Nat) (K : Int) (l : List Bool) (p i : Nat) : Prop := Ov f l K n i true ∨ (Ov f l K n 0 false ∧ Kth l (p % cnt l) i)
theorem Ov.one {f : Nat → Nat} {l : List Bool} {K : Int} {k m m2 : Nat} {b b2 : Bool} (h : Ov f l K k m b) (h2 : Ov f l K k m2 b2) : m = m2 ∧ b = b2 := by
  rcases h with ⟨rfl, rfl, a3⟩ | ⟨rfl, a2, a3, a4, a5⟩ <;> rcases h2 with ⟨rfl, rfl, c3⟩ | ⟨rfl, c2, c3, c4, c5⟩
  · exact ⟨rfl, rfl⟩
  · exact absurd (a3 m2 c2 c3) (by omega)
  · exact absurd (c3 m a2 a3) (by omega)
  · have x := a5 m2 c2 c3
    have y := c5 m a2 a3
    have e : f m = f m2 := by omega
    have := x.2 e.symm
    have := y.2 e
    exact ⟨by omega, rfl⟩
theorem Who.one {f : Nat → Nat} {n : Nat} {K : Int} {l : List Bool} {p i j : Nat} (h : Who f n K l p i) (h2 : Who f n K l p j) : i = j := by
  rcases h with h | ⟨h, hk⟩ <;> rcases h2 with h2 | ⟨h2, hk2⟩
  · exact (h.one h2).1
  · exact absurd (h.one h2).2 (by simp)
  · exact absurd (h.one h2).2 (by simp)
  · exact hk.one hk2
theorem Who.on {f : Nat → Nat} {n : Nat} {K : Int} {l : List Bool} {p i : Nat} (h : Who f n K l p i) : l[i]? = some true := by
  rcases h with (⟨a, -⟩ | ⟨-, -, a, -⟩) | ⟨-, h⟩
  · cases a
  · exact a
  · exact h.on
def FirR (f : Nat → Nat) (n : Nat) (K : Int) (l : List Bool) (p : Nat) (t e : Int) : Prop := (cnt l = 0 ∧ t = 0 ∧ e = 250) ∨ (0 < cnt l ∧ e = 0 ∧ ∃ i : Nat, t = i ∧ Who f n K l p i)
theorem cnt_pos {l : List Bool} {i : Nat} (h : l[i]? = some true) : 0 < cnt l := List.count_pos_iff.2 (List.mem_of_getElem? h)

set_option maxRecDepth 100000 in
set_option maxHeartbeats 2000000 in
theorem first_two {w : World} {b g n : Nat} {K : Int} {f : Nat → Nat} (h : Fr w b g n K f) (so : Option Addr) (sc : Nat) (l : List Bool) (hP : Vs w so n sc (l.map bo)) (q z p : Nat) (hz : w.cell? ⟨z, 0, none⟩ = some (.int .i64 p))
    (h0 : w.cell? ⟨q, 0, none⟩ = some (.func (.func 28) #[.pointer (some ⟨b, 0, none⟩)] #[])) (h1 : w.cell? ⟨q, 1, none⟩ = some (.func (.func 32) #[] #[.pointer (some ⟨z, 0, none⟩)])) :
    Calls Try.prog 22 #[.slice so n sc, .slice (some ⟨q, 0, none⟩) 2 2] w fun e w' => ∃ t er, e = .returned (.tuple #[.int .i64 t, .int .i64 er]) ∧ FirR f n K l p t er ∧ w' = w := by
  have hcl := clo32 so n sc l hP z p hz
  have hov := overdue_any h so sc l hP
  clear h
  go_enter Try.func22, Try.ntmps22
  go_wp2_with fail
  go_loopw [12] (fun v12 wr => ∃ k : Nat, v12 = .int .i64 k ∧ k ≤ 2 ∧ Hid (1 ≤ k → Ov f l K n 0 false) ∧ Hid (k = 2 → cnt l = 0) ∧ wr = w) (fun v12 _ => 2 - (intOf v12).toNat)
  case atStart => exact ⟨0, rfl, by omega, (fun h => absurd h (by omega)), (fun h => absurd h (by omega)), rfl⟩
  case round =>
    obtain ⟨k, rfl, hk, hO, hO2, rfl⟩ := hrel
    by_cases hlt : k < 2
    · by_cases hk0 : k = 0
      · subst hk0
        go_wp2_with fail
        refine hov.mono ?_
        rintro e w1 ⟨m, ok, rfl, hR, rfl⟩
        cases ok
        · obtain rfl := hR.nought
          have hR2 : Hid (Ov f l K n 0 false) := hR
          clear hR hO hO2
          go_wp2
          go_roundw
          case rel => exact ⟨1, by go_num, by omega, (fun _ => hR2.out), (fun h => absurd h (by omega)), trivial⟩
          case measure => simp [intOf]
        · have hM : Hid (FirR f n K l p m 0) := Or.inr ⟨cnt_pos (Who.on (p := p) (Or.inl hR)), rfl, m, rfl, Or.inl hR⟩
          clear hR hO hO2
          go_wp2
          go_ret2
          exact ⟨m, 0, rfl, hM, rfl⟩
      · obtain rfl : k = 1 := by omega
        have hOv := hO.out (by omega)
        go_wp2_with fail
        refine hcl.mono ?_
        rintro e w1 ⟨t, ok, rfl, hR, rfl⟩
        cases ok
        · have hc : Hid (cnt l = 0) := by rcases hR with ⟨h, -⟩ | ⟨-, h, -⟩; exact h; cases h
          have hOv2 : Hid (Ov f l K n 0 false) := hOv
          clear hR hO hO2 hOv
          go_wp2
          go_roundw
          case rel => exact ⟨2, by go_num, by omega, (fun _ => hOv2.out), (fun _ => hc), trivial⟩
          case measure => simp [intOf]
        · have hM : Hid (FirR f n K l p t 0) := by rcases hR with ⟨-, -, h⟩ | ⟨h0, -, i, hi, hK⟩; cases h; exact Or.inr ⟨h0, rfl, i, hi, Or.inr ⟨hOv, hK⟩⟩
          clear hR hO hO2 hOv
          go_wp2
          go_ret2
          exact ⟨t, 0, rfl, hM, rfl⟩
    · obtain rfl : k = 2 := by omega
      have hc : Hid (FirR f n K l p 0 250) := Or.inl ⟨hO2 rfl, rfl, rfl⟩
      clear hO hO2
      go_wp2
      go_ret2
      exact ⟨0, 250, rfl, hc, rfl⟩

/-- What a fair choice's Next answers, and the counts that it leaves. -/
def FairE (f : Nat → Nat) (n : Nat) (K : Int) (l : List Bool) (p t e : Int) (f' : Nat → Nat) : Prop :=
  ((p < 0 ∨ l.length ≠ n) ∧ t = 0 ∧ e = 2 ∧ f' = f) ∨
  (0 ≤ p ∧ l.length = n ∧ cnt l = 0 ∧ t = 0 ∧ e = 250 ∧ f' = fun _ => 0) ∨
  (0 ≤ p ∧ l.length = n ∧ 0 < cnt l ∧ e = 0 ∧ ∃ i : Nat, t = i ∧ Who f n K l p.toNat i ∧ f' = pv f l i)
theorem FairE.one {f f' f2' : Nat → Nat} {n : Nat} {K : Int} {l : List Bool} {p t e t2 e2 : Int} (h : FairE f n K l p t e f') (h2 : FairE f n K l p t2 e2 f2') : t = t2 ∧ e = e2 ∧ f' = f2' := by
  rcases h with ⟨a, rfl, rfl, rfl⟩ | ⟨a1, a2, a3, rfl, rfl, rfl⟩ | ⟨a1, a2, a3, rfl, i, rfl, a4, rfl⟩ <;> rcases h2 with ⟨c, rfl, rfl, rfl⟩ | ⟨c1, c2, c3, rfl, rfl, rfl⟩ | ⟨c1, c2, c3, rfl, j, rfl, c4, rfl⟩
  · exact ⟨rfl, rfl, rfl⟩
  · omega
  · omega
  · omega
  · exact ⟨rfl, rfl, rfl⟩
  · omega
  · omega
  · omega
  · obtain rfl := a4.one c4
    exact ⟨rfl, rfl, rfl⟩
theorem pv_none {f : Nat → Nat} {l : List Bool} {t : Int} (h : cnt l = 0) : pv f l t = fun _ => 0 := by
  funext i
  unfold pv
  rw [if_neg]
  rintro ⟨h1, -⟩
  have := cnt_pos h1
  omega

set_option maxRecDepth 100000 in
theorem fnext_nil (w : World) (so : Option Addr) (m sc : Nat) (p : Int) : Calls Try.prog 16 #[.pointer none, .slice so m sc, .int .i64 p] w fun e w' => e = .returned (.tuple #[.int .i64 0, .int .i64 1]) ∧ w' = w := by
  have h1 := there_nil w
  go_enter Try.func16, Try.ntmps16
  go_wp2_with fail
  refine h1.mono ?_
  rintro e w1 ⟨rfl, rfl⟩
  go_wp2
  go_ret2
  exact ⟨rfl, rfl⟩

set_option maxRecDepth 100000 in
set_option maxHeartbeats 2000000 in
theorem fnext_any {w : World} {b g n : Nat} {K : Int} {f : Nat → Nat} (h : Fr w b g n K f) (hf : ∀ i, i < n → f i ≤ 1000000) (so : Option Addr) (m sc : Nat) (l : List Bool) (hP : Vs w so m sc (l.map bo)) (hne0 : ∀ a, so = some a → a.block ≠ g ∨ m = 0) (p : Int) :
    Calls Try.prog 16 #[.pointer (some ⟨b, 0, none⟩), .slice so m sc, .int .i64 p] w fun e w' => ∃ t er f', e = .returned (.tuple #[.int .i64 t, .int .i64 er]) ∧ FairE f n K l p t er f' ∧ Fr w' b g n K f' ∧ Chg w w' (fun k => k = g) := by
  have hlen : l.length = m := by simpa using hP.len
  have hth := there_yes h
  have r0 := h.c0
  by_cases h0 : p < 0
  · have hM : Hid (FairE f n K l p 0 2 f) := Or.inl ⟨Or.inl h0, rfl, rfl, rfl⟩
    have d1 : decide (p < 0) = true := by simpa using h0
    go_enter Try.func16, Try.ntmps16
    go_wp2_with fail
    refine hth.mono ?_
    rintro e w1 ⟨rfl, rfl⟩
    go_wp2
    go_ret2
    exact ⟨0, 2, f, rfl, hM, h, Chg.refl _ _⟩
  have d1 : decide (p < 0) = false := by simpa using h0
  by_cases hmn : m = n
  · subst hmn
    have hne : ∀ a, so = some a → a.block ≠ g := fun a ha => (hne0 a ha).resolve_right (by have := h.pos; omega)
    clear hne0
    obtain ⟨q, rfl⟩ : ∃ q : Nat, p = q := ⟨p.toNat, by omega⟩
    have hb := byPick_any w q
    have g1 := alloc_grown w (.cells #[.int .i64 q] 3)
    obtain ⟨W1, hW1⟩ : ∃ W1, w.alloc (.cells #[.int .i64 q] 3) = W1 := ⟨_, rfl⟩
    have e1 : Hid (w.alloc (.cells #[.int .i64 q] 3) = W1) := hW1
    obtain ⟨zb, hzb⟩ : ∃ z, w.heap.size = z := ⟨_, rfl⟩
    have c0 : W1.cell? ⟨zb, 0, none⟩ = some (.int .i64 q) := by rw [← hW1, ← hzb]; exact cell_of (heap_alloc_new w _) rfl
    rw [hW1] at hb g1
    rw [hzb] at hb
    have hw1 : Hid (w.heap.size ≤ W1.heap.size) := g1.size
    obtain ⟨zc, hzc⟩ : ∃ z, W1.heap.size = z := ⟨_, rfl⟩
    have hrow : ∀ x : Value, x = .func (.func 28) #[.pointer (some ⟨b, 0, none⟩)] #[] → ∀ W2, W1.alloc (.cells #[x, .func (.func 32) #[] #[.pointer (some ⟨zb, 0, none⟩)]] 53) = W2 → Hid (w.grownBy W2 none ∧ Calls Try.prog 22 #[.slice so m sc, .slice (some ⟨zc, 0, none⟩) 2 2] W2 fun e w' => ∃ t er, e = .returned (.tuple #[.int .i64 t, .int .i64 er]) ∧ FirR f m K l q t er ∧ w' = W2) := by
      rintro x rfl W2 rfl
      have g2 := alloc_grown W1 (.cells #[.func (.func 28) #[.pointer (some ⟨b, 0, none⟩)] #[], .func (.func 32) #[] #[.pointer (some ⟨zb, 0, none⟩)]] 53)
      have hG := grown_trans g1 g2 (by simp)
      rw [← hzc]
      exact ⟨hG, first_two (h.grown hG) so sc l (hP.grown hG) _ zb q (g2.cell c0 (by simp)) (cell_of (heap_alloc_new W1 _) rfl) (cell_of (heap_alloc_new W1 _) rfl)⟩
    have hmf : ∀ (fn : Fn) (first cap : Array Value) (w : World), (Instr.makeFunc fn first cap).run Try.prog w = .ok (.func fn first cap) w := fun _ _ _ _ => rfl
    have F := hrow _ rfl _ rfl
    obtain ⟨W2, hW2⟩ : ∃ W2, W1.alloc (.cells #[.func (.func 28) #[.pointer (some ⟨b, 0, none⟩)] #[], .func (.func 32) #[] #[.pointer (some ⟨zb, 0, none⟩)]] 53) = W2 := ⟨_, rfl⟩
    rw [hW2] at F
    have hG := F.out.1
    have hfi := F.out.2
    have hFr := h.grown hG
    have hps : Hid (∀ t : Int, Calls Try.prog 29 #[.slice (some ⟨g, 0, none⟩) m m, .slice so m sc, .int .i64 t] W2 fun e w' => e = .returned (.tuple #[]) ∧ Ro w' g 3 (fl m (pv f l t)) ∧ Chg W2 w' (fun k => k = g) ∧ w'.heap.size = W2.heap.size) := fun t => pass_any g m f hFr.row (by have := h.top; omega) hf so sc l (hP.grown hG) hne t
    have hfin : Hid (∀ t er w', FirR f m K l q t er → Ro w' g 3 (fl m (pv f l t)) → Chg W2 w' (fun k => k = g) → ∃ f', FairE f m K l q t er f' ∧ Fr w' b g m K f' ∧ Chg w w' (fun k => k = g)) := by
      intro t er w' hR hro hc
      have hFr2 : Fr w' b g m K (pv f l t) := ⟨by rw [hc.block b (lt_of_heap hFr.cell) h.ne]; exact hFr.cell, hro, h.pos, h.top⟩
      have hC : Chg w w' (fun k => k = g) := (Chg.of_grown hG _).trans hc
      rcases hR with ⟨a, rfl, rfl⟩ | ⟨a, rfl, i, rfl, hw⟩
      · rw [pv_none a] at hFr2
        exact ⟨_, Or.inr (Or.inl ⟨by omega, hlen, a, rfl, rfl, rfl⟩), hFr2, hC⟩
      · exact ⟨_, Or.inr (Or.inr ⟨by omega, hlen, a, rfl, i, rfl, by simpa using hw, rfl⟩), hFr2, hC⟩
    have r2 := hFr.c0
    clear hrow F c0 g1 e1 hFr hW1 hzb
    go_enter Try.func16, Try.ntmps16
    go_wp2_with fail
    refine hth.mono ?_
    rintro e w1 ⟨rfl, rfl⟩
    go_wp2_with fail
    refine hb.mono ?_
    rintro e w1 ⟨rfl, hx⟩
    replace hx := hx.symm
    subst hx
    go_wp2_with fail
    refine hfi.mono ?_
    rintro e w3 ⟨t, er, rfl, hR, hx⟩
    replace hx := hx.symm
    subst hx
    have hpt := hps.out t
    clear hps hfi hb
    go_wp2_with fail
    refine hpt.mono ?_
    rintro e w3 ⟨rfl, hro, hc, hsz⟩
    obtain ⟨f', e1, e2, e3⟩ := hfin.out t er w3 hR hro hc
    clear hfin hpt hro hc hsz
    go_wp2
    go_ret2
    exact ⟨t, er, f', rfl, e1, e2, e3⟩
  · have hM : Hid (FairE f n K l p 0 2 f) := Or.inl ⟨Or.inr (by omega), rfl, rfl, rfl⟩
    have d2 : ((m : Int) == (n : Int)) = false := by simp; omega
    have d3 : (m == n) = false := by simpa using hmn
    clear hmn
    go_enter Try.func16, Try.ntmps16
    go_wp2_with fail
    refine hth.mono ?_
    rintro e w1 ⟨rfl, rfl⟩
    go_wp2
    go_ret2
    exact ⟨0, 2, f, rfl, hM, h, Chg.refl _ _⟩
end Go.Proofs.Ytfhbnkfpbjloeaa
