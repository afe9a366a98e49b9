/-
  RingPlays: the walk.
-/
import Derived.Test.YtabnpgmkccmneaaQ11
namespace Go.Proofs.Ytabnpgmkccmneaa
open Go.RowKit Go.Shelf
set_option linter.unusedVariables false

/-- The script's calls, as they came in. -/
def Sk (w : World) (xo : Option Addr) (k : Nat) : Prop :=
  ∀ i, i < k → ∃ sb so, xo = some ⟨sb, so, none⟩ ∧ ∃ (K N M : Int) (lo : Option Addr) (m c : Nat) (A : List Int),
    w.cell? ⟨sb, so + i * 4, none⟩ = some (.int .i64 K) ∧ w.cell? ⟨sb, so + i * 4 + 1, none⟩ = some (.int .i64 N) ∧ w.cell? ⟨sb, so + i * 4 + 2, none⟩ = some (.int .i64 M) ∧ w.cell? ⟨sb, so + i * 4 + 3, none⟩ = some (.slice lo m c) ∧
    Vs w lo m c (A.map (.int .i64))

/-- It begins. -/
theorem Mn.first {w w9 : World} {b g bnd : Nat} (hg : w.grownBy w9 none) (hR : Rg w9 3 b g bnd 0 []) (hnb : w.heap.size ≤ b) (hng : w.heap.size ≤ g) :
    Mn w (w9.alloc (.cells #[.slice none 0 0, .int .i64 bnd] 32)) b g w9.heap.size bnd 0 none 0 0 [] none none 0 0 0 [] [] := by
  have hga := World.grownBy_alloc w9 (.cells #[.slice none 0 0, .int .i64 bnd] 32) none
  have l1 := hR.lt
  have l2 := hR.glt
  have s1 := hg.size
  refine ⟨⟨hR.grown hga, ⟨by simp, by simp, by intro i; simp, Vs.empty _, Or.inl rfl, Nat.zero_le _, hR.top, by simp⟩, ⟨by omega, by omega, by simp⟩, by simp⟩, Vo.nil _ _ _, Vo.nil _ _ _, hnb, hng, s1, by simp [blk], by simp [blk], by simp, ?_⟩
  exact Chg.of_grown (grown_trans hg hga (by simp)) _

/-- Behind the call: the queue's answers. -/
theorem answers {w4 : World} {b g rb bnd f : Nat} {lo : Option Addr} {n c : Nat} {L : List Int} (h : As w4 b g rb bnd f lo n c L) :
    (∀ W, w4.grownBy W none → Calls Try.prog 11 #[.pointer (some ⟨b, 0, none⟩)] W fun e w' => e = .returned (.int .i64 n) ∧ w' = W) ∧
    (∀ W, w4.grownBy W none → Calls Try.prog 12 #[.pointer (some ⟨b, 0, none⟩)] W fun e w' => e = .returned (.int .i64 bnd) ∧ w' = W) ∧
    ∃ t, ((n : Int) == (bnd : Int)) = t ∧ ∀ W, w4.grownBy W none → Calls Try.prog 13 #[.pointer (some ⟨b, 0, none⟩)] W fun e w' => e = .returned (.bool t) ∧ W.grownBy w' none := by
  have hl := h.d.len
  refine ⟨fun W hg => ?_, fun W hg => Ri.bound_any W b g bnd f _ (h.r.grown hg), _, rfl, fun W hg => ?_⟩
  · have := Ri.len_any W b g bnd f _ (h.r.grown hg)
    rwa [List.length_map, hl] at this
  · have := Ri.full_any W b g bnd f _ (h.r.grown hg)
    rw [List.length_map, hl] at this
    refine this.mono ?_
    rintro e w' ⟨rfl, h2⟩
    refine ⟨?_, h2⟩
    congr 2
    by_cases hc : n = bnd <;> simp [hc]
    omega

theorem Mn.grown {w0 w w' : World} {b g rb bnd f : Nat} {lo : Option Addr} {n c : Nat} {L : List Int} {oo wo : Option Addr} {k co cw : Nat} {os ws : List Value} (h : Mn w0 w b g rb bnd f lo n c L oo wo k co cw os ws) (hg : w.grownBy w' none) : Mn w0 w' b g rb bnd f lo n c L oo wo k co cw os ws :=
  ⟨h.pr.grown hg, h.o.grown hg, h.d.grown hg, h.nb, h.ng, h.nr, h.ao, h.aw, fun j p q hp hq => (h.side j p q hp hq).chg (Chg.of_grown hg _) (fun _ _ e => e), Mn.keep h.chg (Chg.of_grown hg (fun _ => False)) (fun _ e => e.elim)⟩

theorem Done.cells4 {w w' : World} {b g rb bnd : Nat} {lo : Option Addr} (h : Done w w' b g rb bnd lo) {sb o0 o1 o2 o3 : Nat} {v0 v1 v2 v3 : Value} (hs : sb ≠ b ∧ sb ≠ g ∧ sb ≠ rb) (h0 : w.cell? ⟨sb, o0, none⟩ = some v0) (h1 : w.cell? ⟨sb, o1, none⟩ = some v1) (h2 : w.cell? ⟨sb, o2, none⟩ = some v2) (h3 : w.cell? ⟨sb, o3, none⟩ = some v3) :
    w'.cell? ⟨sb, o0, none⟩ = some v0 ∧ w'.cell? ⟨sb, o1, none⟩ = some v1 ∧ w'.cell? ⟨sb, o2, none⟩ = some v2 ∧ w'.cell? ⟨sb, o3, none⟩ = some v3 := by
  obtain ⟨_, _, _, _, _, _, _, hc⟩ := h
  have hn : ¬ three b g rb sb := by
    rintro (e | e | e)
    · exact hs.1 e
    · exact hs.2.1 e
    · exact hs.2.2 e
  exact ⟨hc.cell h0 hn, hc.cell h1 hn, hc.cell h2 hn, hc.cell h3 hn⟩

theorem hid3 {A B : Prop} {C : Bool → Prop} {D : Bool → Prop} (h : A ∧ B ∧ ∃ t, C t ∧ D t) : Hid A ∧ Hid B ∧ ∃ t, C t ∧ Hid (D t) := h

theorem Vs.one_new (w : World) (v : Value) (e : TypeId) (h1 : v.oneCell' = true) : Vs (w.alloc (.cells #[v] e)) (some ⟨w.heap.size, 0, none⟩) 1 1 [v] := by
  refine ⟨rfl, Nat.le_refl _, by decide, by simp, by simpa using h1, ?_⟩
  intro a ha j u hu
  obtain rfl := Option.some.inj ha
  have hj : j = 0 := by
    have := (List.getElem?_eq_some_iff.1 hu).1
    simp at this; omega
  subst hj
  simp at hu
  subst hu
  simp [Addr.add]

theorem info24 : (Try.prog.info? 24).map (fun i => (i.zero, i.size, i.bytes)) = some (some (.pointer none), 1, 8) := by kernel_rfl
theorem info30 : (Try.prog.info? 30).map (fun i => (i.zero, i.size, i.bytes)) = some (some (.slice none 0 0), 1, 24) := by kernel_rfl

theorem shows_of {w : World} {o n : Nat} {L : List Int} (h : Ro w o 3 (L.map (.int .i64))) (hl : L.length = n) (hn : n ≤ 100000) : Vs w (some ⟨o, 0, none⟩) n n (L.map (.int .i64)) := by
  have h2 := h.shows (fun u hu => by obtain ⟨z, _, rfl⟩ := List.mem_map.1 hu; rfl) (by rw [List.length_map, hl]; unfold maxLen; omega)
  rwa [List.length_map, hl] at h2

theorem wpAnyH_mono {P : Program} {md : Region.Mode} {ops : Array Oper} {Q : Exit → Act → World → Prop} {S1 S2 : World → Prop} (hs : ∀ w, S2 w → S1 w) :
    ∀ (fuel : Nat) (listed : Array Bool) (a : Act) (w : World), wpAnyH P md ops Q S2 fuel listed a w → wpAnyH P md ops Q S1 fuel listed a w
  | 0, _, _, _, h => h
  | fuel + 1, _, _, _, h => ⟨h.1, fun i hi => wpOp_mono (fun a' w' h' => ⟨hs _ h'.1, wpAnyH_mono hs fuel _ a' w' h'.2⟩) (h.2 i hi)⟩

set_option maxRecDepth 100000 in
set_option maxHeartbeats 4000000 in
theorem ringPlays_main (w : World) (xo : Option Addr) (k cp : Nat) (bnd : Nat) (hsk : Sk w xo k) (hk : ¬ 60 < k) (h0 : 1 ≤ bnd) (h1 : bnd ≤ 256) :
    Calls Try.prog 3 #[.int .i64 bnd, .slice xo k cp] w fun e w' => e = .returned (.bool true) ∧ w.grownBy w' none := by
  have d0 : decide (60 < k) = false := by simpa using hk
  have d1 : decide ((bnd : Int) < 1) = false := by simp; omega
  have d2 : decide ((bnd : Int) > 256) = false := by simp; omega
  go_enter Try.func3, Try.ntmps3
  go_wp2_with fail
  refine (Ri.new_any _ bnd h0 h1).mono ?_
  rintro e w1 ⟨b, g, rfl, hR, hnb, hng, hg1⟩
  go_wp2_with fail
  refine (num_any _ _).mono ?_
  rintro e w9 ⟨rfl, hw⟩
  subst hw
  go_wp2_with fail
  have hM := Mn.first hg1 hR hnb hng
  obtain ⟨rb, hrb⟩ : ∃ rb, w9.heap.size = rb := ⟨_, rfl⟩
  obtain ⟨wm, hwm⟩ : ∃ wm, w9.alloc (.cells #[.slice none 0 0, .int .i64 bnd] 32) = wm := ⟨_, rfl⟩
  rw [hrb, hwm] at hM ⊢
  clear hwm hrb hR hg1 hnb hng
  go_loopw [5, 8, 9, 10] (fun r' oo' wo' i' wr => ∃ (i b g f : Nat) (lo : Option Addr) (n c : Nat) (L : List Int) (oo wo : Option Addr) (ko co cw : Nat) (os ws : List Value), r' = .pointer (some ⟨b, 0, none⟩) ∧ oo' = .slice oo ko co ∧ wo' = .slice wo ko cw ∧ i' = .int .i64 i ∧ i ≤ k ∧ ko ≤ i ∧ Mn w wr b g rb bnd f lo n c L oo wo ko co cw os ws) (fun r' oo' wo' i' _ => k - (intOf i').toNat)
  case atStart => exact ⟨0, b, g, 0, none, 0, 0, [], none, none, 0, 0, 0, [], [], rfl, rfl, rfl, rfl, Nat.zero_le _, Nat.le_refl _, hM⟩
  case round =>
    clear hM
    obtain ⟨i, b, g, f, lo, n, c, L, oo, wo, ko, co, cw, os, ws, rfl, rfl, rfl, rfl, hi, hko, hM⟩ := hrel
    by_cases hin : i < k
    · obtain ⟨sb, so, rfl, K, N, M, xl, m, cx, A, q0, q1, q2, q3, hA⟩ := hsk i hin
      have hch := hM.chg
      have k0 := hch.cell q0 (fun e => e)
      have k1 := hch.cell q1 (fun e => e)
      have k2 := hch.cell q2 (fun e => e)
      have k3 := hch.cell q3 (fun e => e)
      have hbk := hM.nb
      have hgk := hM.ng
      have hrk := hM.nr
      by_cases hm : 300 < m
      · have d3 : decide (300 < m) = true := by simpa using hm
        go_wp2_with (go_at_call 6; refine (works_any _).mono ?_; rintro e w9 ⟨rfl, hg9⟩)
        go_ret
        exact ⟨rfl, (hch.grown (fun _ _ e => e)).trans hg9⟩
      have d3 : decide (300 < m) = false := by simpa using hm
      have d3' : ¬ (300 : Int) < (m : Int) := by omega
      by_cases hK : K = 8
      · subst hK
        have l1 := hM.pr.r.lt
        have v1 : Vs (wr.alloc (.cells #[.pointer (some ⟨b, 0, none⟩)] 24)) (some ⟨wr.heap.size, 0, none⟩) 1 1 [.pointer (some ⟨b, 0, none⟩)] := Vs.one_new wr _ 24 rfl
        have hga := World.grownBy_alloc wr (.cells #[.pointer (some ⟨b, 0, none⟩)] 24) none
        have hsa := hch.size
        go_wp2_with (at_builtin; refine wpList_append_blk _ rfl (.tmp 67) (.tmp 69) 33 rfl w.heap.size 24 (.pointer none) 8 Try.underlying33 info24 rfl (by decide) rfl (hM.o.grown hga) rfl v1 (by decide) (by omega) (by simp; omega) ?_)
        intro oo2 co2 w2 hvo2 hg2 hb2
        have hs2 := hg2.size
        have hrw : w2.cell? ⟨rb, 0, none⟩ = some (.slice lo n c) := by
          refine hg2.cell (hga.cell hM.pr.d.c0 (by simp)) (fun e => ?_)
          exact (hM.ao rb e.symm).2.2.1 rfl
        have v2 : Vs (w2.alloc (.cells #[.slice lo n c] 30)) (some ⟨w2.heap.size, 0, none⟩) 1 1 [.slice lo n c] := Vs.one_new w2 _ 30 rfl
        have hgb := World.grownBy_alloc w2 (.cells #[.slice lo n c] 30) none
        have hd2 : Vo w2 w.heap.size 30 wo ko cw ws := by
          refine (hM.d.grown hga).kept hg2 ?_
          cases hq : blk wo with
          | none => exact Or.inl rfl
          | some x => exact Or.inr (fun e => (hM.ao x e.symm).2.2.2.2 hq)
        go_wp2_with (at_builtin; refine wpList_append_blk _ rfl (.tmp 71) (.tmp 76) 34 rfl w.heap.size 30 (.slice none 0 0) 24 Try.underlying34 info30 rfl (by decide) rfl (hd2.grown hgb) rfl v2 (by decide) (by omega) (by simp at hs2 ⊢; omega) ?_)
        intro wo4 cw4 w4 hvw4 hg4 hb4
        have hr4 : Rg w4 3 b g bnd f (L.map (.int .i64)) := by
          refine ((((hM.pr.r.grown hga).chg (chg_row (S := fun k => blk oo = some k) hg2 (fun k e => e)) ?_ ?_).grown hgb).chg (chg_row (S := fun k => blk wo = some k) hg4 (fun k e => e)) ?_ ?_)
          · exact fun e => (hM.ao b e).1 rfl
          · exact fun e => (hM.ao g e).2.1 rfl
          · exact fun e => (hM.aw b e).1 rfl
          · exact fun e => (hM.aw g e).2.1 rfl
        go_wp2_with (go_at_call 9; refine (copy_any _ b g bnd f _ hr4).mono ?_; rintro e w5 ⟨b5, g5, rfl, hr5, hlb5, hlg5, hg5⟩)
        have hM5 := hM.aside hga hg2 hvo2 (by simpa using hb2) hgb hg4 hvw4 (by simpa using hb4) hg5 hr5 hlb5 hlg5
        have hbk5 := hM5.nb
        have hgk5 := hM5.ng
        replace hch := hM5.chg
        replace k0 := hch.cell q0 (fun e => e)
        replace k1 := hch.cell q1 (fun e => e)
        replace k2 := hch.cell q2 (fun e => e)
        replace k3 := hch.cell q3 (fun e => e)
        have HA : Hid (∀ W, w5.grownBy W none → Calls Try.prog 10 #[.pointer (some ⟨b5, 0, none⟩), .pointer (some ⟨rb, 0, none⟩), .agg #[.int .i64 8, .int .i64 N, .int .i64 M, .slice xl m cx]] W fun e w' => e = .returned (.bool true) ∧ Done W w' b5 g5 rb bnd lo) := by
          intro W hg
          refine ask_any W b5 g5 rb bnd 0 lo n c L (hM5.pr.grown hg) xl m cx 8 N M A ((hA.chg hch (fun _ _ e => e)).grown hg) (by omega) (fun hm0 a ha => ?_)
          obtain ⟨ab, ao, e8, h8⟩ := hA.addr hm0
          obtain rfl := Option.some.inj (ha.symm.trans e8)
          exact ⟨by show ab ≠ _; omega, by show ab ≠ _; omega, by show ab ≠ _; omega⟩
        have hgd : w5.grownBy w5.drew none := grown_drewN w5 1 none
        have hMd := hM5.grown hgd
        have u0 : w5.drew.cell? ⟨sb, so + i * 4, none⟩ = _ := hgd.cell k0 (by simp)
        have u1 : w5.drew.cell? ⟨sb, so + i * 4 + 1, none⟩ = _ := hgd.cell k1 (by simp)
        have u2 : w5.drew.cell? ⟨sb, so + i * 4 + 2, none⟩ = _ := hgd.cell k2 (by simp)
        have u3 : w5.drew.cell? ⟨sb, so + i * 4 + 3, none⟩ = _ := hgd.cell k3 (by simp)
        have hin' : (i : Int) < (k : Int) := by omega
        have hlt := World.block_lt_of_cell? _ _ q0
        have hin3 : sb ≠ b5 ∧ sb ≠ g5 ∧ sb ≠ rb := by change sb < w.heap.size at hlt; omega
        clear hA hch hM hM5 hbk hgk hrk hlt hbk5 hgk5 hr4 hr5 hg5 hg4 hg2 hga hgb hvw4 hvo2 hd2 hrw v1 v2 hb2 hb4 hlb5 hlg5
        go_wp2_with fail
        refine wp_region_held_drew (S := fun w' => w'.cell? ⟨sb, so + i * 4, none⟩ = some (.int .i64 8) ∧ w'.cell? ⟨sb, so + i * 4 + 1, none⟩ = some (.int .i64 N) ∧ w'.cell? ⟨sb, so + i * 4 + 2, none⟩ = some (.int .i64 M) ∧ w'.cell? ⟨sb, so + i * 4 + 3, none⟩ = some (.slice xl m cx)) (by kernel_rfl) ⟨u0, u1, u2, u3⟩ (fun hHeld => ?_)
        refine wpAnyH_take (i := 0) (oi := { dst := some 82, op := Op.move (Operand.tmp 5), type := 24, pos := "law.go:122", after := #[], guard := none }) (v := ?_) rfl (by kernel_rfl) (by kernel_rfl) (by kernel_rfl) (fun _ _ _ h => h) (Or.inl ⟨by rfl, ?_⟩) (by assumption) ?_
        rotate_left
        · intro w hSw; (try dsimp only at hSw); go_simp
          try with_reducible rfl
        try simp only [Act.put, List.setIfInBounds_toArray, List.set_cons_zero, List.set_cons_succ]
        refine wpAnyH_take (i := 1) (oi := { dst := some 83, op := Op.move (Operand.tmp 7), type := 29, pos := "law.go:122", after := #[], guard := none }) (v := ?_) rfl (by kernel_rfl) (by kernel_rfl) (by kernel_rfl) (fun _ _ _ h => h) (Or.inl ⟨by rfl, ?_⟩) (by assumption) ?_
        rotate_left
        · intro w hSw; (try dsimp only at hSw); go_simp
          try with_reducible rfl
        try simp only [Act.put, List.setIfInBounds_toArray, List.set_cons_zero, List.set_cons_succ]
        refine wpAnyH_take (i := 2) (oi := { dst := some 84, op := Op.move (Operand.tmp 1), type := 22, pos := "law.go:122", after := #[], guard := none }) (v := ?_) rfl (by kernel_rfl) (by kernel_rfl) (by kernel_rfl) (fun _ _ _ h => h) (Or.inl ⟨by rfl, ?_⟩) (by assumption) ?_
        rotate_left
        · intro w hSw; (try dsimp only at hSw); go_simp
          try with_reducible rfl
        try simp only [Act.put, List.setIfInBounds_toArray, List.set_cons_zero, List.set_cons_succ]
        refine wpAnyH_take (i := 3) (oi := { dst := some 85, op := Op.move (Operand.tmp 10), type := 3, pos := "law.go:122", after := #[], guard := none }) (v := ?_) rfl (by kernel_rfl) (by kernel_rfl) (by kernel_rfl) (fun _ _ _ h => h) (Or.inl ⟨by rfl, ?_⟩) (by assumption) ?_
        rotate_left
        · intro w hSw; (try dsimp only at hSw); go_simp
          try with_reducible rfl
        try simp only [Act.put, List.setIfInBounds_toArray, List.set_cons_zero, List.set_cons_succ]
        refine wpAnyH_take (i := 4) (oi := { dst := some 86, op := Op.indexAddr 22 (Operand.tmp 84) (Operand.tmp 85), type := 0, pos := "law.go:122", after := #[{ on := 2, ground := Ground.data }, { on := 3, ground := Ground.data }], guard := none }) (v := ?_) rfl (by kernel_rfl) (by kernel_rfl) (by kernel_rfl) (fun _ _ _ h => h) (Or.inl ⟨by rfl, ?_⟩) (by assumption) ?_
        rotate_left
        · intro w hSw; (try dsimp only at hSw); go_simp
          try with_reducible rfl
        try simp only [Act.put, List.setIfInBounds_toArray, List.set_cons_zero, List.set_cons_succ]
        refine wpAnyH_take (i := 5) (oi := { dst := some 87, op := Op.load 36 (Operand.tmp 86), type := 36, pos := "law.go:122", after := #[{ on := 4, ground := Ground.data }], guard := none }) (v := ?_) rfl (by kernel_rfl) (by kernel_rfl) (by kernel_rfl) (fun _ _ _ h => h) (Or.inl ⟨by rfl, ?_⟩) (by assumption) ?_
        rotate_left
        · intro w hSw; (try dsimp only at hSw); go_simp
          try with_reducible rfl
        try simp only [Act.put, List.setIfInBounds_toArray, List.set_cons_zero, List.set_cons_succ]
        refine wpAnyH_ready (rs := [6]) (by kernel_rfl) (by simp) ?_
        refine AllReadyH.cons (o := { dst := some 88, op := Op.call { callee := Callee.value (Operand.func 10), args := #[Operand.tmp 82, Operand.tmp 83, Operand.tmp 87], argTypes := #[24, 29, 36] }, type := 4, pos := "law.go:122", after := #[{ on := 0, ground := Ground.data }, { on := 1, ground := Ground.data }, { on := 5, ground := Ground.data }], guard := none }) rfl (fun K hK => ?_) AllReadyH.nil
        go_simp
        go_at_call 10; refine (HA.out _ hgd).mono ?_; rintro e w4 ⟨rfl, hD⟩; obtain ⟨v0, v1, v2, v3⟩ := hD.cells4 hin3 u0 u1 u2 u3; obtain ⟨f4, lo4, n4, c4, L4, hM4⟩ := hMd.asked hD; have r0 := hM4.pr.d.c0; obtain ⟨HL, HB, t, ht, HF⟩ := hid3 (answers hM4.pr); go_simp
        refine hK.out _ _ ⟨v0, v1, v2, v3⟩ (fun hHeld => ?_)
        clear hK K
        try simp only [Act.put, List.setIfInBounds_toArray, List.set_cons_zero, List.set_cons_succ]
        clear hHeld
        refine wpAnyH_mono (S2 := fun w' => w'.cell? ⟨rb, 0, none⟩ = some (.slice lo4 n4 c4) ∧ w'.cell? ⟨sb, so + i * 4, none⟩ = some (.int .i64 8) ∧ w'.cell? ⟨sb, so + i * 4 + 1, none⟩ = some (.int .i64 N) ∧ w'.cell? ⟨sb, so + i * 4 + 2, none⟩ = some (.int .i64 M) ∧ w'.cell? ⟨sb, so + i * 4 + 3, none⟩ = some (.slice xl m cx)) (fun _ h => h.2) _ _ _ _ ?_
        have hHeld : (fun w' : World => w'.cell? ⟨rb, 0, none⟩ = some (.slice lo4 n4 c4) ∧ w'.cell? ⟨sb, so + i * 4, none⟩ = some (.int .i64 8) ∧ w'.cell? ⟨sb, so + i * 4 + 1, none⟩ = some (.int .i64 N) ∧ w'.cell? ⟨sb, so + i * 4 + 2, none⟩ = some (.int .i64 M) ∧ w'.cell? ⟨sb, so + i * 4 + 3, none⟩ = some (.slice xl m cx)) w4 := ⟨r0, v0, v1, v2, v3⟩
        refine wpAnyH_take (i := 7) (oi := { dst := some 89, op := Op.unOp UnOp.not 4 (Operand.tmp 88), type := 4, pos := "law.go:122", after := #[{ on := 6, ground := Ground.data }], guard := none }) (v := ?_) rfl (by kernel_rfl) (by kernel_rfl) (by kernel_rfl) (fun _ _ _ h => h) (Or.inl ⟨by rfl, ?_⟩) (by assumption) ?_
        rotate_left
        · intro w hSw; (try dsimp only at hSw); go_simp
          try with_reducible rfl
        try simp only [Act.put, List.setIfInBounds_toArray, List.set_cons_zero, List.set_cons_succ]
        refine wpAnyH_take (i := 8) (oi := { dst := some 90, op := Op.move (Operand.tmp 89), type := 4, pos := "law.go:122", after := #[{ on := 7, ground := Ground.data }, { on := 6, ground := Ground.chain }], guard := none }) (v := ?_) rfl (by kernel_rfl) (by kernel_rfl) (by kernel_rfl) (fun _ _ _ h => h) (Or.inl ⟨by rfl, ?_⟩) (by assumption) ?_
        rotate_left
        · intro w hSw; (try dsimp only at hSw); go_simp
          try with_reducible rfl
        try simp only [Act.put, List.setIfInBounds_toArray, List.set_cons_zero, List.set_cons_succ]
        refine wpAnyH_take (i := 9) (oi := { dst := some 91, op := Op.move (Operand.tmp 5), type := 24, pos := "law.go:122", after := #[{ on := 8, ground := Ground.guard }], guard := some (8, false) }) (v := ?_) rfl (by kernel_rfl) (by kernel_rfl) (by kernel_rfl) (fun _ _ _ h => h) (Or.inl ⟨by rfl, ?_⟩) (by assumption) ?_
        rotate_left
        · intro w hSw; (try dsimp only at hSw); go_simp
          try with_reducible rfl
        try simp only [Act.put, List.setIfInBounds_toArray, List.set_cons_zero, List.set_cons_succ]
        refine wpAnyH_take (i := 11) (oi := { dst := some 93, op := Op.move (Operand.tmp 7), type := 29, pos := "law.go:122", after := #[{ on := 8, ground := Ground.guard }], guard := some (8, false) }) (v := ?_) rfl (by kernel_rfl) (by kernel_rfl) (by kernel_rfl) (fun _ _ _ h => h) (Or.inl ⟨by rfl, ?_⟩) (by assumption) ?_
        rotate_left
        · intro w hSw; (try dsimp only at hSw); go_simp
          try with_reducible rfl
        try simp only [Act.put, List.setIfInBounds_toArray, List.set_cons_zero, List.set_cons_succ]
        refine wpAnyH_take (i := 12) (oi := { dst := some 94, op := Op.nilCheck (Operand.tmp 93), type := 0, pos := "law.go:122", after := #[{ on := 11, ground := Ground.data }, { on := 8, ground := Ground.guard }], guard := some (8, false) }) (v := ?_) rfl (by kernel_rfl) (by kernel_rfl) (by kernel_rfl) (fun _ _ _ h => h) (Or.inl ⟨by rfl, ?_⟩) (by assumption) ?_
        rotate_left
        · intro w hSw; (try dsimp only at hSw); go_simp
          try with_reducible rfl
        try simp only [Act.put, List.setIfInBounds_toArray, List.set_cons_zero, List.set_cons_succ]
        refine wpAnyH_take (i := 13) (oi := { dst := some 95, op := Op.fieldAddr 32 (Operand.tmp 94) 0, type := 0, pos := "law.go:122", after := #[{ on := 12, ground := Ground.data }, { on := 8, ground := Ground.guard }], guard := some (8, false) }) (v := ?_) rfl (by kernel_rfl) (by kernel_rfl) (by kernel_rfl) (fun _ _ _ h => h) (Or.inl ⟨by rfl, ?_⟩) (by assumption) ?_
        rotate_left
        · intro w hSw; (try dsimp only at hSw); go_simp
          try with_reducible rfl
        try simp only [Act.put, List.setIfInBounds_toArray, List.set_cons_zero, List.set_cons_succ]
        refine wpAnyH_take (i := 14) (oi := { dst := some 96, op := Op.load 30 (Operand.tmp 95), type := 30, pos := "law.go:122", after := #[{ on := 13, ground := Ground.data }, { on := 8, ground := Ground.guard }], guard := some (8, false) }) (v := ?_) rfl (by kernel_rfl) (by kernel_rfl) (by kernel_rfl) (fun _ _ _ h => h) (Or.inl ⟨by rfl, ?_⟩) (by assumption) ?_
        rotate_left
        · intro w hSw; (try dsimp only at hSw); go_simp
          try with_reducible rfl
        try simp only [Act.put, List.setIfInBounds_toArray, List.set_cons_zero, List.set_cons_succ]
        refine wpAnyH_take (i := 15) (oi := { dst := some 97, op := Op.call { callee := Callee.builtin Builtin.len, args := #[Operand.tmp 96], argTypes := #[30] }, type := 3, pos := "law.go:122", after := #[{ on := 14, ground := Ground.data }, { on := 8, ground := Ground.guard }], guard := some (8, false) }) (v := ?_) rfl (by kernel_rfl) (by kernel_rfl) (by kernel_rfl) (fun _ _ _ h => h) (Or.inl ⟨by rfl, ?_⟩) (by assumption) ?_
        rotate_left
        · intro w hSw; (try dsimp only at hSw); go_simp
          try with_reducible rfl
        try simp only [Act.put, List.setIfInBounds_toArray, List.set_cons_zero, List.set_cons_succ]
        refine wpAnyH_ready (rs := [10]) (by kernel_rfl) (by simp) ?_
        refine AllReadyH.cons (o := { dst := some 92, op := Op.call { callee := Callee.value (Operand.func 11), args := #[Operand.tmp 91], argTypes := #[24] }, type := 3, pos := "law.go:122", after := #[{ on := 9, ground := Ground.data }, { on := 8, ground := Ground.chain }, { on := 8, ground := Ground.guard }], guard := some (8, false) }) rfl (fun K hK => ?_) AllReadyH.nil
        go_simp
        go_at_call 11; refine (HL.out _ (grown_refl _ _)).mono ?_; rintro e w' ⟨rfl, hw'⟩; replace hw' := hw'.symm; subst hw'; go_simp
        refine hK.out _ _ ⟨r0, v0, v1, v2, v3⟩ (fun hHeld => ?_)
        clear hK K
        try simp only [Act.put, List.setIfInBounds_toArray, List.set_cons_zero, List.set_cons_succ]
        refine wpAnyH_take (i := 16) (oi := { dst := some 98, op := Op.binOp BinOp.neq 3 (Operand.tmp 92) (Operand.tmp 97) 3, type := 4, pos := "law.go:122", after := #[{ on := 10, ground := Ground.data }, { on := 15, ground := Ground.data }, { on := 8, ground := Ground.guard }], guard := some (8, false) }) (v := ?_) rfl (by kernel_rfl) (by kernel_rfl) (by kernel_rfl) (fun _ _ _ h => h) (Or.inl ⟨by rfl, ?_⟩) (by assumption) ?_
        rotate_left
        · intro w hSw; (try dsimp only at hSw); go_simp
          try with_reducible rfl
        try simp only [Act.put, List.setIfInBounds_toArray, List.set_cons_zero, List.set_cons_succ]
        refine wpAnyH_take (i := 17) (oi := { dst := some 99, op := Op.pick (Operand.tmp 90) (Operand.const (Value.bool true)) (Operand.tmp 98), type := 4, pos := "law.go:122", after := #[{ on := 8, ground := Ground.data }, { on := 16, ground := Ground.data }], guard := none }) (v := ?_) rfl (by kernel_rfl) (by kernel_rfl) (by kernel_rfl) (fun _ _ _ h => h) (Or.inl ⟨by rfl, ?_⟩) (by assumption) ?_
        rotate_left
        · intro w hSw; (try dsimp only at hSw); go_simp
          try with_reducible rfl
        try simp only [Act.put, List.setIfInBounds_toArray, List.set_cons_zero, List.set_cons_succ]
        refine wpAnyH_take (i := 18) (oi := { dst := some 100, op := Op.move (Operand.tmp 99), type := 4, pos := "law.go:122", after := #[{ on := 17, ground := Ground.data }, { on := 10, ground := Ground.chain }], guard := none }) (v := ?_) rfl (by kernel_rfl) (by kernel_rfl) (by kernel_rfl) (fun _ _ _ h => h) (Or.inl ⟨by rfl, ?_⟩) (by assumption) ?_
        rotate_left
        · intro w hSw; (try dsimp only at hSw); go_simp
          try with_reducible rfl
        try simp only [Act.put, List.setIfInBounds_toArray, List.set_cons_zero, List.set_cons_succ]
        refine wpAnyH_take (i := 19) (oi := { dst := some 101, op := Op.move (Operand.tmp 5), type := 24, pos := "law.go:122", after := #[{ on := 18, ground := Ground.guard }], guard := some (18, false) }) (v := ?_) rfl (by kernel_rfl) (by kernel_rfl) (by kernel_rfl) (fun _ _ _ h => h) (Or.inl ⟨by rfl, ?_⟩) (by assumption) ?_
        rotate_left
        · intro w hSw; (try dsimp only at hSw); go_simp
          try with_reducible rfl
        try simp only [Act.put, List.setIfInBounds_toArray, List.set_cons_zero, List.set_cons_succ]
        refine wpAnyH_take (i := 21) (oi := { dst := some 103, op := Op.move (Operand.tmp 0), type := 3, pos := "law.go:122", after := #[{ on := 18, ground := Ground.guard }], guard := some (18, false) }) (v := ?_) rfl (by kernel_rfl) (by kernel_rfl) (by kernel_rfl) (fun _ _ _ h => h) (Or.inl ⟨by rfl, ?_⟩) (by assumption) ?_
        rotate_left
        · intro w hSw; (try dsimp only at hSw); go_simp
          try with_reducible rfl
        try simp only [Act.put, List.setIfInBounds_toArray, List.set_cons_zero, List.set_cons_succ]
        refine wpAnyH_ready (rs := [20]) (by kernel_rfl) (by simp) ?_
        refine AllReadyH.cons (o := { dst := some 102, op := Op.call { callee := Callee.value (Operand.func 12), args := #[Operand.tmp 101], argTypes := #[24] }, type := 3, pos := "law.go:122", after := #[{ on := 19, ground := Ground.data }, { on := 18, ground := Ground.chain }, { on := 18, ground := Ground.guard }], guard := some (18, false) }) rfl (fun K hK => ?_) AllReadyH.nil
        go_simp
        go_at_call 12; refine (HB.out _ (grown_refl _ _)).mono ?_; rintro e w' ⟨rfl, hw'⟩; replace hw' := hw'.symm; subst hw'; go_simp
        refine hK.out _ _ ⟨r0, v0, v1, v2, v3⟩ (fun hHeld => ?_)
        clear hK K
        try simp only [Act.put, List.setIfInBounds_toArray, List.set_cons_zero, List.set_cons_succ]
        refine wpAnyH_take (i := 22) (oi := { dst := some 104, op := Op.binOp BinOp.neq 3 (Operand.tmp 102) (Operand.tmp 103) 3, type := 4, pos := "law.go:122", after := #[{ on := 20, ground := Ground.data }, { on := 21, ground := Ground.data }, { on := 18, ground := Ground.guard }], guard := some (18, false) }) (v := ?_) rfl (by kernel_rfl) (by kernel_rfl) (by kernel_rfl) (fun _ _ _ h => h) (Or.inl ⟨by rfl, ?_⟩) (by assumption) ?_
        rotate_left
        · intro w hSw; (try dsimp only at hSw); go_simp
          try with_reducible rfl
        try simp only [Act.put, List.setIfInBounds_toArray, List.set_cons_zero, List.set_cons_succ]
        refine wpAnyH_take (i := 23) (oi := { dst := some 105, op := Op.pick (Operand.tmp 100) (Operand.const (Value.bool true)) (Operand.tmp 104), type := 4, pos := "law.go:122", after := #[{ on := 18, ground := Ground.data }, { on := 22, ground := Ground.data }], guard := none }) (v := ?_) rfl (by kernel_rfl) (by kernel_rfl) (by kernel_rfl) (fun _ _ _ h => h) (Or.inl ⟨by rfl, ?_⟩) (by assumption) ?_
        rotate_left
        · intro w hSw; (try dsimp only at hSw); go_simp
          try with_reducible rfl
        try simp only [Act.put, List.setIfInBounds_toArray, List.set_cons_zero, List.set_cons_succ]
        refine wpAnyH_take (i := 24) (oi := { dst := some 106, op := Op.move (Operand.tmp 105), type := 4, pos := "law.go:122", after := #[{ on := 23, ground := Ground.data }, { on := 20, ground := Ground.chain }], guard := none }) (v := ?_) rfl (by kernel_rfl) (by kernel_rfl) (by kernel_rfl) (fun _ _ _ h => h) (Or.inl ⟨by rfl, ?_⟩) (by assumption) ?_
        rotate_left
        · intro w hSw; (try dsimp only at hSw); go_simp
          try with_reducible rfl
        try simp only [Act.put, List.setIfInBounds_toArray, List.set_cons_zero, List.set_cons_succ]
        refine wpAnyH_take (i := 25) (oi := { dst := some 107, op := Op.move (Operand.tmp 5), type := 24, pos := "law.go:122", after := #[{ on := 24, ground := Ground.guard }], guard := some (24, false) }) (v := ?_) rfl (by kernel_rfl) (by kernel_rfl) (by kernel_rfl) (fun _ _ _ h => h) (Or.inl ⟨by rfl, ?_⟩) (by assumption) ?_
        rotate_left
        · intro w hSw; (try dsimp only at hSw); go_simp
          try with_reducible rfl
        try simp only [Act.put, List.setIfInBounds_toArray, List.set_cons_zero, List.set_cons_succ]
        refine wpAnyH_take (i := 27) (oi := { dst := some 109, op := Op.move (Operand.tmp 7), type := 29, pos := "law.go:122", after := #[{ on := 24, ground := Ground.guard }], guard := some (24, false) }) (v := ?_) rfl (by kernel_rfl) (by kernel_rfl) (by kernel_rfl) (fun _ _ _ h => h) (Or.inl ⟨by rfl, ?_⟩) (by assumption) ?_
        rotate_left
        · intro w hSw; (try dsimp only at hSw); go_simp
          try with_reducible rfl
        try simp only [Act.put, List.setIfInBounds_toArray, List.set_cons_zero, List.set_cons_succ]
        refine wpAnyH_take (i := 28) (oi := { dst := some 110, op := Op.nilCheck (Operand.tmp 109), type := 0, pos := "law.go:122", after := #[{ on := 27, ground := Ground.data }, { on := 24, ground := Ground.guard }], guard := some (24, false) }) (v := ?_) rfl (by kernel_rfl) (by kernel_rfl) (by kernel_rfl) (fun _ _ _ h => h) (Or.inl ⟨by rfl, ?_⟩) (by assumption) ?_
        rotate_left
        · intro w hSw; (try dsimp only at hSw); go_simp
          try with_reducible rfl
        try simp only [Act.put, List.setIfInBounds_toArray, List.set_cons_zero, List.set_cons_succ]
        refine wpAnyH_take (i := 29) (oi := { dst := some 111, op := Op.fieldAddr 32 (Operand.tmp 110) 0, type := 0, pos := "law.go:122", after := #[{ on := 28, ground := Ground.data }, { on := 24, ground := Ground.guard }], guard := some (24, false) }) (v := ?_) rfl (by kernel_rfl) (by kernel_rfl) (by kernel_rfl) (fun _ _ _ h => h) (Or.inl ⟨by rfl, ?_⟩) (by assumption) ?_
        rotate_left
        · intro w hSw; (try dsimp only at hSw); go_simp
          try with_reducible rfl
        try simp only [Act.put, List.setIfInBounds_toArray, List.set_cons_zero, List.set_cons_succ]
        refine wpAnyH_take (i := 30) (oi := { dst := some 112, op := Op.load 30 (Operand.tmp 111), type := 30, pos := "law.go:122", after := #[{ on := 29, ground := Ground.data }, { on := 24, ground := Ground.guard }], guard := some (24, false) }) (v := ?_) rfl (by kernel_rfl) (by kernel_rfl) (by kernel_rfl) (fun _ _ _ h => h) (Or.inl ⟨by rfl, ?_⟩) (by assumption) ?_
        rotate_left
        · intro w hSw; (try dsimp only at hSw); go_simp
          try with_reducible rfl
        try simp only [Act.put, List.setIfInBounds_toArray, List.set_cons_zero, List.set_cons_succ]
        refine wpAnyH_take (i := 31) (oi := { dst := some 113, op := Op.call { callee := Callee.builtin Builtin.len, args := #[Operand.tmp 112], argTypes := #[30] }, type := 3, pos := "law.go:122", after := #[{ on := 30, ground := Ground.data }, { on := 24, ground := Ground.guard }], guard := some (24, false) }) (v := ?_) rfl (by kernel_rfl) (by kernel_rfl) (by kernel_rfl) (fun _ _ _ h => h) (Or.inl ⟨by rfl, ?_⟩) (by assumption) ?_
        rotate_left
        · intro w hSw; (try dsimp only at hSw); go_simp
          try with_reducible rfl
        try simp only [Act.put, List.setIfInBounds_toArray, List.set_cons_zero, List.set_cons_succ]
        refine wpAnyH_take (i := 32) (oi := { dst := some 114, op := Op.move (Operand.tmp 0), type := 3, pos := "law.go:122", after := #[{ on := 24, ground := Ground.guard }], guard := some (24, false) }) (v := ?_) rfl (by kernel_rfl) (by kernel_rfl) (by kernel_rfl) (fun _ _ _ h => h) (Or.inl ⟨by rfl, ?_⟩) (by assumption) ?_
        rotate_left
        · intro w hSw; (try dsimp only at hSw); go_simp
          try with_reducible rfl
        try simp only [Act.put, List.setIfInBounds_toArray, List.set_cons_zero, List.set_cons_succ]
        refine wpAnyH_take (i := 33) (oi := { dst := some 115, op := Op.binOp BinOp.eql 3 (Operand.tmp 113) (Operand.tmp 114) 3, type := 4, pos := "law.go:122", after := #[{ on := 31, ground := Ground.data }, { on := 32, ground := Ground.data }, { on := 24, ground := Ground.guard }], guard := some (24, false) }) (v := ?_) rfl (by kernel_rfl) (by kernel_rfl) (by kernel_rfl) (fun _ _ _ h => h) (Or.inl ⟨by rfl, ?_⟩) (by assumption) ?_
        rotate_left
        · intro w hSw; (try dsimp only at hSw); go_simp
          try with_reducible rfl
        try simp only [Act.put, List.setIfInBounds_toArray, List.set_cons_zero, List.set_cons_succ]
        refine wpAnyH_ready (rs := [26]) (by kernel_rfl) (by simp) ?_
        refine AllReadyH.cons (o := { dst := some 108, op := Op.call { callee := Callee.value (Operand.func 13), args := #[Operand.tmp 107], argTypes := #[24] }, type := 4, pos := "law.go:122", after := #[{ on := 25, ground := Ground.data }, { on := 24, ground := Ground.chain }, { on := 24, ground := Ground.guard }], guard := some (24, false) }) rfl (fun K hK => ?_) AllReadyH.nil
        go_simp
        go_at_call 13; refine (HF.out _ (grown_refl _ _)).mono ?_; rintro e w7 ⟨rfl, hg7⟩; go_simp
        refine hK.out _ _ ⟨hg7.cell r0 (by simp), hg7.cell v0 (by simp), hg7.cell v1 (by simp), hg7.cell v2 (by simp), hg7.cell v3 (by simp)⟩ (fun hHeld => ?_)
        clear hK K
        try simp only [Act.put, List.setIfInBounds_toArray, List.set_cons_zero, List.set_cons_succ]
        refine wpAnyH_take (i := 34) (oi := { dst := some 116, op := Op.binOp BinOp.neq 4 (Operand.tmp 108) (Operand.tmp 115) 4, type := 4, pos := "law.go:122", after := #[{ on := 26, ground := Ground.data }, { on := 33, ground := Ground.data }, { on := 24, ground := Ground.guard }], guard := some (24, false) }) (v := ?_) rfl (by kernel_rfl) (by kernel_rfl) (by kernel_rfl) (fun _ _ _ h => h) (Or.inl ⟨by rfl, ?_⟩) (by assumption) ?_
        rotate_left
        · intro w hSw; (try dsimp only at hSw); go_simp
          try with_reducible rfl
        try simp only [Act.put, List.setIfInBounds_toArray, List.set_cons_zero, List.set_cons_succ]
        refine wpAnyH_take (i := 35) (oi := { dst := some 117, op := Op.pick (Operand.tmp 106) (Operand.const (Value.bool true)) (Operand.tmp 116), type := 4, pos := "law.go:122", after := #[{ on := 24, ground := Ground.data }, { on := 34, ground := Ground.data }], guard := none }) (v := ?_) rfl (by kernel_rfl) (by kernel_rfl) (by kernel_rfl) (fun _ _ _ h => h) (Or.inl ⟨by rfl, ?_⟩) (by assumption) ?_
        rotate_left
        · intro w hSw; (try dsimp only at hSw); go_simp
          try with_reducible rfl
        try simp only [Act.put, List.setIfInBounds_toArray, List.set_cons_zero, List.set_cons_succ]
        refine wpAnyH_done (by kernel_rfl) ?_ _
        go_wp2
        go_roundw
        case rel => exact ⟨i + 1, b5, g5, f4, lo4, n4, c4, L4, oo2, wo4, ko + 1, co2, cw4, _, _, rfl, rfl, rfl, by go_num, by omega, by omega, hM4.grown hg7⟩
        case measure => simp [intOf]; omega
      · have d4 : (K == 8) = false := by simpa using hK
        have HA : Hid (∀ W, wr.grownBy W none → Calls Try.prog 10 #[.pointer (some ⟨b, 0, none⟩), .pointer (some ⟨rb, 0, none⟩), .agg #[.int .i64 K, .int .i64 N, .int .i64 M, .slice xl m cx]] W fun e w' => e = .returned (.bool true) ∧ Done W w' b g rb bnd lo) := by
          intro W hg
          refine ask_any W b g rb bnd f lo n c L (hM.pr.grown hg) xl m cx K N M A ((hA.chg hch (fun _ _ e => e)).grown hg) (by omega) (fun hm0 a ha => ?_)
          obtain ⟨ab, ao, e8, h8⟩ := hA.addr hm0
          obtain rfl := Option.some.inj (ha.symm.trans e8)
          exact ⟨by show ab ≠ _; omega, by show ab ≠ _; omega, by show ab ≠ _; omega⟩
        have hgd : wr.grownBy wr.drew none := grown_drewN wr 1 none
        have hMd := hM.grown hgd
        have u0 : wr.drew.cell? ⟨sb, so + i * 4, none⟩ = _ := hgd.cell k0 (by simp)
        have u1 : wr.drew.cell? ⟨sb, so + i * 4 + 1, none⟩ = _ := hgd.cell k1 (by simp)
        have u2 : wr.drew.cell? ⟨sb, so + i * 4 + 2, none⟩ = _ := hgd.cell k2 (by simp)
        have u3 : wr.drew.cell? ⟨sb, so + i * 4 + 3, none⟩ = _ := hgd.cell k3 (by simp)
        have hin' : (i : Int) < (k : Int) := by omega
        have hlt := World.block_lt_of_cell? _ _ q0
        have hin3 : sb ≠ b ∧ sb ≠ g ∧ sb ≠ rb := by change sb < w.heap.size at hlt; omega
        clear hA hch hM hbk hgk hrk hlt
        go_wp2_with fail
        refine wp_region_held_drew (S := fun w' => w'.cell? ⟨sb, so + i * 4, none⟩ = some (.int .i64 K) ∧ w'.cell? ⟨sb, so + i * 4 + 1, none⟩ = some (.int .i64 N) ∧ w'.cell? ⟨sb, so + i * 4 + 2, none⟩ = some (.int .i64 M) ∧ w'.cell? ⟨sb, so + i * 4 + 3, none⟩ = some (.slice xl m cx)) (by kernel_rfl) ⟨u0, u1, u2, u3⟩ (fun hHeld => ?_)
        refine wpAnyH_take (i := 0) (oi := { dst := some 82, op := Op.move (Operand.tmp 5), type := 24, pos := "law.go:122", after := #[], guard := none }) (v := ?_) rfl (by kernel_rfl) (by kernel_rfl) (by kernel_rfl) (fun _ _ _ h => h) (Or.inl ⟨by rfl, ?_⟩) (by assumption) ?_
        rotate_left
        · intro w hSw; (try dsimp only at hSw); go_simp
          try with_reducible rfl
        try simp only [Act.put, List.setIfInBounds_toArray, List.set_cons_zero, List.set_cons_succ]
        refine wpAnyH_take (i := 1) (oi := { dst := some 83, op := Op.move (Operand.tmp 7), type := 29, pos := "law.go:122", after := #[], guard := none }) (v := ?_) rfl (by kernel_rfl) (by kernel_rfl) (by kernel_rfl) (fun _ _ _ h => h) (Or.inl ⟨by rfl, ?_⟩) (by assumption) ?_
        rotate_left
        · intro w hSw; (try dsimp only at hSw); go_simp
          try with_reducible rfl
        try simp only [Act.put, List.setIfInBounds_toArray, List.set_cons_zero, List.set_cons_succ]
        refine wpAnyH_take (i := 2) (oi := { dst := some 84, op := Op.move (Operand.tmp 1), type := 22, pos := "law.go:122", after := #[], guard := none }) (v := ?_) rfl (by kernel_rfl) (by kernel_rfl) (by kernel_rfl) (fun _ _ _ h => h) (Or.inl ⟨by rfl, ?_⟩) (by assumption) ?_
        rotate_left
        · intro w hSw; (try dsimp only at hSw); go_simp
          try with_reducible rfl
        try simp only [Act.put, List.setIfInBounds_toArray, List.set_cons_zero, List.set_cons_succ]
        refine wpAnyH_take (i := 3) (oi := { dst := some 85, op := Op.move (Operand.tmp 10), type := 3, pos := "law.go:122", after := #[], guard := none }) (v := ?_) rfl (by kernel_rfl) (by kernel_rfl) (by kernel_rfl) (fun _ _ _ h => h) (Or.inl ⟨by rfl, ?_⟩) (by assumption) ?_
        rotate_left
        · intro w hSw; (try dsimp only at hSw); go_simp
          try with_reducible rfl
        try simp only [Act.put, List.setIfInBounds_toArray, List.set_cons_zero, List.set_cons_succ]
        refine wpAnyH_take (i := 4) (oi := { dst := some 86, op := Op.indexAddr 22 (Operand.tmp 84) (Operand.tmp 85), type := 0, pos := "law.go:122", after := #[{ on := 2, ground := Ground.data }, { on := 3, ground := Ground.data }], guard := none }) (v := ?_) rfl (by kernel_rfl) (by kernel_rfl) (by kernel_rfl) (fun _ _ _ h => h) (Or.inl ⟨by rfl, ?_⟩) (by assumption) ?_
        rotate_left
        · intro w hSw; (try dsimp only at hSw); go_simp
          try with_reducible rfl
        try simp only [Act.put, List.setIfInBounds_toArray, List.set_cons_zero, List.set_cons_succ]
        refine wpAnyH_take (i := 5) (oi := { dst := some 87, op := Op.load 36 (Operand.tmp 86), type := 36, pos := "law.go:122", after := #[{ on := 4, ground := Ground.data }], guard := none }) (v := ?_) rfl (by kernel_rfl) (by kernel_rfl) (by kernel_rfl) (fun _ _ _ h => h) (Or.inl ⟨by rfl, ?_⟩) (by assumption) ?_
        rotate_left
        · intro w hSw; (try dsimp only at hSw); go_simp
          try with_reducible rfl
        try simp only [Act.put, List.setIfInBounds_toArray, List.set_cons_zero, List.set_cons_succ]
        refine wpAnyH_ready (rs := [6]) (by kernel_rfl) (by simp) ?_
        refine AllReadyH.cons (o := { dst := some 88, op := Op.call { callee := Callee.value (Operand.func 10), args := #[Operand.tmp 82, Operand.tmp 83, Operand.tmp 87], argTypes := #[24, 29, 36] }, type := 4, pos := "law.go:122", after := #[{ on := 0, ground := Ground.data }, { on := 1, ground := Ground.data }, { on := 5, ground := Ground.data }], guard := none }) rfl (fun K hK => ?_) AllReadyH.nil
        go_simp
        go_at_call 10; refine (HA.out _ hgd).mono ?_; rintro e w4 ⟨rfl, hD⟩; obtain ⟨v0, v1, v2, v3⟩ := hD.cells4 hin3 u0 u1 u2 u3; obtain ⟨f4, lo4, n4, c4, L4, hM4⟩ := hMd.asked hD; have r0 := hM4.pr.d.c0; obtain ⟨HL, HB, t, ht, HF⟩ := hid3 (answers hM4.pr); go_simp
        refine hK.out _ _ ⟨v0, v1, v2, v3⟩ (fun hHeld => ?_)
        clear hK K
        try simp only [Act.put, List.setIfInBounds_toArray, List.set_cons_zero, List.set_cons_succ]
        clear hHeld
        refine wpAnyH_mono (S2 := fun w' => w'.cell? ⟨rb, 0, none⟩ = some (.slice lo4 n4 c4) ∧ w'.cell? ⟨sb, so + i * 4, none⟩ = some (.int .i64 K) ∧ w'.cell? ⟨sb, so + i * 4 + 1, none⟩ = some (.int .i64 N) ∧ w'.cell? ⟨sb, so + i * 4 + 2, none⟩ = some (.int .i64 M) ∧ w'.cell? ⟨sb, so + i * 4 + 3, none⟩ = some (.slice xl m cx)) (fun _ h => h.2) _ _ _ _ ?_
        have hHeld : (fun w' : World => w'.cell? ⟨rb, 0, none⟩ = some (.slice lo4 n4 c4) ∧ w'.cell? ⟨sb, so + i * 4, none⟩ = some (.int .i64 K) ∧ w'.cell? ⟨sb, so + i * 4 + 1, none⟩ = some (.int .i64 N) ∧ w'.cell? ⟨sb, so + i * 4 + 2, none⟩ = some (.int .i64 M) ∧ w'.cell? ⟨sb, so + i * 4 + 3, none⟩ = some (.slice xl m cx)) w4 := ⟨r0, v0, v1, v2, v3⟩
        refine wpAnyH_take (i := 7) (oi := { dst := some 89, op := Op.unOp UnOp.not 4 (Operand.tmp 88), type := 4, pos := "law.go:122", after := #[{ on := 6, ground := Ground.data }], guard := none }) (v := ?_) rfl (by kernel_rfl) (by kernel_rfl) (by kernel_rfl) (fun _ _ _ h => h) (Or.inl ⟨by rfl, ?_⟩) (by assumption) ?_
        rotate_left
        · intro w hSw; (try dsimp only at hSw); go_simp
          try with_reducible rfl
        try simp only [Act.put, List.setIfInBounds_toArray, List.set_cons_zero, List.set_cons_succ]
        refine wpAnyH_take (i := 8) (oi := { dst := some 90, op := Op.move (Operand.tmp 89), type := 4, pos := "law.go:122", after := #[{ on := 7, ground := Ground.data }, { on := 6, ground := Ground.chain }], guard := none }) (v := ?_) rfl (by kernel_rfl) (by kernel_rfl) (by kernel_rfl) (fun _ _ _ h => h) (Or.inl ⟨by rfl, ?_⟩) (by assumption) ?_
        rotate_left
        · intro w hSw; (try dsimp only at hSw); go_simp
          try with_reducible rfl
        try simp only [Act.put, List.setIfInBounds_toArray, List.set_cons_zero, List.set_cons_succ]
        refine wpAnyH_take (i := 9) (oi := { dst := some 91, op := Op.move (Operand.tmp 5), type := 24, pos := "law.go:122", after := #[{ on := 8, ground := Ground.guard }], guard := some (8, false) }) (v := ?_) rfl (by kernel_rfl) (by kernel_rfl) (by kernel_rfl) (fun _ _ _ h => h) (Or.inl ⟨by rfl, ?_⟩) (by assumption) ?_
        rotate_left
        · intro w hSw; (try dsimp only at hSw); go_simp
          try with_reducible rfl
        try simp only [Act.put, List.setIfInBounds_toArray, List.set_cons_zero, List.set_cons_succ]
        refine wpAnyH_take (i := 11) (oi := { dst := some 93, op := Op.move (Operand.tmp 7), type := 29, pos := "law.go:122", after := #[{ on := 8, ground := Ground.guard }], guard := some (8, false) }) (v := ?_) rfl (by kernel_rfl) (by kernel_rfl) (by kernel_rfl) (fun _ _ _ h => h) (Or.inl ⟨by rfl, ?_⟩) (by assumption) ?_
        rotate_left
        · intro w hSw; (try dsimp only at hSw); go_simp
          try with_reducible rfl
        try simp only [Act.put, List.setIfInBounds_toArray, List.set_cons_zero, List.set_cons_succ]
        refine wpAnyH_take (i := 12) (oi := { dst := some 94, op := Op.nilCheck (Operand.tmp 93), type := 0, pos := "law.go:122", after := #[{ on := 11, ground := Ground.data }, { on := 8, ground := Ground.guard }], guard := some (8, false) }) (v := ?_) rfl (by kernel_rfl) (by kernel_rfl) (by kernel_rfl) (fun _ _ _ h => h) (Or.inl ⟨by rfl, ?_⟩) (by assumption) ?_
        rotate_left
        · intro w hSw; (try dsimp only at hSw); go_simp
          try with_reducible rfl
        try simp only [Act.put, List.setIfInBounds_toArray, List.set_cons_zero, List.set_cons_succ]
        refine wpAnyH_take (i := 13) (oi := { dst := some 95, op := Op.fieldAddr 32 (Operand.tmp 94) 0, type := 0, pos := "law.go:122", after := #[{ on := 12, ground := Ground.data }, { on := 8, ground := Ground.guard }], guard := some (8, false) }) (v := ?_) rfl (by kernel_rfl) (by kernel_rfl) (by kernel_rfl) (fun _ _ _ h => h) (Or.inl ⟨by rfl, ?_⟩) (by assumption) ?_
        rotate_left
        · intro w hSw; (try dsimp only at hSw); go_simp
          try with_reducible rfl
        try simp only [Act.put, List.setIfInBounds_toArray, List.set_cons_zero, List.set_cons_succ]
        refine wpAnyH_take (i := 14) (oi := { dst := some 96, op := Op.load 30 (Operand.tmp 95), type := 30, pos := "law.go:122", after := #[{ on := 13, ground := Ground.data }, { on := 8, ground := Ground.guard }], guard := some (8, false) }) (v := ?_) rfl (by kernel_rfl) (by kernel_rfl) (by kernel_rfl) (fun _ _ _ h => h) (Or.inl ⟨by rfl, ?_⟩) (by assumption) ?_
        rotate_left
        · intro w hSw; (try dsimp only at hSw); go_simp
          try with_reducible rfl
        try simp only [Act.put, List.setIfInBounds_toArray, List.set_cons_zero, List.set_cons_succ]
        refine wpAnyH_take (i := 15) (oi := { dst := some 97, op := Op.call { callee := Callee.builtin Builtin.len, args := #[Operand.tmp 96], argTypes := #[30] }, type := 3, pos := "law.go:122", after := #[{ on := 14, ground := Ground.data }, { on := 8, ground := Ground.guard }], guard := some (8, false) }) (v := ?_) rfl (by kernel_rfl) (by kernel_rfl) (by kernel_rfl) (fun _ _ _ h => h) (Or.inl ⟨by rfl, ?_⟩) (by assumption) ?_
        rotate_left
        · intro w hSw; (try dsimp only at hSw); go_simp
          try with_reducible rfl
        try simp only [Act.put, List.setIfInBounds_toArray, List.set_cons_zero, List.set_cons_succ]
        refine wpAnyH_ready (rs := [10]) (by kernel_rfl) (by simp) ?_
        refine AllReadyH.cons (o := { dst := some 92, op := Op.call { callee := Callee.value (Operand.func 11), args := #[Operand.tmp 91], argTypes := #[24] }, type := 3, pos := "law.go:122", after := #[{ on := 9, ground := Ground.data }, { on := 8, ground := Ground.chain }, { on := 8, ground := Ground.guard }], guard := some (8, false) }) rfl (fun K hK => ?_) AllReadyH.nil
        go_simp
        go_at_call 11; refine (HL.out _ (grown_refl _ _)).mono ?_; rintro e w' ⟨rfl, hw'⟩; replace hw' := hw'.symm; subst hw'; go_simp
        refine hK.out _ _ ⟨r0, v0, v1, v2, v3⟩ (fun hHeld => ?_)
        clear hK K
        try simp only [Act.put, List.setIfInBounds_toArray, List.set_cons_zero, List.set_cons_succ]
        refine wpAnyH_take (i := 16) (oi := { dst := some 98, op := Op.binOp BinOp.neq 3 (Operand.tmp 92) (Operand.tmp 97) 3, type := 4, pos := "law.go:122", after := #[{ on := 10, ground := Ground.data }, { on := 15, ground := Ground.data }, { on := 8, ground := Ground.guard }], guard := some (8, false) }) (v := ?_) rfl (by kernel_rfl) (by kernel_rfl) (by kernel_rfl) (fun _ _ _ h => h) (Or.inl ⟨by rfl, ?_⟩) (by assumption) ?_
        rotate_left
        · intro w hSw; (try dsimp only at hSw); go_simp
          try with_reducible rfl
        try simp only [Act.put, List.setIfInBounds_toArray, List.set_cons_zero, List.set_cons_succ]
        refine wpAnyH_take (i := 17) (oi := { dst := some 99, op := Op.pick (Operand.tmp 90) (Operand.const (Value.bool true)) (Operand.tmp 98), type := 4, pos := "law.go:122", after := #[{ on := 8, ground := Ground.data }, { on := 16, ground := Ground.data }], guard := none }) (v := ?_) rfl (by kernel_rfl) (by kernel_rfl) (by kernel_rfl) (fun _ _ _ h => h) (Or.inl ⟨by rfl, ?_⟩) (by assumption) ?_
        rotate_left
        · intro w hSw; (try dsimp only at hSw); go_simp
          try with_reducible rfl
        try simp only [Act.put, List.setIfInBounds_toArray, List.set_cons_zero, List.set_cons_succ]
        refine wpAnyH_take (i := 18) (oi := { dst := some 100, op := Op.move (Operand.tmp 99), type := 4, pos := "law.go:122", after := #[{ on := 17, ground := Ground.data }, { on := 10, ground := Ground.chain }], guard := none }) (v := ?_) rfl (by kernel_rfl) (by kernel_rfl) (by kernel_rfl) (fun _ _ _ h => h) (Or.inl ⟨by rfl, ?_⟩) (by assumption) ?_
        rotate_left
        · intro w hSw; (try dsimp only at hSw); go_simp
          try with_reducible rfl
        try simp only [Act.put, List.setIfInBounds_toArray, List.set_cons_zero, List.set_cons_succ]
        refine wpAnyH_take (i := 19) (oi := { dst := some 101, op := Op.move (Operand.tmp 5), type := 24, pos := "law.go:122", after := #[{ on := 18, ground := Ground.guard }], guard := some (18, false) }) (v := ?_) rfl (by kernel_rfl) (by kernel_rfl) (by kernel_rfl) (fun _ _ _ h => h) (Or.inl ⟨by rfl, ?_⟩) (by assumption) ?_
        rotate_left
        · intro w hSw; (try dsimp only at hSw); go_simp
          try with_reducible rfl
        try simp only [Act.put, List.setIfInBounds_toArray, List.set_cons_zero, List.set_cons_succ]
        refine wpAnyH_take (i := 21) (oi := { dst := some 103, op := Op.move (Operand.tmp 0), type := 3, pos := "law.go:122", after := #[{ on := 18, ground := Ground.guard }], guard := some (18, false) }) (v := ?_) rfl (by kernel_rfl) (by kernel_rfl) (by kernel_rfl) (fun _ _ _ h => h) (Or.inl ⟨by rfl, ?_⟩) (by assumption) ?_
        rotate_left
        · intro w hSw; (try dsimp only at hSw); go_simp
          try with_reducible rfl
        try simp only [Act.put, List.setIfInBounds_toArray, List.set_cons_zero, List.set_cons_succ]
        refine wpAnyH_ready (rs := [20]) (by kernel_rfl) (by simp) ?_
        refine AllReadyH.cons (o := { dst := some 102, op := Op.call { callee := Callee.value (Operand.func 12), args := #[Operand.tmp 101], argTypes := #[24] }, type := 3, pos := "law.go:122", after := #[{ on := 19, ground := Ground.data }, { on := 18, ground := Ground.chain }, { on := 18, ground := Ground.guard }], guard := some (18, false) }) rfl (fun K hK => ?_) AllReadyH.nil
        go_simp
        go_at_call 12; refine (HB.out _ (grown_refl _ _)).mono ?_; rintro e w' ⟨rfl, hw'⟩; replace hw' := hw'.symm; subst hw'; go_simp
        refine hK.out _ _ ⟨r0, v0, v1, v2, v3⟩ (fun hHeld => ?_)
        clear hK K
        try simp only [Act.put, List.setIfInBounds_toArray, List.set_cons_zero, List.set_cons_succ]
        refine wpAnyH_take (i := 22) (oi := { dst := some 104, op := Op.binOp BinOp.neq 3 (Operand.tmp 102) (Operand.tmp 103) 3, type := 4, pos := "law.go:122", after := #[{ on := 20, ground := Ground.data }, { on := 21, ground := Ground.data }, { on := 18, ground := Ground.guard }], guard := some (18, false) }) (v := ?_) rfl (by kernel_rfl) (by kernel_rfl) (by kernel_rfl) (fun _ _ _ h => h) (Or.inl ⟨by rfl, ?_⟩) (by assumption) ?_
        rotate_left
        · intro w hSw; (try dsimp only at hSw); go_simp
          try with_reducible rfl
        try simp only [Act.put, List.setIfInBounds_toArray, List.set_cons_zero, List.set_cons_succ]
        refine wpAnyH_take (i := 23) (oi := { dst := some 105, op := Op.pick (Operand.tmp 100) (Operand.const (Value.bool true)) (Operand.tmp 104), type := 4, pos := "law.go:122", after := #[{ on := 18, ground := Ground.data }, { on := 22, ground := Ground.data }], guard := none }) (v := ?_) rfl (by kernel_rfl) (by kernel_rfl) (by kernel_rfl) (fun _ _ _ h => h) (Or.inl ⟨by rfl, ?_⟩) (by assumption) ?_
        rotate_left
        · intro w hSw; (try dsimp only at hSw); go_simp
          try with_reducible rfl
        try simp only [Act.put, List.setIfInBounds_toArray, List.set_cons_zero, List.set_cons_succ]
        refine wpAnyH_take (i := 24) (oi := { dst := some 106, op := Op.move (Operand.tmp 105), type := 4, pos := "law.go:122", after := #[{ on := 23, ground := Ground.data }, { on := 20, ground := Ground.chain }], guard := none }) (v := ?_) rfl (by kernel_rfl) (by kernel_rfl) (by kernel_rfl) (fun _ _ _ h => h) (Or.inl ⟨by rfl, ?_⟩) (by assumption) ?_
        rotate_left
        · intro w hSw; (try dsimp only at hSw); go_simp
          try with_reducible rfl
        try simp only [Act.put, List.setIfInBounds_toArray, List.set_cons_zero, List.set_cons_succ]
        refine wpAnyH_take (i := 25) (oi := { dst := some 107, op := Op.move (Operand.tmp 5), type := 24, pos := "law.go:122", after := #[{ on := 24, ground := Ground.guard }], guard := some (24, false) }) (v := ?_) rfl (by kernel_rfl) (by kernel_rfl) (by kernel_rfl) (fun _ _ _ h => h) (Or.inl ⟨by rfl, ?_⟩) (by assumption) ?_
        rotate_left
        · intro w hSw; (try dsimp only at hSw); go_simp
          try with_reducible rfl
        try simp only [Act.put, List.setIfInBounds_toArray, List.set_cons_zero, List.set_cons_succ]
        refine wpAnyH_take (i := 27) (oi := { dst := some 109, op := Op.move (Operand.tmp 7), type := 29, pos := "law.go:122", after := #[{ on := 24, ground := Ground.guard }], guard := some (24, false) }) (v := ?_) rfl (by kernel_rfl) (by kernel_rfl) (by kernel_rfl) (fun _ _ _ h => h) (Or.inl ⟨by rfl, ?_⟩) (by assumption) ?_
        rotate_left
        · intro w hSw; (try dsimp only at hSw); go_simp
          try with_reducible rfl
        try simp only [Act.put, List.setIfInBounds_toArray, List.set_cons_zero, List.set_cons_succ]
        refine wpAnyH_take (i := 28) (oi := { dst := some 110, op := Op.nilCheck (Operand.tmp 109), type := 0, pos := "law.go:122", after := #[{ on := 27, ground := Ground.data }, { on := 24, ground := Ground.guard }], guard := some (24, false) }) (v := ?_) rfl (by kernel_rfl) (by kernel_rfl) (by kernel_rfl) (fun _ _ _ h => h) (Or.inl ⟨by rfl, ?_⟩) (by assumption) ?_
        rotate_left
        · intro w hSw; (try dsimp only at hSw); go_simp
          try with_reducible rfl
        try simp only [Act.put, List.setIfInBounds_toArray, List.set_cons_zero, List.set_cons_succ]
        refine wpAnyH_take (i := 29) (oi := { dst := some 111, op := Op.fieldAddr 32 (Operand.tmp 110) 0, type := 0, pos := "law.go:122", after := #[{ on := 28, ground := Ground.data }, { on := 24, ground := Ground.guard }], guard := some (24, false) }) (v := ?_) rfl (by kernel_rfl) (by kernel_rfl) (by kernel_rfl) (fun _ _ _ h => h) (Or.inl ⟨by rfl, ?_⟩) (by assumption) ?_
        rotate_left
        · intro w hSw; (try dsimp only at hSw); go_simp
          try with_reducible rfl
        try simp only [Act.put, List.setIfInBounds_toArray, List.set_cons_zero, List.set_cons_succ]
        refine wpAnyH_take (i := 30) (oi := { dst := some 112, op := Op.load 30 (Operand.tmp 111), type := 30, pos := "law.go:122", after := #[{ on := 29, ground := Ground.data }, { on := 24, ground := Ground.guard }], guard := some (24, false) }) (v := ?_) rfl (by kernel_rfl) (by kernel_rfl) (by kernel_rfl) (fun _ _ _ h => h) (Or.inl ⟨by rfl, ?_⟩) (by assumption) ?_
        rotate_left
        · intro w hSw; (try dsimp only at hSw); go_simp
          try with_reducible rfl
        try simp only [Act.put, List.setIfInBounds_toArray, List.set_cons_zero, List.set_cons_succ]
        refine wpAnyH_take (i := 31) (oi := { dst := some 113, op := Op.call { callee := Callee.builtin Builtin.len, args := #[Operand.tmp 112], argTypes := #[30] }, type := 3, pos := "law.go:122", after := #[{ on := 30, ground := Ground.data }, { on := 24, ground := Ground.guard }], guard := some (24, false) }) (v := ?_) rfl (by kernel_rfl) (by kernel_rfl) (by kernel_rfl) (fun _ _ _ h => h) (Or.inl ⟨by rfl, ?_⟩) (by assumption) ?_
        rotate_left
        · intro w hSw; (try dsimp only at hSw); go_simp
          try with_reducible rfl
        try simp only [Act.put, List.setIfInBounds_toArray, List.set_cons_zero, List.set_cons_succ]
        refine wpAnyH_take (i := 32) (oi := { dst := some 114, op := Op.move (Operand.tmp 0), type := 3, pos := "law.go:122", after := #[{ on := 24, ground := Ground.guard }], guard := some (24, false) }) (v := ?_) rfl (by kernel_rfl) (by kernel_rfl) (by kernel_rfl) (fun _ _ _ h => h) (Or.inl ⟨by rfl, ?_⟩) (by assumption) ?_
        rotate_left
        · intro w hSw; (try dsimp only at hSw); go_simp
          try with_reducible rfl
        try simp only [Act.put, List.setIfInBounds_toArray, List.set_cons_zero, List.set_cons_succ]
        refine wpAnyH_take (i := 33) (oi := { dst := some 115, op := Op.binOp BinOp.eql 3 (Operand.tmp 113) (Operand.tmp 114) 3, type := 4, pos := "law.go:122", after := #[{ on := 31, ground := Ground.data }, { on := 32, ground := Ground.data }, { on := 24, ground := Ground.guard }], guard := some (24, false) }) (v := ?_) rfl (by kernel_rfl) (by kernel_rfl) (by kernel_rfl) (fun _ _ _ h => h) (Or.inl ⟨by rfl, ?_⟩) (by assumption) ?_
        rotate_left
        · intro w hSw; (try dsimp only at hSw); go_simp
          try with_reducible rfl
        try simp only [Act.put, List.setIfInBounds_toArray, List.set_cons_zero, List.set_cons_succ]
        refine wpAnyH_ready (rs := [26]) (by kernel_rfl) (by simp) ?_
        refine AllReadyH.cons (o := { dst := some 108, op := Op.call { callee := Callee.value (Operand.func 13), args := #[Operand.tmp 107], argTypes := #[24] }, type := 4, pos := "law.go:122", after := #[{ on := 25, ground := Ground.data }, { on := 24, ground := Ground.chain }, { on := 24, ground := Ground.guard }], guard := some (24, false) }) rfl (fun K hK => ?_) AllReadyH.nil
        go_simp
        go_at_call 13; refine (HF.out _ (grown_refl _ _)).mono ?_; rintro e w7 ⟨rfl, hg7⟩; go_simp
        refine hK.out _ _ ⟨hg7.cell r0 (by simp), hg7.cell v0 (by simp), hg7.cell v1 (by simp), hg7.cell v2 (by simp), hg7.cell v3 (by simp)⟩ (fun hHeld => ?_)
        clear hK K
        try simp only [Act.put, List.setIfInBounds_toArray, List.set_cons_zero, List.set_cons_succ]
        refine wpAnyH_take (i := 34) (oi := { dst := some 116, op := Op.binOp BinOp.neq 4 (Operand.tmp 108) (Operand.tmp 115) 4, type := 4, pos := "law.go:122", after := #[{ on := 26, ground := Ground.data }, { on := 33, ground := Ground.data }, { on := 24, ground := Ground.guard }], guard := some (24, false) }) (v := ?_) rfl (by kernel_rfl) (by kernel_rfl) (by kernel_rfl) (fun _ _ _ h => h) (Or.inl ⟨by rfl, ?_⟩) (by assumption) ?_
        rotate_left
        · intro w hSw; (try dsimp only at hSw); go_simp
          try with_reducible rfl
        try simp only [Act.put, List.setIfInBounds_toArray, List.set_cons_zero, List.set_cons_succ]
        refine wpAnyH_take (i := 35) (oi := { dst := some 117, op := Op.pick (Operand.tmp 106) (Operand.const (Value.bool true)) (Operand.tmp 116), type := 4, pos := "law.go:122", after := #[{ on := 24, ground := Ground.data }, { on := 34, ground := Ground.data }], guard := none }) (v := ?_) rfl (by kernel_rfl) (by kernel_rfl) (by kernel_rfl) (fun _ _ _ h => h) (Or.inl ⟨by rfl, ?_⟩) (by assumption) ?_
        rotate_left
        · intro w hSw; (try dsimp only at hSw); go_simp
          try with_reducible rfl
        try simp only [Act.put, List.setIfInBounds_toArray, List.set_cons_zero, List.set_cons_succ]
        refine wpAnyH_done (by kernel_rfl) ?_ _
        go_wp2
        go_roundw
        case rel => exact ⟨i + 1, b, g, f4, lo4, n4, c4, L4, oo, wo, ko, co, cw, os, ws, rfl, rfl, rfl, by go_num, by omega, by omega, hM4.grown hg7⟩
        case measure => simp [intOf]; omega
    · obtain rfl : i = k := by omega
      obtain ⟨wz, rfl⟩ : ∃ wz, wz = wr := ⟨_, rfl⟩
      go_wp2_with fail
      go_loopw [11] (fun j' wq => ∃ j : Nat, j' = .int .i64 j ∧ j ≤ ko ∧ wz.grownBy wq none) (fun j' _ => ko - (intOf j').toNat)
      case atStart => exact ⟨0, rfl, Nat.zero_le _, grown_refl _ none⟩
      case round =>
        obtain ⟨j, rfl, hj, hgq⟩ := hrel
        by_cases hjn : j < ko
        · obtain ⟨go, rfl, _, _⟩ := hM.o.addr (by omega)
          obtain ⟨gw, rfl, _, _⟩ := hM.d.addr (by omega)
          have hol := hM.o.len
          have hwl := hM.d.len
          obtain ⟨p, hp⟩ : ∃ p, os[j]? = some p := ⟨_, List.getElem?_eq_getElem (by omega)⟩
          obtain ⟨q, hq⟩ : ∃ q, ws[j]? = some q := ⟨_, List.getElem?_eq_getElem (by omega)⟩
          obtain ⟨b1, g1, bnd1, f1, lo1, n1, c1, L1, rfl, rfl, hr1, hv1, hpl1, _, _, hlt1⟩ := hM.side j p q hp hq
          have k1 := (hM.o.shows.grown hgq).at hp
          have k2 := (hM.d.shows.grown hgq).at hq
          rw [Nat.zero_add] at k1 k2
          have hgd : wr.grownBy wr.drew none := grown_drewN wr 1 none
          have u1 : wr.drew.cell? ⟨go, j, none⟩ = _ := hgd.cell k1 (by simp)
          have u2 : wr.drew.cell? ⟨gw, j, none⟩ = _ := hgd.cell k2 (by simp)
          have hgqd := grown_trans hgq hgd (by simp)
          have hl1 := hv1.len
          have hb1 := hr1.len
          have ht1 := hr1.top
          have hone1 := hr1.one
          rw [List.length_map] at hl1 hb1
          have hj' : (j : Int) < (ko : Int) := by omega
          have HR := hr1.grown hgqd
          have HV := hv1.grown hgqd
          go_wp2_with fail
          go_region_held3 (fun w' => w'.cell? ⟨go, j, none⟩ = some (.pointer (some ⟨b1, 0, none⟩)) ∧ w'.cell? ⟨gw, j, none⟩ = some (.slice lo1 n1 c1)) (first | exact ⟨k1, k2⟩ | exact ⟨u1, u2⟩ | exact ⟨x1, x2⟩ | exact ⟨y1, y2⟩)
            ((first
              | (go_at_call 15; refine (Ri.list_any _ b1 g1 bnd1 f1 _ HR).mono ?_; rintro e w4 ⟨o4, rfl, hro4, _, hg4⟩; rw [List.length_map, hl1]; have x1 := hg4.cell u1 (by simp); have x2 := hg4.cell u2 (by simp))
              | (go_at_call 14; refine (same_yes _ _ _ n1 _ _ L1 (shows_of hro4 hl1 (by omega)) (HV.grown hg4) (by omega)).mono ?_; rintro e w5 ⟨rfl, hg5⟩; have y1 := hg5.cell x1 (by simp); have y2 := hg5.cell x2 (by simp))))
          go_wp2
          go_roundw
          case rel => exact ⟨j + 1, by go_num, by omega, grown_trans hgqd (grown_trans hg4 hg5 (by simp)) (by simp)⟩
          case measure => simp [intOf]; omega
        · obtain rfl : j = ko := by omega
          go_wp2_with (first | (go_at_call 16; refine (nothing_any _).mono ?_; rintro e w8 ⟨rfl, hg8⟩) | (go_at_call 6; refine (works_any _).mono ?_; rintro e w9 ⟨rfl, hg9⟩))
          go_ret
          exact ⟨rfl, grown_trans (grown_trans (grown_trans (hM.chg.grown (fun _ _ e => e)) hgq (by simp)) hg8 (by simp)) hg9 (by simp)⟩
end Go.Proofs.Ytabnpgmkccmneaa
