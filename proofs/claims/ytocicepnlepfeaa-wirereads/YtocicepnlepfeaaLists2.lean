/-
  A slice of byte slices that the call itself appends to; the document's String and List.
-/
import Derived.Test.YtocicepnlepfeaaLists
namespace Go.Proofs.Ytocicepnlepfeaa
open Go.RowKit
set_option linter.unusedVariables false

/-- A slice's value, out of its three parts. -/
def sv (v : Option Addr × Nat × Nat) : Value := .slice v.1 v.2.1 v.2.2

/-- The call's own row of slices. -/
structure Lr (w : World) (base : Nat) (e : TypeId) (ao : Option Addr) (n cap : Nat) (vs : List (Option Addr × Nat × Nat)) : Prop where
  len : vs.length = n
  row : w.ownsRow base e 1 (.slice ao n cap) n (vs.map sv)

theorem sv_one (vs : List (Option Addr × Nat × Nat)) : ∀ u ∈ vs.map sv, u.oneCell' = true := by
  intro u hu
  obtain ⟨b, _, rfl⟩ := List.mem_map.1 hu
  rfl

theorem Lr.kept {w w' : World} {base : Nat} {e : TypeId} {ao : Option Addr} {n cap : Nat} {vs : List (Option Addr × Nat × Nat)} {row : Option Nat} (h : Lr w base e ao n cap vs) (hg : w.grownBy w' row) (hne : blk ao = none ∨ blk ao ≠ row) : Lr w' base e ao n cap vs :=
  ⟨h.len, h.row.kept hg (by rw [blk_own]; exact hne)⟩
theorem Lr.grown {w w' : World} {base : Nat} {e : TypeId} {ao : Option Addr} {n cap : Nat} {vs : List (Option Addr × Nat × Nat)} (h : Lr w base e ao n cap vs) (hg : w.grownBy w' none) : Lr w' base e ao n cap vs :=
  h.kept hg (by cases ao <;> simp [blk])
theorem Lr.nil (w : World) (base : Nat) (e : TypeId) : Lr w base e none 0 0 [] := ⟨rfl, World.ownsRow_nil w base e 1⟩
theorem Lr.from_base {w : World} {base : Nat} {e : TypeId} {ao : Option Addr} {n cap : Nat} {vs : List (Option Addr × Nat × Nat)} (h : Lr w base e ao n cap vs) : ∀ k, blk ao = some k → base ≤ k ∧ k < w.heap.size := by
  intro k hk
  exact h.row.lt k (by rw [blk_own]; exact hk)

/-- Rows of unlike element types lie in unlike blocks. -/
theorem Lr.apart {w : World} {base base' : Nat} {e e' : TypeId} {ao bo : Option Addr} {n cap m c : Nat} {vs : List (Option Addr × Nat × Nat)} {l : List UInt8} (h : Lr w base e ao n cap vs) (h' : Ow w base' e' bo m c l) (hee : e ≠ e') : blk bo = none ∨ blk bo ≠ blk ao := by
  rcases h.row.2 with ⟨hv, _⟩ | ⟨g, c1, cur, hv, _, hg, _⟩
  · simp only [Value.slice.injEq] at hv
    rw [hv.1]
    cases bo <;> simp [blk]
  · simp only [Value.slice.injEq] at hv
    rcases h'.row.2 with ⟨hv', _⟩ | ⟨g', c1', cur', hv', _, hg', _⟩
    · simp only [Value.slice.injEq] at hv'
      rw [hv'.1]; exact Or.inl rfl
    · simp only [Value.slice.injEq] at hv'
      rw [hv.1, hv'.1]
      refine Or.inr (fun e1 => ?_)
      simp only [blk, Option.map_some, Option.some.injEq] at e1
      rw [e1, hg] at hg'
      simp only [Option.some.injEq, Obj.cells.injEq] at hg'
      exact hee hg'.2.1

/-- With what its slices show. -/
theorem Lr.shows {w : World} {base : Nat} {e : TypeId} {ao : Option Addr} {n cap : Nat} {vs : List (Option Addr × Nat × Nat)} {ls : List (List UInt8)} (h : Lr w base e ao n cap vs) (hl : ls.length = n)
    (hi : ∀ (j : Nat) (v : Option Addr × Nat × Nat) (s : List UInt8), vs[j]? = some v → ls[j]? = some s → Bs w v.1 v.2.1 v.2.2 s) : Ls w ao n cap vs ls := by
  have h2 := h.row.2
  refine ⟨h.len, hl, ?_, ?_, ?_, ?_, hi⟩
  · rcases h2 with ⟨hv, h0⟩ | ⟨g, c, cur, hv, _, _, hn, _⟩
    · rw [h0]; exact Nat.zero_le _
    · simp only [Value.slice.injEq] at hv; rw [hv.2.2]; exact hn
  · rcases h2 with ⟨hv, h0⟩ | ⟨g, c, cur, hv, _, _, _, hm, _⟩
    · simp only [Value.slice.injEq] at hv; rw [hv.2.2]; exact Nat.zero_le _
    · simp only [Value.slice.injEq] at hv; rw [hv.2.2]; exact hm
  · intro hn
    rcases h2 with ⟨hv, h0⟩ | ⟨g, c, cur, hv, _⟩
    · simp only [Value.slice.injEq] at hv; exact hv.2.2
    · simp only [Value.slice.injEq] at hv; rw [hn] at hv; cases hv.1
  · intro a ha j v hv
    subst ha
    have := h.row.cells (g := a.block) rfl j (sv v) (by simp [hv])
    rcases h2 with ⟨hv, h0⟩ | ⟨g, c, cur, hv, _⟩
    · simp only [Value.slice.injEq] at hv; cases hv.1
    · simp only [Value.slice.injEq, Option.some.injEq] at hv
      obtain ⟨rfl, _⟩ := hv
      exact this

theorem Lr.of {w : World} {base : Nat} {e : TypeId} {v : Value} {n : Nat} {vs : List (Option Addr × Nat × Nat)} (hl : vs.length = n) (h : w.ownsRow base e 1 v n (vs.map sv)) : ∃ ao cap, v = .slice ao n cap ∧ Lr w base e ao n cap vs := by
  rcases h.2 with ⟨rfl, rfl⟩ | ⟨g, c, cur, rfl, _⟩
  · exact ⟨none, 0, rfl, hl, h⟩
  · exact ⟨_, _, rfl, hl, h⟩

section
variable {P : Program} (w : World)

/-- 'own = append(own, s)': the world in which s lies in a block of its own. -/
theorem wpList_append_lr {ops : Array Oper} {rest : List Oper} {o : Oper} {a : Act} {Q : Exit → Act → World → Prop} (hgd : o.guard = none) (s x : Operand) (t : TypeId)
    (ho : o.op = .call { callee := .builtin .append, args := #[s, x], argTypes := #[t, t] })
    (base : Nat) (e : TypeId) (ht : P.underlying t = some (.slice e)) (hinfo : (P.info? e).map (fun i => (i.zero, i.size, i.bytes)) = some (some (.slice none 0 0), 1, 24))
    {ao : Option Addr} {n cap : Nat} {vs : List (Option Addr × Nat × Nat)} (hs : a.eval s = .slice ao n cap) (hown : Lr w base e ao n cap vs)
    {g : Nat} (v : Option Addr × Nat × Nat) (hx : a.eval x = .slice (some ⟨g, 0, none⟩) 1 1) (hc : w.cell? ⟨g, 0, none⟩ = some (sv v))
    (hsum : n ≤ 4294967296) (hbase : base ≤ w.heap.size)
    (h : ∀ ao' cap' w', Lr w' base e ao' (n + 1) cap' (vs ++ [v]) → w.grownBy w' (blk ao) → wpList P ops Q rest (a.put o.dst (.slice ao' (n + 1) cap')) w') : wpList P ops Q (o :: rest) a w := by
  obtain ⟨i, hi, hz, hz1, hz2⟩ := info_parts hinfo
  refine wpList_append_own w hgd s x t ho base e i (.slice none 0 0) 1 24 ht hi hz hz1 hz2 rfl (by decide) _ n _ hs hown.row ⟨g, 0, none⟩ 1 1 [sv v] hx rfl ?_ ?_ (by unfold maxLen; omega) (by omega) hbase ?_
  · intro j u hu
    match j, hu with
    | 0, hu => simp at hu; subst hu; rw [Addr.add_lit]; exact hc
  · intro u hu
    simp at hu; subst hu; rfl
  · intro v' w' hown' hgrow _
    rw [show vs.map sv ++ [sv v] = (vs ++ [v]).map sv from by simp] at hown'
    obtain ⟨ao', cap', rfl, h1⟩ := Lr.of (vs := vs ++ [v]) (by simp [hown.len]) hown'
    exact h ao' cap' w' h1 (by rw [blk_own] at hgrow; exact hgrow)
end

set_option maxRecDepth 100000 in
set_option maxHeartbeats 400000 in
theorem refString_any (w : World) (so : Option Addr) (m c : Nat) (s : List UInt8) (hs : Bs w so m c s) (hsz : 4 + m ≤ 140737488355328) :
    Calls Try.prog 26 #[.slice so m c] w fun e w' => ∃ ao' cap', e = .returned (.slice ao' (4 + m) cap') ∧ Ow w' w.heap.size 5 ao' (4 + m) cap' (low m 4 ++ s) ∧ w.grownBy w' none := by
  go_enter Try.func26, Try.ntmps26
  go_wp2_with fail
  refine (low_any _ m 4 (by omega) (by omega)).mono ?_
  rintro e w1 ⟨ao1, cap1, rfl, ho1, hg1⟩
  have hs1 := hs.grown hg1
  have hsz1 := hg1.size
  go_wp2_with (at_builtin; refine wpList_append_bs _ rfl _ _ 22 rfl w.heap.size 5 Try.underlying22 Try.info5 rfl ho1 rfl hs1 (by omega) (by omega) ?_)
  intro ao2 cap2 w2 ho2 hg2
  go_wp2
  go_ret
  exact ⟨_, _, rfl, ho2, grown_trans hg1 hg2 (fun k hk => Or.inr (ho1.from_base k hk).1)⟩

set_option maxRecDepth 100000 in
set_option maxHeartbeats 400000 in
theorem refList_any (w : World) (lo : Option Addr) (m c : Nat) (vs : List (Option Addr × Nat × Nat)) (ls : List (List UInt8)) (hl : Ls w lo m c vs ls) (hm : m ≤ 65536) (hsz : 4 + (encL ls).length ≤ 140737488355328) :
    Calls Try.prog 28 #[.slice lo m c] w fun e w' => ∃ ao' cap', e = .returned (.slice ao' (4 + (encL ls).length) cap') ∧ Ow w' w.heap.size 5 ao' (4 + (encL ls).length) cap' (low m 4 ++ encL ls) ∧ w.grownBy w' none := by
  go_enter Try.func28, Try.ntmps28
  go_wp2_with fail
  refine (low_any _ m 4 (by omega) (by omega)).mono ?_
  rintro e w1 ⟨ao1, cap1, rfl, ho1, hg1⟩
  have hB1 := grownBy_below hg1
  clear hg1
  go_wp2_with fail
  go_loopw [3, 4] (fun v i wr => ∃ (j : Nat) (ao' : Option Addr) (cap' q : Nat), j ≤ m ∧ i = .int .i64 j ∧ v = .slice ao' (4 + q) cap' ∧ Hid (q = (encL (ls.take j)).length) ∧ Ow wr w.heap.size 5 ao' (4 + q) cap' (low m 4 ++ encL (ls.take j)) ∧ Below w.heap.size w wr) (fun _ i _ => m - (intOf i).toNat)
  case atStart => exact ⟨0, ao1, cap1, 0, Nat.zero_le _, rfl, rfl, (show 0 = _ by simp [encL]), by simpa [encL] using ho1, hB1⟩
  case round =>
    obtain ⟨j, ao3, cap3, q, hj, rfl, rfl, hq, ho3, hB3⟩ := hrel
    by_cases hlt2 : j < m
    · obtain ⟨b, o, hbo, hbl⟩ := hl.addr (by omega)
      subst hbo
      obtain ⟨so, sm, sc, s, hs, hcell, hbs⟩ := hl.at hlt2
      have hk2 : j < ls.length := by rw [hl.len2]; exact hlt2
      have hsk : ls[j] = s := by simpa [hk2] using hs
      have hle2 := encL_le ls (j + 1)
      have hstep : Hid (q + (4 + sm) = (encL (ls.take (j + 1))).length) := by
        show _ = _
        rw [encL_take hk2, hsk, List.length_append, List.length_append, low_length, hbs.len, hq.out]
      have hstep2 : Hid (encL (ls.take (j + 1)) = encL (ls.take j) ++ (low sm 4 ++ s)) := by
        show _ = _
        rw [encL_take hk2, hsk, hbs.len]
      have hqb : q + (4 + sm) ≤ (encL ls).length := by rw [hstep.out]; exact hle2
      have hcell3 : wr.cell? ⟨b, o + j, none⟩ = some (.slice so sm sc) := by rw [hB3.cell hbl]; exact hcell
      have hbs3 := hbs.grown (below_grownBy hB3)
      have hsz3 := hB3.size
      clear hle2 hsk hs
      go_wp2_with fail
      refine (refString_any _ so sm sc s hbs3 (by omega)).mono ?_
      rintro e w4 ⟨ao4, cap4, rfl, ho4, hg4⟩
      have ho34 := ho3.grown hg4
      have hsz4 := hg4.size
      go_wp2_with (at_builtin; refine wpList_append_bs _ rfl _ _ 22 rfl w.heap.size 5 Try.underlying22 Try.info5 rfl ho34 rfl ho4.shows (by omega) (by omega) ?_)
      intro ao5 cap5 w5 ho5 hg5
      have hB5 : Below w.heap.size w w5 := (hB3.trans ((grownBy_below hg4).mono hsz3)).grown hg5 (by omega) (fun k hk => (ho34.from_base k hk).1)
      clear ho34 ho4 hg4 hg5 ho3
      go_wp2
      go_roundw
      case rel => exact ⟨j + 1, ao5, cap5, q + (4 + sm), by omega, by go_num, by rw [show 4 + (q + (4 + sm)) = 4 + q + (4 + sm) from by omega], hstep, by rw [hstep2.out, show 4 + (q + (4 + sm)) = 4 + q + (4 + sm) from by omega]; simpa [List.append_assoc] using ho5, hB5⟩
      case measure => simp [intOf]; omega
    · obtain rfl : j = m := by omega
      rw [List.take_of_length_le (by rw [hl.len2]; exact Nat.le_refl _)] at ho3 hq
      rw [hq.out] at ho3 ⊢
      go_wp2
      go_ret
      exact ⟨_, _, rfl, ho3, below_grownBy hB3⟩

end Go.Proofs.Ytocicepnlepfeaa
