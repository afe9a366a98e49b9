/-
  Appends with room: bytes behind bytes, noughts behind bytes: the block and its room stay.
-/
import Derived.Test.YtlfgikhjcimppabB1
import Derived.Deep.DeepAppendRoom
namespace Go.Proofs.Ytlfgikhjcimppab
open Go.RowKit
set_option linter.unusedVariables false

section
variable {P : Program} (w : World)

/-- 'append(s, x...)' with room, s the call's own. -/
theorem wpList_append_room {ops : Array Oper} {rest : List Oper} {o : Oper} {a : Act} {Q : Exit → Act → World → Prop} (hgd : o.guard = none) (s x : Operand) (t : TypeId)
    (ho : o.op = .call { callee := .builtin .append, args := #[s, x], argTypes := #[t, t] })
    (base : Nat) (e : TypeId) (ht : P.underlying t = some (.slice e)) (hinfo : (P.info? e).map (fun i => (i.zero, i.size, i.bytes)) = some (some (.int .u8 0), 1, 1))
    {g n cap : Nat} {l : List UInt8} (hs : a.eval s = .slice (some ⟨g, 0, none⟩) n cap) (hown : Ow w base e (some ⟨g, 0, none⟩) n cap l)
    {xo : Option Addr} {m c : Nat} {k : List UInt8} (hx : a.eval x = .slice xo m c) (hb : Bs w xo m c k) (hroom : n + m ≤ cap)
    (h : ∀ w', Ow w' base e (some ⟨g, 0, none⟩) (n + m) cap (l ++ k) → w.grownBy w' (some g) → wpList P ops Q rest (a.put o.dst (.slice (some ⟨g, 0, none⟩) (n + m) cap)) w') : wpList P ops Q (o :: rest) a w := by
  obtain ⟨i, hi, hz, hz1, hz2⟩ := info_parts hinfo
  cases xo with
  | none =>
    obtain rfl := hb.nil rfl
    obtain rfl : m = 0 := Nat.le_zero.1 hb.room
    obtain rfl : k = [] := List.eq_nil_of_length_eq_zero hb.len
    refine wpList_append_own_none hgd s x t ho base e i 1 ht hi _ n _ hs hown.row hx ?_
    have := h w (by simpa using hown) (grown_refl _ _)
    simpa using this
  | some ad =>
    refine wpList_append_own_spare w hgd s x t ho base e i 1 ht hi hz1 g n cap (l.map bv) hs hown.row ad m c (k.map bv) hx (by simp [hb.len]) (hb.cells ad rfl) (bv_one k) hroom ?_
    intro w' hown' hgrow
    rw [← List.map_append] at hown'
    exact h w' ⟨by simp [hown.len, hb.len], hown'⟩ hgrow
/-- Noughts behind bytes, with room. -/
theorem run_append_zeros (base : Nat) (t ti ty e : TypeId) (i : TypeInfo) (ht : P.underlying t = some (.slice e)) (hti : P.underlying ti = some (.int .i64)) (hi : P.info? e = some i) (hz : i.zero = some (.int .u8 0)) (hsize : i.size = 1) (hby : i.bytes = 1)
    (g n cap : Nat) (l : List UInt8) (hown : Ow w base e (some ⟨g, 0, none⟩) n cap l) (hroom : n + 4 ≤ cap) :
    ∃ w', (Builtin.append_ #[t, ti] ty #[.slice (some ⟨g, 0, none⟩) n cap, .int .i64 4]).run P w = .ok (.slice (some ⟨g, 0, none⟩) (n + 4) cap) w' ∧
      Ow w' base e (some ⟨g, 0, none⟩) (n + 4) cap (l ++ [0, 0, 0, 0]) ∧ w.grownBy w' (some g) := by
  rcases hown.row.2 with ⟨h0, _⟩ | ⟨g', cap', cur, hv, hbg, hg, hnc, hcm, hcs, htake⟩
  · cases h0
  · cases hv
    have hcs' : cur.size = cap := by omega
    have hst := run_storeCells_at P g n e [.int .u8 0, .int .u8 0, .int .u8 0, .int .u8 0] 0 cur w hg (by simp; omega) (by simp [Value.oneCell'])
    have hzc : Builtin.zeroCells (Value.int .u8 0).cells 4 = #[.int .u8 0, .int .u8 0, .int .u8 0, .int .u8 0] := by kernel_rfl
    have hw4 : IntKind.i64.wrap 4 = 4 := by decide +kernel
    simp only [Nat.add_zero] at hst
    have hzv : (zeroValue e).run P w = .ok (.int .u8 0) w := by simp [zeroValue, typeInfo, hi, hz]
    have hai : (asIntOf (Value.int .i64 4)).run P w = .ok (.i64, 4) w := rfl
    have hr : (Builtin.append_ #[t, ti] ty #[.slice (some ⟨g, 0, none⟩) n cap, .int .i64 4]).run P w = .ok (.slice (some ⟨g, 0, none⟩) (n + 4) cap) (w.setRow g (cur.toList.take n ++ [Value.int .u8 0, Value.int .u8 0, Value.int .u8 0, Value.int .u8 0] ++ cur.toList.drop (n + 4)).toArray) := by
      simp [Builtin.append_, run_underlying ht, run_underlying hti, sizeOf, typeInfo, hi, hsize, hby, hroom, Addr.add_lit, asInt, hai, hw4, hzv, hzc, hst]
    refine ⟨_, hr, ⟨by simp [hown.len], ?_⟩, ⟨rfl, rfl, rfl, by simp, fun k _ hk => setRow_other w g k _ (fun e => hk (by simp [e]))⟩⟩
    refine ⟨by simp [hown.len], .inr ⟨g, cap, _, rfl, hbg, setRow_heap w g cur _ e _ hg, by omega, hcm, ?_, ?_⟩⟩
    · simp only [List.size_toArray, List.length_append, List.length_take, List.length_drop, Array.length_toList]
      simp
      omega
    · have htk : cur.toList.take n = l.map bv := by simpa using htake
      rw [htk]
      have : (n + 4) * 1 = (l.map bv ++ [Value.int .u8 0, .int .u8 0, .int .u8 0, .int .u8 0]).length := by simp [hown.len]
      rw [this]
      exact (List.take_left ..).trans (by simp [bv])
theorem wpList_append_zeros {ops : Array Oper} {rest : List Oper} {o : Oper} {a : Act} {Q : Exit → Act → World → Prop} (hgd : o.guard = none) (s : Operand) (t ti : TypeId)
    (ho : o.op = .call { callee := .builtin .append, args := #[s, .const (.int .i64 4)], argTypes := #[t, ti] })
    (base : Nat) (e : TypeId) (ht : P.underlying t = some (.slice e)) (hti : P.underlying ti = some (.int .i64)) (hinfo : (P.info? e).map (fun i => (i.zero, i.size, i.bytes)) = some (some (.int .u8 0), 1, 1))
    {g n cap : Nat} {l : List UInt8} (hs : a.eval s = .slice (some ⟨g, 0, none⟩) n cap) (hown : Ow w base e (some ⟨g, 0, none⟩) n cap l) (hroom : n + 4 ≤ cap)
    (h : ∀ w', Ow w' base e (some ⟨g, 0, none⟩) (n + 4) cap (l ++ [0, 0, 0, 0]) → w.grownBy w' (some g) → wpList P ops Q rest (a.put o.dst (.slice (some ⟨g, 0, none⟩) (n + 4) cap)) w') : wpList P ops Q (o :: rest) a w := by
  obtain ⟨i, hi, hz, hz1, hz2⟩ := info_parts hinfo
  refine wpList_plain hgd fun _ hK => ?_
  obtain ⟨w', hr, h2, h3⟩ := run_append_zeros (P := P) w base t ti o.type e i ht hti hi hz hz1 hz2 g n cap l hown hroom
  have hev : a.eval (.const (.int .i64 4)) = .int .i64 4 := rfl
  unfold Oper.wp execOp
  simp only [ho, resolve, invoke, builtin, Sem.run_bind, Sem.run_pure, Result.andThen_ok, List.map_toArray, List.map_cons, List.map_nil, hs, hev, hr]
  exact hK _ _ (h w' h2 h3)
end
end Go.Proofs.Ytlfgikhjcimppab
