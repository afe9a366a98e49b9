/-
  crc: the sum of bytes.
-/
import Derived.Test.YtlfgikhjcimppabRows
import Derived.Test.YtlfgikhjcimppabTab
import Derived.Test.YtlfgikhjcimppabMath
namespace Go.Proofs.Ytlfgikhjcimppab
open Go.RowKit
set_option linter.unusedVariables false

theorem stp_even {x : Nat} (h : x % 2 = 0) : (x : Int) / 2 = (stp x : Int) := by
  unfold stp
  rw [if_neg (by omega), Nat.xor_zero]
  omega
theorem stp_odd {x : Nat} (h : x % 2 = 1) (hx : x < 4294967296) : bits .xor .u32 ((x : Int) / 2) 2197175160 = (stp x : Int) := by
  have h1 := u32_xor_nat (x / 2) 2197175160 (by omega) (by omega)
  unfold stp
  rw [if_pos h, ← h1]
  rfl
set_option maxHeartbeats 400000 in
theorem step_any (w : World) (x : Nat) (hx : x < 4294967296) :
    Calls Try.prog 50 #[.int .u32 x] w fun e w' => e = .returned (.int .u32 (stp x)) ∧ w' = w := by
  have h1 : bits .and .u32 (x : Int) 1 = ((x &&& 1 : Nat) : Int) := u32_and_nat x 1 hx (by omega)
  rw [Nat.and_one_is_mod] at h1
  rcases Nat.mod_two_eq_zero_or_one x with h | h
  · rw [h] at h1
    have H := stp_even h
    clear h
    go_enter Try.func50, Try.ntmps50
    go_wp2
    go_ret
    exact ⟨rfl, rfl⟩
  · rw [h] at h1
    have H := stp_odd h hx
    clear h
    go_enter Try.func50, Try.ntmps50
    go_wp2
    go_ret
    exact ⟨rfl, rfl⟩
theorem four_and {x : Nat} (hx : x < 4294967296) : bits .and .u32 (x : Int) 15 = ((x % 16 : Nat) : Int) := by
  have h := u32_and_nat x 15 hx (by omega)
  rw [show x &&& 15 = x % 16 from Nat.and_two_pow_sub_one_eq_mod x 4] at h
  exact h
theorem four_xor {x : Nat} (hx : x < 4294967296) : bits .xor .u32 ((x : Int) / 16) (stps 4 (x % 16) : Nat) = ((stps 4 x : Nat) : Int) := by
  have h1 := u32_xor_nat (x / 16) (stps 4 (x % 16)) (by omega) (stps_lt 4 (by omega))
  rw [four_look] at h1
  exact h1
set_option maxHeartbeats 400000 in
theorem fourSteps_any (w : World) (g x : Nat) (hx : x < 4294967296) (ht : Tb w g 82 16 16 (stps 4)) :
    Calls Try.prog 51 #[.pointer (some ⟨g, 0, none⟩), .int .u32 x] w fun e w' => e = .returned (.int .u32 (stps 4 x)) ∧ w' = w := by
  have hm : x % 16 < 16 := Nat.mod_lt _ (by omega)
  have hc := ht.cell (x % 16) hm
  have ha := four_and hx
  have hxr := four_xor hx
  clear ht
  generalize hq : x % 16 = q at *
  clear hq
  go_enter Try.func51, Try.ntmps51
  go_wp2
  go_ret
  exact ⟨rfl, rfl⟩
theorem info82 : (Try.prog.info? 82).map (·.size) = some 16 := by kernel_rfl
set_option maxRecDepth 100000 in
set_option maxHeartbeats 1000000 in
theorem fours_any (w : World) :
    Calls Try.prog 38 #[] w fun e w' => e = .returned (.agg (tab (stps 4) 16)) ∧ w.grownBy w' none := by
  go_enter Try.func38, Try.ntmps38
  go_wp2_with fail
  go_loopw [2, 3, 4, 9] (fun _ _ i _ wr => ∃ (k : Nat), k ≤ 16 ∧ i = .int .i64 k ∧ Tb wr (w.heap.size + 1) 82 16 k (stps 4) ∧ Tb wr w.heap.size 82 16 0 (stps 4) ∧ w.grownBy wr none)
    (fun _ _ i _ _ => 16 - (intOf i).toNat)
  case atStart =>
    have h1 := Tb.new w #[.int .u32 0, .int .u32 0, .int .u32 0, .int .u32 0, .int .u32 0, .int .u32 0, .int .u32 0, .int .u32 0, .int .u32 0, .int .u32 0, .int .u32 0, .int .u32 0, .int .u32 0, .int .u32 0, .int .u32 0, .int .u32 0] 82 16 (stps 4) rfl
    refine ⟨0, Nat.zero_le _, rfl, ?_, ?_, ?_⟩
    · have h2 := Tb.new (w.alloc (.cells #[.int .u32 0, .int .u32 0, .int .u32 0, .int .u32 0, .int .u32 0, .int .u32 0, .int .u32 0, .int .u32 0, .int .u32 0, .int .u32 0, .int .u32 0, .int .u32 0, .int .u32 0, .int .u32 0, .int .u32 0, .int .u32 0] 82)) #[.int .u32 0, .int .u32 0, .int .u32 0, .int .u32 0, .int .u32 0, .int .u32 0, .int .u32 0, .int .u32 0, .int .u32 0, .int .u32 0, .int .u32 0, .int .u32 0, .int .u32 0, .int .u32 0, .int .u32 0, .int .u32 0] 82 16 (stps 4) rfl
      simpa using h2
    · exact h1.grown (alloc_grown _ _)
    · exact grown_trans (alloc_grown _ _) (alloc_grown _ _) (by simp)
  case round =>
    obtain ⟨k, hk, rfl, ht, h0, hg⟩ := hrel
    by_cases hlt : k < 16
    · have hkw : IntKind.u32.wrap (k : Int) = (k : Int) := by rw [IntKind.wrap_u32']; omega
      have hd : decide ((k : Int) < 16) = true := by simp; omega
      go_wp2_with fail
      go_loopw [3, 9] (fun x j wi => wi = wr ∧ ∃ (m : Nat), m ≤ 4 ∧ j = .int .i64 m ∧ x = .int .u32 (stps m k)) (fun _ j _ => 4 - (intOf j).toNat)
      case atStart => exact ⟨rfl, 0, Nat.zero_le _, rfl, by simp [stps]⟩
      case round =>
        rename_i wi
        obtain ⟨rfl, m, hm, rfl, rfl⟩ := hrel
        by_cases hlm : m < 4
        · go_wp2_with (go_at_call 50; refine (step_any _ _ (stps_lt _ (by omega))).mono ?_; rintro e w' ⟨rfl, rfl⟩)
          go_roundw
          case rel => exact ⟨trivial, m + 1, hlm, by go_num, by rw [stps_succ]⟩
          case measure => simp [intOf]; omega
        · obtain rfl : m = 4 := by omega
          obtain ⟨v, hv⟩ := ht.any k hlt
          have hfz := ht.there
          have hset := ht.set hlt (x := (stps 4 k : Nat)) rfl
          go_wp2
          go_roundw
          case rel => exact ⟨k + 1, by omega, by go_num, hset, h0.kept (setCell_grown _ _ _ _) (by simp), below_of_new hg (setCell_grown _ _ _ _) (by omega)⟩
          case measure => simp [intOf]; omega
    · obtain rfl : k = 16 := by omega
      go_wp2_with (first
        | refine wpList_load_tab rfl 82 (.tmp 1) rfl (w.heap.size + 1) (stps 4) 16 rfl 82 ht _ Try.underlying82 rfl info82 ?_
        | (refine wpList_store_tab rfl 82 (.tmp 0) (.tmp 18) rfl w.heap.size (stps 4) 16 rfl rfl 82 h0 info82 ?_; intro w2 hT2 hG2))
      exact bodyPost_ret (v := .agg (tab (stps 4) 16)) (results_tab rfl _ w.heap.size 82 (stps 4) 16 _ rfl hT2 Try.underlying82 rfl info82) rfl ⟨rfl, below_of_new hg hG2 (Nat.le_refl _)⟩
theorem in_xor {x : Nat} (hx : x < 4294967296) (c : UInt8) : bits .xor .u32 (x : Int) (c.toNat : Int) = ((x ^^^ c.toNat : Nat) : Int) :=
  u32_xor_nat x c.toNat hx (by have := c.toNat_lt; omega)
theorem in_lt {x : Nat} (hx : x < 4294967296) (c : UInt8) : x ^^^ c.toNat < 4294967296 := xor_lt hx (by have := c.toNat_lt; omega)
set_option maxRecDepth 100000 in
set_option maxHeartbeats 1000000 in
theorem goInto_any (w : World) (g x : Nat) (hx : x < 4294967296) (ht : Tb w g 82 16 16 (stps 4)) (ao : Option Addr) (n cap : Nat) (l : List UInt8) (hb : Bs w ao n cap l) :
    Calls Try.prog 39 #[.pointer (some ⟨g, 0, none⟩), .int .u32 x, .slice ao n cap] w fun e w' => e = .returned (.int .u32 (gin x l)) ∧ w' = w := by
  have hlen := hb.len
  have hroom := hb.room
  have htop := hb.top
  unfold maxLen at htop
  go_enter Try.func39, Try.ntmps39
  go_wp2_with fail
  go_loop [1, 8, 11] (fun y _ i => ∃ (k z : Nat), k ≤ n ∧ i = .int .i64 k ∧ y = .int .u32 z ∧ z < 4294967296 ∧ Hid (z = gin x (l.take k)))
    (fun _ _ i => n - (intOf i).toNat)
  case atStart => exact ⟨0, x, Nat.zero_le _, rfl, rfl, hx, (show _ = _ by simp [gin])⟩
  case round =>
    obtain ⟨k, z, hk, rfl, rfl, hz, hZ⟩ := hrel
    by_cases hlt : k < n
    · obtain ⟨b, o, rfl, hbl⟩ := hb.addr (by omega)
      have hkl : k < l.length := by omega
      have hcell := hb.at hkl
      have hxr := in_xor hz l[k]
      have hzl := in_lt hz l[k]
      have hstep : Hid (stps 4 (stps 4 (z ^^^ l[k].toNat)) = gin x (l.take (k + 1))) := by
        show _ = _
        rw [List.take_succ_eq_append_getElem hkl, gin_snoc, ← hZ.out, ← stps_add]
      generalize l[k] = c at *
      have hcw : IntKind.u32.wrap (c.toNat : Int) = (c.toNat : Int) := by have := c.toNat_lt; rw [IntKind.wrap_u32']; omega
      go_wp2_with (go_at_call 51; refine (fourSteps_any _ _ _ (by first | exact hzl | exact stps_lt 4 hzl) ht).mono ?_; rintro e w' ⟨rfl, rfl⟩)
      go_round
      case rel => exact ⟨k + 1, _, by omega, by go_num, rfl, stps_lt 4 (stps_lt 4 hzl), hstep⟩
      case measure => simp [intOf]; omega
    · obtain rfl : k = n := by omega
      go_wp2
      go_ret
      exact ⟨ret_int (by rw [hZ.out, List.take_of_length_le (by omega)]), rfl⟩
/-- A slice of slices of bytes, and what each shows. -/
structure Pc (w : World) (po : Option Addr) (m c : Nat) (L : List (List UInt8)) : Prop where
  len : L.length = m
  room : m ≤ c
  top : c ≤ maxLen
  nil : po = none → c = 0
  cells : ∀ a, po = some a → ∀ j l, L[j]? = some l → ∃ ao n cap, w.cell? (a.add j) = some (.slice ao n cap) ∧ Bs w ao n cap l
theorem Pc.grown {w w' : World} {po : Option Addr} {m c : Nat} {L : List (List UInt8)} (h : Pc w po m c L) (hg : w.grownBy w' none) : Pc w' po m c L :=
  ⟨h.len, h.room, h.top, h.nil, fun a ha j l hl => by
    obtain ⟨ao, n, cap, h1, h2⟩ := h.cells a ha j l hl
    exact ⟨ao, n, cap, hg.cell h1 (by simp), h2.grown hg⟩⟩
theorem Pc.addr {w : World} {po : Option Addr} {m c : Nat} {L : List (List UInt8)} (h : Pc w po m c L) (hn : 0 < m) : ∃ b o, po = some ⟨b, o, none⟩ ∧ b < w.heap.size := by
  cases po with
  | none => have := h.nil rfl; have := h.room; omega
  | some a =>
    have hl : 0 < L.length := by rw [h.len]; exact hn
    obtain ⟨ao, n, cap, h0, _⟩ := h.cells a rfl 0 L[0] (by simp [hl])
    have h1 : a.add 0 = a := by simp [Addr.add]
    rw [h1] at h0
    have h2 := World.block_lt_of_cell? w a h0
    obtain ⟨b, o, sp⟩ := a
    cases sp with
    | none => exact ⟨b, o, rfl, h2⟩
    | some q => simp only [World.cell?, Option.isSome_some, if_true] at h0; split at h0 <;> cases h0
theorem Pc.at {w : World} {b o m c : Nat} {L : List (List UInt8)} (h : Pc w (some ⟨b, o, none⟩) m c L) {j : Nat} (hj : j < L.length) : ∃ ao n cap, w.cell? ⟨b, o + j, none⟩ = some (.slice ao n cap) ∧ Bs w ao n cap L[j] := by
  have := h.cells _ rfl j L[j] (by simp [hj])
  rw [Addr.add_lit] at this
  exact this
theorem turn_bits {s : Nat} (hs : s < 4294967296) : bits .xor .u32 IntKind.u32.max (s : Int) = ((4294967295 - s : Nat) : Int) := by
  have h := u32_xor_nat 4294967295 s (by omega) hs
  rw [turn_eq hs, ← h]
  rfl
theorem flat_snoc {L : List (List UInt8)} {k : Nat} (hk : k < L.length) : (L.take (k + 1)).flatten = (L.take k).flatten ++ L[k] := by
  rw [List.take_succ_eq_append_getElem hk, List.flatten_append]
  simp
set_option maxRecDepth 100000 in
set_option maxHeartbeats 1000000 in
theorem goOn_any (w : World) (s : Nat) (hs : s < 4294967296) (po : Option Addr) (m c : Nat) (L : List (List UInt8)) (hb : Pc w po m c L) :
    Calls Try.prog 30 #[.int .u32 s, .slice po m c] w fun e w' => e = .returned (.int .u32 (mor s L.flatten)) ∧ w.grownBy w' none := by
  have hlen := hb.len
  have hroom := hb.room
  have htop := hb.top
  unfold maxLen at htop
  have hT := turn_bits hs
  go_enter Try.func30, Try.ntmps30
  go_wp2_with (first
    | (go_at_call 38; refine (fours_any _).mono ?_; rintro e w1 ⟨rfl, hg1⟩)
    | (refine wpList_store_tab rfl 82 (.tmp 5) (.tmp 9) rfl w1.heap.size (stps 4) 16 rfl rfl 82 (Tb.new w1 _ 82 16 (stps 4) rfl) info82 ?_; intro w2 hT2 hG2))
  have hGa : w.grownBy w2 none := below_of_new (grown_trans hg1 (alloc_grown w1 _) (by simp)) hG2 hg1.size
  have hb2 := hb.grown hGa
  clear hG2 hg1 hb
  go_loop [6, 8, 14] (fun y _ i => ∃ (k z : Nat), k ≤ m ∧ i = .int .i64 k ∧ y = .int .u32 z ∧ z < 4294967296 ∧ Hid (z = gin (4294967295 - s) (L.take k).flatten))
    (fun _ _ i => m - (intOf i).toNat)
  case atStart => exact ⟨0, _, Nat.zero_le _, rfl, rfl, by omega, (show _ = _ by simp [gin])⟩
  case round =>
    obtain ⟨k, z, hk, rfl, rfl, hz, hZ⟩ := hrel
    by_cases hlt : k < m
    · obtain ⟨b, o, rfl, hbl⟩ := hb2.addr (by omega)
      have hkl : k < L.length := by omega
      obtain ⟨ao, n, cap, hcell, hbs⟩ := hb2.at hkl
      have hstep : Hid (gin z L[k] = gin (4294967295 - s) (L.take (k + 1)).flatten) := by
        show _ = _
        rw [flat_snoc hkl, gin_append, ← hZ.out]
      generalize L[k] = l at *
      go_wp2_with (go_at_call 39; refine (goInto_any _ _ _ hz hT2 _ _ _ l hbs).mono ?_; rintro e w' ⟨rfl, rfl⟩)
      go_round
      case rel => exact ⟨k + 1, _, by omega, by go_num, rfl, gin_lt l hz, hstep⟩
      case measure => simp [intOf]; omega
    · obtain rfl : k = m := by omega
      have hT3 := turn_bits hz
      go_wp2
      go_ret
      exact ⟨ret_int (by rw [hZ.out, List.take_of_length_le (by omega)]; rfl), hGa⟩
set_option maxHeartbeats 400000 in
theorem sum_any (w : World) (po : Option Addr) (m c : Nat) (L : List (List UInt8)) (hb : Pc w po m c L) :
    Calls Try.prog 19 #[.slice po m c] w fun e w' => e = .returned (.int .u32 (sm L.flatten)) ∧ w.grownBy w' none := by
  go_enter Try.func19, Try.ntmps19
  go_wp2_with (go_at_call 30; refine (goOn_any _ 0 (by omega) _ _ _ L hb).mono ?_; rintro e w1 ⟨rfl, hg1⟩)
  go_ret
  exact ⟨rfl, hg1⟩
theorem Pc.one (w : World) (ao : Option Addr) (n cap : Nat) (l : List UInt8) (hb : Bs w ao n cap l) (e : TypeId) : Pc (w.alloc (.cells #[.slice ao n cap] e)) (some ⟨w.heap.size, 0, none⟩) 1 1 [l] := by
  refine ⟨rfl, Nat.le_refl _, by decide, (by simp), fun a ha j u hu => ?_⟩
  obtain rfl := Option.some.inj ha
  match j, hu with
  | 0, hu =>
    simp at hu
    subst hu
    exact ⟨ao, n, cap, by simp [Addr.add], hb.grown (alloc_grown _ _)⟩
end Go.Proofs.Ytlfgikhjcimppab
