import Derived.Test.YtlghcboenkglnaaGreatDoorZaa
import Derived.Test.YtlghcboenkglnaaGreatDoorX1
import Derived.Laws.BitsAllLaws
import Derived.Laws.Tables
import Derived.Laws.Rows
import Derived.WalkKit
import Derived.Test.YtlghcboenkglnaaGreatDoorRows
/-
  Arrays of numbers in memory. Nothing here speaks of the program.
-/
namespace Go.Proofs.YtlghcboenkglnaaGreatDoor.Rec
open Go.Proofs.YtlghcboenkglnaaGreatDoor
open Go.RowKit
set_option linter.unusedVariables false

theorem ret_int {k : IntKind} {a b : Int} (h : a = b) : Ending.returned (.int k a) = .returned (.int k b) := by rw [h]
/-- An array of n numbers. -/
def tab (F : Nat → Nat) (n : Nat) : Array Value := ((List.range n).map fun i => Value.int .u32 (F i)).toArray
theorem tab_size (F : Nat → Nat) (n : Nat) : (tab F n).size = n := by simp [tab]
theorem tab_at (F : Nat → Nat) (n j : Nat) (h : j < n) : (tab F n)[j]? = some (.int .u32 (F j)) := by simp [tab, h]
theorem tab_one (F : Nat → Nat) (n : Nat) : (tab F n).all (·.oneCell') = true := by
  rw [Array.all_eq_true_iff_forall_mem]
  intro x hx
  simp only [tab, List.mem_toArray, List.mem_map] at hx
  obtain ⟨i, _, rfl⟩ := hx
  rfl
/-- A block that is an array of n numbers, of which the first k are F's. -/
def Tb (w : World) (g : Nat) (t : TypeId) (n k : Nat) (F : Nat → Nat) : Prop :=
  ∃ c, w.heap[g]? = some (.cells c t (0, 0)) ∧ c.size = n ∧ ∀ j, j < k → c[j]? = some (.int .u32 (F j))
theorem Tb.new (w : World) (c : Array Value) (t : TypeId) (n : Nat) (F : Nat → Nat) (h : c.size = n) : Tb (w.alloc (.cells c t)) w.heap.size t n 0 F :=
  ⟨c, heap_alloc_new w _, h, fun j hj => by omega⟩
theorem Tb.lt {w : World} {g : Nat} {t : TypeId} {n k : Nat} {F : Nat → Nat} (h : Tb w g t n k F) : g < w.heap.size := by
  obtain ⟨c, hc, _⟩ := h
  exact (Array.getElem?_eq_some_iff.1 hc).1
theorem Tb.cell {w : World} {g : Nat} {t : TypeId} {n k : Nat} {F : Nat → Nat} (h : Tb w g t n k F) (j : Nat) (hj : j < k) : w.cell? ⟨g, j, none⟩ = some (.int .u32 (F j)) := by
  obtain ⟨c, hc, _, hf⟩ := h
  rw [cell_of_row w g j c t (0, 0) hc]
  exact hf j hj
theorem Tb.any {w : World} {g : Nat} {t : TypeId} {n k : Nat} {F : Nat → Nat} (h : Tb w g t n k F) (j : Nat) (hj : j < n) : ∃ v, w.cell? ⟨g, j, none⟩ = some v := by
  obtain ⟨c, hc, hn, hf⟩ := h
  rw [cell_of_row w g j c t (0, 0) hc]
  exact ⟨c[j], by simp [hn, hj]⟩
theorem Tb.there {w : World} {g : Nat} {t : TypeId} {n k : Nat} {F : Nat → Nat} (h : Tb w g t n k F) (j : Nat) : w.frozen? ⟨g, j, none⟩ = false := by
  obtain ⟨c, hc, _⟩ := h
  simp [World.frozen?, hc]
theorem Tb.kept {w w' : World} {g : Nat} {t : TypeId} {n k : Nat} {F : Nat → Nat} {row : Option Nat} (h : Tb w g t n k F) (hg : w.grownBy w' row) (hne : some g ≠ row) : Tb w' g t n k F := by
  have hl := h.lt
  obtain ⟨c, hc, r⟩ := h
  exact ⟨c, by rw [hg.block g hl hne]; exact hc, r⟩
theorem Tb.grown {w w' : World} {g : Nat} {t : TypeId} {n k : Nat} {F : Nat → Nat} (h : Tb w g t n k F) (hg : w.grownBy w' none) : Tb w' g t n k F := h.kept hg (by simp)
theorem Tb.set {w : World} {g : Nat} {t : TypeId} {n k : Nat} {F : Nat → Nat} (h : Tb w g t n k F) (hk : k < n) {x : Int} (hx : x = (F k : Int)) : Tb (w.setCell ⟨g, k, none⟩ (.int .u32 x)) g t n (k + 1) F := by
  obtain ⟨c, hc, hn, hf⟩ := h
  refine ⟨c.setIfInBounds k (.int .u32 x), ?_, by simp [hn], fun j hj => ?_⟩
  · rw [setCell_eq_setRow w g k c t (0, 0) _ hc]
    exact setRow_heap w g _ _ t _ hc
  · by_cases e : j = k
    · subst e
      simp [hn, hk, hx]
    · rw [Array.getElem?_setIfInBounds_ne (fun h => e h.symm)]
      exact hf j (by omega)
theorem Tb.whole {w : World} {g : Nat} {t : TypeId} {n : Nat} {F : Nat → Nat} (h : Tb w g t n n F) : w.heap[g]? = some (.cells (tab F n) t (0, 0)) := by
  obtain ⟨c, hc, hn, hf⟩ := h
  rw [hc]
  congr 2
  apply Array.ext_getElem?
  intro j
  by_cases hj : j < n
  · rw [hf j hj, tab_at F n j hj]
  · rw [Array.getElem?_eq_none (by omega), Array.getElem?_eq_none (by rw [tab_size]; omega)]
theorem Tb.put {w : World} {g : Nat} {t : TypeId} {n k : Nat} {F G : Nat → Nat} (h : Tb w g t n k F) : Tb (w.setRow g (tab G n)) g t n n G := by
  obtain ⟨c, hc, hn, hf⟩ := h
  exact ⟨tab G n, setRow_heap w g _ _ t _ hc, tab_size G n, fun j hj => tab_at G n j hj⟩
theorem setRow_grown (w : World) (g : Nat) (c : Array Value) : w.grownBy (w.setRow g c) (some g) :=
  ⟨rfl, rfl, rfl, by simp [World.setRow], fun j _ hne => setRow_other w g j _ (fun e' => hne (by rw [e']))⟩
theorem below_of_new {w w' w'' : World} {g : Nat} (h : w.grownBy w' none) (h2 : w'.grownBy w'' (some g)) (hg : w.heap.size ≤ g) : w.grownBy w'' none :=
  grown_trans h h2 (fun k hk => by cases hk; exact Or.inr hg)
theorem alloc_grown (w : World) (o : Obj) : w.grownBy (w.alloc o) none := World.grownBy_alloc w o none
section
variable {P : Program} {w : World}
/-- A whole array is stored. -/
theorem wpList_store_tab {ops : Array Oper} {rest : List Oper} {o : Oper} {a : Act} {Q : Exit → Act → World → Prop} (hgd : o.guard = none) (ty : TypeId) (x y : Operand) (ho : o.op = .store ty x y)
    (g : Nat) (F : Nat → Nat) (n : Nat) (hx : a.eval x = .pointer (some ⟨g, 0, none⟩)) (hy : a.eval y = .agg (tab F n)) (t : TypeId) {k : Nat} {G : Nat → Nat} (hT : Tb w g t n k G) (hi : (P.info? ty).map (·.size) = some n)
    (h : ∀ w', Tb w' g t n n F → w.grownBy w' (some g) → wpList P ops Q rest (a.put o.dst undef) w') : wpList P ops Q (o :: rest) a w := by
  have h2 := h _ (hT.put (G := F)) (setRow_grown _ _ _)
  obtain ⟨c, hc, hn, _⟩ := hT
  exact wpList_store_row hgd ty x y ho g (tab F n) hx hy t c hc (by rw [tab_size]; exact hi) (by rw [tab_size]; exact hn) (tab_one _ _) h2
/-- A whole array is loaded. -/
theorem wpList_load_tab {ops : Array Oper} {rest : List Oper} {o : Oper} {a : Act} {Q : Exit → Act → World → Prop} (hgd : o.guard = none) (ty : TypeId) (x : Operand) (ho : o.op = .load ty x)
    (g : Nat) (F : Nat → Nat) (n : Nat) (hx : a.eval x = .pointer (some ⟨g, 0, none⟩)) (t : TypeId) (hT : Tb w g t n n F) (d : TypeDesc)
    (hu : P.underlying ty = some d) (hd : (match d with | .struct _ | .array _ _ => true | _ => false) = true) (hi : (P.info? ty).map (·.size) = some n)
    (h : wpList P ops Q rest (a.put o.dst (.agg (tab F n))) w) : wpList P ops Q (o :: rest) a w :=
  wpList_load_row hgd ty x ho g hx t (tab F n) (0, 0) d hT.whole hu hd (by rw [tab_size]; exact hi) h
theorem results_tab {fn : Func} {p : Tmp} {ty : TypeId} (h : fn.results = #[.cell p ty]) (tmps : Array Value) (g : Nat) (t : TypeId) (F : Nat → Nat) (n : Nat) (d : TypeDesc)
    (hp : tmps.getD p undef = .pointer (some ⟨g, 0, none⟩)) (hT : Tb w g t n n F)
    (hu : P.underlying ty = some d) (hd : (match d with | .struct _ | .array _ _ => true | _ => false) = true) (hi : (P.info? ty).map (·.size) = some n) :
    (results fn tmps).run P w = .ok (.agg (tab F n)) w :=
  results_cell_row h tmps w g t (tab F n) (0, 0) d hp hT.whole hu hd (by rw [tab_size]; exact hi)
end
end Go.Proofs.YtlghcboenkglnaaGreatDoor.Rec

/-
  The numbers of a CRC: steps, how they go over a xor, and sums. Nothing here speaks of the program.
-/
namespace Go.Proofs.YtlghcboenkglnaaGreatDoor.Rec
open Go.Proofs.YtlghcboenkglnaaGreatDoor
set_option linter.unusedVariables false

/-- A step. -/
def stp (x : Nat) : Nat := x / 2 ^^^ (if x % 2 = 1 then 2197175160 else 0)
theorem xor_lt {x y : Nat} (hx : x < 4294967296) (hy : y < 4294967296) : x ^^^ y < 4294967296 := Nat.xor_lt_two_pow (n := 32) hx hy
theorem stp_lt {x : Nat} (hx : x < 4294967296) : stp x < 4294967296 := by
  unfold stp
  refine xor_lt (by omega) ?_
  split <;> omega
theorem xor_half (x y : Nat) : (x ^^^ y) / 2 = x / 2 ^^^ y / 2 := by
  apply Nat.eq_of_testBit_eq
  intro i
  simp [Nat.testBit_div_two]
theorem xor_odd (x y : Nat) : (x ^^^ y) % 2 = (x % 2 + y % 2) % 2 := by
  have h := Nat.testBit_xor x y 0
  simp only [Nat.testBit_zero] at h
  have a := Nat.mod_two_eq_zero_or_one x
  have b := Nat.mod_two_eq_zero_or_one y
  have c := Nat.mod_two_eq_zero_or_one (x ^^^ y)
  rcases a with a | a <;> rcases b with b | b <;> rcases c with c | c <;> simp [a, b, c] at h ⊢
theorem stp_xor (x y : Nat) : stp (x ^^^ y) = stp x ^^^ stp y := by
  unfold stp
  rw [xor_half, xor_odd]
  rcases Nat.mod_two_eq_zero_or_one x with a | a <;> rcases Nat.mod_two_eq_zero_or_one y with b | b <;> simp only [a, b] <;> simp
  · rw [Nat.xor_assoc]
  · rw [Nat.xor_assoc, Nat.xor_comm (y / 2), Nat.xor_assoc]
  · rw [Nat.xor_assoc (x / 2), ← Nat.xor_assoc 2197175160, Nat.xor_comm 2197175160 (y / 2), Nat.xor_assoc (y / 2), Nat.xor_self, Nat.xor_zero]
/-- Some steps. -/
def stps : Nat → Nat → Nat
  | 0, x => x
  | n + 1, x => stps n (stp x)
theorem stps_lt (n : Nat) : ∀ {x : Nat}, x < 4294967296 → stps n x < 4294967296 := by
  induction n with
  | zero => intro x h; exact h
  | succ n ih => intro x h; exact ih (stp_lt h)
theorem stps_xor (n : Nat) : ∀ x y, stps n (x ^^^ y) = stps n x ^^^ stps n y := by
  induction n with
  | zero => intro x y; rfl
  | succ n ih => intro x y; show stps n (stp _) = _; rw [stp_xor, ih]; rfl
theorem stps_add (m n : Nat) : ∀ x, stps (m + n) x = stps n (stps m x) := by
  induction m with
  | zero => intro x; simp [stps]
  | succ m ih => intro x; rw [Nat.succ_add]; exact ih _
theorem stps_succ (n x : Nat) : stps (n + 1) x = stp (stps n x) := stps_add n 1 x
theorem stp_double (y : Nat) : stp (2 * y) = y := by
  unfold stp
  rw [if_neg (by omega), Nat.xor_zero]
  omega
theorem stps_up (n : Nat) : ∀ y, stps n (2 ^ n * y) = y := by
  induction n with
  | zero => intro y; simp [stps]
  | succ n ih =>
    intro y
    show stps n (stp _) = _
    rw [Nat.pow_succ, Nat.mul_comm (2 ^ n) 2, Nat.mul_assoc, stp_double, ih]
/-- A number is its low part, xor its high part. -/
theorem xor_parts (x k : Nat) : 2 ^ k * (x / 2 ^ k) ^^^ x % 2 ^ k = x := by
  have h := Nat.div_add_mod x (2 ^ k)
  have h2 := Nat.two_pow_add_eq_or_of_lt (Nat.mod_lt x (Nat.two_pow_pos k)) (x / 2 ^ k)
  rw [h] at h2
  apply Nat.eq_of_testBit_eq
  intro i
  rw [Nat.testBit_xor, Nat.testBit_two_pow_mul, Nat.testBit_mod_two_pow, Nat.testBit_div_two_pow]
  by_cases hi : i < k
  · simp [hi, Nat.not_le.2 hi]
  · have : k ≤ i := by omega
    simp [hi, this]
/-- Some steps, looked up by the low bits. -/
theorem stps_look (k x : Nat) : x / 2 ^ k ^^^ stps k (x % 2 ^ k) = stps k x := by
  have h : stps k (2 ^ k * (x / 2 ^ k) ^^^ x % 2 ^ k) = x / 2 ^ k ^^^ stps k (x % 2 ^ k) := by rw [stps_xor, stps_up]
  rw [xor_parts] at h
  exact h.symm
theorem four_look (x : Nat) : x / 16 ^^^ stps 4 (x % 16) = stps 4 x := stps_look 4 x
/-- Bytes that go into a number. -/
def gin (x : Nat) : List UInt8 → Nat
  | [] => x
  | c :: r => gin (stps 8 (x ^^^ c.toNat)) r
theorem gin_append (l k : List UInt8) : ∀ x, gin x (l ++ k) = gin (gin x l) k := by
  induction l with
  | nil => intro x; rfl
  | cons c r ih => intro x; exact ih _
theorem gin_snoc (x : Nat) (l : List UInt8) (c : UInt8) : gin x (l ++ [c]) = stps 8 (gin x l ^^^ c.toNat) := gin_append l [c] x
theorem gin_lt (l : List UInt8) : ∀ {x : Nat}, x < 4294967296 → gin x l < 4294967296 := by
  induction l with
  | nil => intro x h; exact h
  | cons c r ih => intro x h; exact ih (stps_lt 8 (xor_lt h (by have := c.toNat_lt; omega)))
/-- All bits turned. -/
theorem turn_eq {x : Nat} (h : x < 4294967296) : 4294967295 - x = 4294967295 ^^^ x := by
  apply Nat.eq_of_testBit_eq
  intro i
  have h2 := Nat.testBit_two_pow_sub_succ (n := 32) h i
  rw [Nat.testBit_xor, show (4294967295 : Nat) = 2 ^ 32 - 1 from rfl, Nat.testBit_two_pow_sub_one]
  rw [show (2 : Nat) ^ 32 - 1 - x = 2 ^ 32 - (x + 1) from by omega, h2]
  by_cases hi : i < 32
  · simp [hi]
  · have : x.testBit i = false := Nat.testBit_lt_two_pow (Nat.lt_of_lt_of_le h (Nat.pow_le_pow_right (n := 2) (i := 32) (by omega) (by omega)))
    simp [hi, this]
/-- The sum that goes on. -/
def mor (s : Nat) (l : List UInt8) : Nat := 4294967295 - gin (4294967295 - s) l
def sm (l : List UInt8) : Nat := mor 0 l
theorem mor_lt (s : Nat) (l : List UInt8) : mor s l < 4294967296 := by unfold mor; omega
theorem sm_lt (l : List UInt8) : sm l < 4294967296 := mor_lt 0 l
/-- What goes over a xor. -/
def Lin (F : Nat → Nat) : Prop := ∀ x y, F (x ^^^ y) = F x ^^^ F y
theorem Lin.zero {F : Nat → Nat} (h : Lin F) : F 0 = 0 := by
  have := h 0 0
  simpa using this
end Go.Proofs.YtlghcboenkglnaaGreatDoor.Rec

/-
  crc: the sum of bytes.
-/
namespace Go.Proofs.YtlghcboenkglnaaGreatDoor.Rec
open Go.Proofs.YtlghcboenkglnaaGreatDoor
open Go.RowKit
set_option linter.unusedVariables false

theorem stp_even {x : Nat} (h : x % 2 = 0) : (x : Int) / 2 = (stp x : Int) := by
  unfold stp
  rw [if_neg (by omega), Nat.xor_zero]
  omega
theorem stp_odd {x : Nat} (h : x % 2 = 1) (hx : x < 4294967296) : bits .xor .u32 ((x : Int) / 2) 2197175160 = (stp x : Int) := by
  have h1 := u32_xor_nat (x / 2) 2197175160 (by omega) (by omega)
  unfold stp
  rw [if_pos h, ← h1]
  rfl
set_option maxHeartbeats 400000 in
theorem step_any (w : World) (x : Nat) (hx : x < 4294967296) :
    Calls Tryz.prog 172 #[.int .u32 x] w fun e w' => e = .returned (.int .u32 (stp x)) ∧ w' = w := by
  have h1 : bits .and .u32 (x : Int) 1 = ((x &&& 1 : Nat) : Int) := u32_and_nat x 1 hx (by omega)
  rw [Nat.and_one_is_mod] at h1
  rcases Nat.mod_two_eq_zero_or_one x with h | h
  · rw [h] at h1
    have H := stp_even h
    clear h
    go_enter Tryz.func172, Tryz.ntmps172
    go_wp2
    go_ret
    exact ⟨rfl, rfl⟩
  · rw [h] at h1
    have H := stp_odd h hx
    clear h
    go_enter Tryz.func172, Tryz.ntmps172
    go_wp2
    go_ret
    exact ⟨rfl, rfl⟩
theorem four_and {x : Nat} (hx : x < 4294967296) : bits .and .u32 (x : Int) 15 = ((x % 16 : Nat) : Int) := by
  have h := u32_and_nat x 15 hx (by omega)
  rw [show x &&& 15 = x % 16 from Nat.and_two_pow_sub_one_eq_mod x 4] at h
  exact h
theorem four_xor {x : Nat} (hx : x < 4294967296) : bits .xor .u32 ((x : Int) / 16) (stps 4 (x % 16) : Nat) = ((stps 4 x : Nat) : Int) := by
  have h1 := u32_xor_nat (x / 16) (stps 4 (x % 16)) (by omega) (stps_lt 4 (by omega))
  rw [four_look] at h1
  exact h1
set_option maxHeartbeats 400000 in
theorem fourSteps_any (w : World) (g x : Nat) (hx : x < 4294967296) (ht : Tb w g 256 16 16 (stps 4)) :
    Calls Tryz.prog 173 #[.pointer (some ⟨g, 0, none⟩), .int .u32 x] w fun e w' => e = .returned (.int .u32 (stps 4 x)) ∧ w' = w := by
  have hm : x % 16 < 16 := Nat.mod_lt _ (by omega)
  have hc := ht.cell (x % 16) hm
  have ha := four_and hx
  have hxr := four_xor hx
  clear ht
  generalize hq : x % 16 = q at *
  clear hq
  go_enter Tryz.func173, Tryz.ntmps173
  go_wp2
  go_ret
  exact ⟨rfl, rfl⟩
theorem info256 : (Tryz.prog.info? 256).map (·.size) = some 16 := by kernel_rfl
set_option maxRecDepth 100000 in
set_option maxHeartbeats 1000000 in
theorem fours_any (w : World) :
    Calls Tryz.prog 159 #[] w fun e w' => e = .returned (.agg (tab (stps 4) 16)) ∧ w.grownBy w' none := by
  go_enter Tryz.func159, Tryz.ntmps159
  go_wp2_with fail
  go_loopw [2, 3, 4, 9] (fun _ _ i _ wr => ∃ (k : Nat), k ≤ 16 ∧ i = .int .i64 k ∧ Tb wr (w.heap.size + 1) 256 16 k (stps 4) ∧ Tb wr w.heap.size 256 16 0 (stps 4) ∧ w.grownBy wr none)
    (fun _ _ i _ _ => 16 - (intOf i).toNat)
  case atStart =>
    have h1 := Tb.new w #[.int .u32 0, .int .u32 0, .int .u32 0, .int .u32 0, .int .u32 0, .int .u32 0, .int .u32 0, .int .u32 0, .int .u32 0, .int .u32 0, .int .u32 0, .int .u32 0, .int .u32 0, .int .u32 0, .int .u32 0, .int .u32 0] 256 16 (stps 4) rfl
    refine ⟨0, Nat.zero_le _, rfl, ?_, ?_, ?_⟩
    · have h2 := Tb.new (w.alloc (.cells #[.int .u32 0, .int .u32 0, .int .u32 0, .int .u32 0, .int .u32 0, .int .u32 0, .int .u32 0, .int .u32 0, .int .u32 0, .int .u32 0, .int .u32 0, .int .u32 0, .int .u32 0, .int .u32 0, .int .u32 0, .int .u32 0] 256)) #[.int .u32 0, .int .u32 0, .int .u32 0, .int .u32 0, .int .u32 0, .int .u32 0, .int .u32 0, .int .u32 0, .int .u32 0, .int .u32 0, .int .u32 0, .int .u32 0, .int .u32 0, .int .u32 0, .int .u32 0, .int .u32 0] 256 16 (stps 4) rfl
      simpa using h2
    · exact h1.grown (alloc_grown _ _)
    · exact grown_trans (alloc_grown _ _) (alloc_grown _ _) (by simp)
  case round =>
    obtain ⟨k, hk, rfl, ht, h0, hg⟩ := hrel
    by_cases hlt : k < 16
    · have hkw : IntKind.u32.wrap (k : Int) = (k : Int) := by rw [IntKind.wrap_u32']; omega
      have hd : decide ((k : Int) < 16) = true := by simp; omega
      go_wp2_with fail
      go_loopw [3, 9] (fun x j wi => wi = wr ∧ ∃ (m : Nat), m ≤ 4 ∧ j = .int .i64 m ∧ x = .int .u32 (stps m k)) (fun _ j _ => 4 - (intOf j).toNat)
      case atStart => exact ⟨rfl, 0, Nat.zero_le _, rfl, by simp [stps]⟩
      case round =>
        rename_i wi
        obtain ⟨rfl, m, hm, rfl, rfl⟩ := hrel
        by_cases hlm : m < 4
        · go_wp2_with (go_at_call 172; refine (step_any _ _ (stps_lt _ (by omega))).mono ?_; rintro e w' ⟨rfl, rfl⟩)
          go_roundw
          case rel => exact ⟨trivial, m + 1, hlm, by go_num, by rw [stps_succ]⟩
          case measure => simp [intOf]; omega
        · obtain rfl : m = 4 := by omega
          obtain ⟨v, hv⟩ := ht.any k hlt
          have hfz := ht.there
          have hset := ht.set hlt (x := (stps 4 k : Nat)) rfl
          go_wp2
          go_roundw
          case rel => exact ⟨k + 1, by omega, by go_num, hset, h0.kept (setCell_grown _ _ _ _) (by simp), below_of_new hg (setCell_grown _ _ _ _) (by omega)⟩
          case measure => simp [intOf]; omega
    · obtain rfl : k = 16 := by omega
      go_wp2_with (first
        | refine wpList_load_tab rfl 256 (.tmp 1) rfl (w.heap.size + 1) (stps 4) 16 rfl 256 ht _ Tryz.underlying256 rfl info256 ?_
        | (refine wpList_store_tab rfl 256 (.tmp 0) (.tmp 18) rfl w.heap.size (stps 4) 16 rfl rfl 256 h0 info256 ?_; intro w2 hT2 hG2))
      exact bodyPost_ret (v := .agg (tab (stps 4) 16)) (results_tab rfl _ w.heap.size 256 (stps 4) 16 _ rfl hT2 Tryz.underlying256 rfl info256) rfl ⟨rfl, below_of_new hg hG2 (Nat.le_refl _)⟩
theorem in_xor {x : Nat} (hx : x < 4294967296) (c : UInt8) : bits .xor .u32 (x : Int) (c.toNat : Int) = ((x ^^^ c.toNat : Nat) : Int) :=
  u32_xor_nat x c.toNat hx (by have := c.toNat_lt; omega)
theorem in_lt {x : Nat} (hx : x < 4294967296) (c : UInt8) : x ^^^ c.toNat < 4294967296 := xor_lt hx (by have := c.toNat_lt; omega)
set_option maxRecDepth 100000 in
set_option maxHeartbeats 1000000 in
theorem goInto_any (w : World) (g x : Nat) (hx : x < 4294967296) (ht : Tb w g 256 16 16 (stps 4)) (ao : Option Addr) (n cap : Nat) (l : List UInt8) (hb : Bs w ao n cap l) :
    Calls Tryz.prog 160 #[.pointer (some ⟨g, 0, none⟩), .int .u32 x, .slice ao n cap] w fun e w' => e = .returned (.int .u32 (gin x l)) ∧ w' = w := by
  have hlen := hb.len
  have hroom := hb.room
  have htop := hb.top
  unfold maxLen at htop
  go_enter Tryz.func160, Tryz.ntmps160
  go_wp2_with fail
  go_loop [1, 8, 11] (fun y _ i => ∃ (k z : Nat), k ≤ n ∧ i = .int .i64 k ∧ y = .int .u32 z ∧ z < 4294967296 ∧ Hid (z = gin x (l.take k)))
    (fun _ _ i => n - (intOf i).toNat)
  case atStart => exact ⟨0, x, Nat.zero_le _, rfl, rfl, hx, (show _ = _ by simp [gin])⟩
  case round =>
    obtain ⟨k, z, hk, rfl, rfl, hz, hZ⟩ := hrel
    by_cases hlt : k < n
    · obtain ⟨b, o, rfl, hbl⟩ := hb.addr (by omega)
      have hkl : k < l.length := by omega
      have hcell := hb.at hkl
      have hxr := in_xor hz l[k]
      have hzl := in_lt hz l[k]
      have hstep : Hid (stps 4 (stps 4 (z ^^^ l[k].toNat)) = gin x (l.take (k + 1))) := by
        show _ = _
        rw [List.take_succ_eq_append_getElem hkl, gin_snoc, ← hZ.out, ← stps_add]
      generalize l[k] = c at *
      have hcw : IntKind.u32.wrap (c.toNat : Int) = (c.toNat : Int) := by have := c.toNat_lt; rw [IntKind.wrap_u32']; omega
      go_wp2_with (go_at_call 173; refine (fourSteps_any _ _ _ (by first | exact hzl | exact stps_lt 4 hzl) ht).mono ?_; rintro e w' ⟨rfl, rfl⟩)
      go_round
      case rel => exact ⟨k + 1, _, by omega, by go_num, rfl, stps_lt 4 (stps_lt 4 hzl), hstep⟩
      case measure => simp [intOf]; omega
    · obtain rfl : k = n := by omega
      go_wp2
      go_ret
      exact ⟨ret_int (by rw [hZ.out, List.take_of_length_le (by omega)]), rfl⟩
/-- A slice of slices of bytes, and what each shows. -/
structure Pc (w : World) (po : Option Addr) (m c : Nat) (L : List (List UInt8)) : Prop where
  len : L.length = m
  room : m ≤ c
  top : c ≤ maxLen
  nil : po = none → c = 0
  cells : ∀ a, po = some a → ∀ j l, L[j]? = some l → ∃ ao n cap, w.cell? (a.add j) = some (.slice ao n cap) ∧ Bs w ao n cap l
theorem Pc.grown {w w' : World} {po : Option Addr} {m c : Nat} {L : List (List UInt8)} (h : Pc w po m c L) (hg : w.grownBy w' none) : Pc w' po m c L :=
  ⟨h.len, h.room, h.top, h.nil, fun a ha j l hl => by
    obtain ⟨ao, n, cap, h1, h2⟩ := h.cells a ha j l hl
    exact ⟨ao, n, cap, hg.cell h1 (by simp), h2.grown hg⟩⟩
theorem Pc.addr {w : World} {po : Option Addr} {m c : Nat} {L : List (List UInt8)} (h : Pc w po m c L) (hn : 0 < m) : ∃ b o, po = some ⟨b, o, none⟩ ∧ b < w.heap.size := by
  cases po with
  | none => have := h.nil rfl; have := h.room; omega
  | some a =>
    have hl : 0 < L.length := by rw [h.len]; exact hn
    obtain ⟨ao, n, cap, h0, _⟩ := h.cells a rfl 0 L[0] (by simp [hl])
    have h1 : a.add 0 = a := by simp [Addr.add]
    rw [h1] at h0
    have h2 := World.block_lt_of_cell? w a h0
    obtain ⟨b, o, sp⟩ := a
    cases sp with
    | none => exact ⟨b, o, rfl, h2⟩
    | some q => simp only [World.cell?, Option.isSome_some, if_true] at h0; split at h0 <;> cases h0
theorem Pc.at {w : World} {b o m c : Nat} {L : List (List UInt8)} (h : Pc w (some ⟨b, o, none⟩) m c L) {j : Nat} (hj : j < L.length) : ∃ ao n cap, w.cell? ⟨b, o + j, none⟩ = some (.slice ao n cap) ∧ Bs w ao n cap L[j] := by
  have := h.cells _ rfl j L[j] (by simp [hj])
  rw [Addr.add_lit] at this
  exact this
theorem turn_bits {s : Nat} (hs : s < 4294967296) : bits .xor .u32 IntKind.u32.max (s : Int) = ((4294967295 - s : Nat) : Int) := by
  have h := u32_xor_nat 4294967295 s (by omega) hs
  rw [turn_eq hs, ← h]
  rfl
theorem flat_snoc {L : List (List UInt8)} {k : Nat} (hk : k < L.length) : (L.take (k + 1)).flatten = (L.take k).flatten ++ L[k] := by
  rw [List.take_succ_eq_append_getElem hk, List.flatten_append]
  simp
set_option maxRecDepth 100000 in
set_option maxHeartbeats 1000000 in
theorem goOn_any (w : World) (s : Nat) (hs : s < 4294967296) (po : Option Addr) (m c : Nat) (L : List (List UInt8)) (hb : Pc w po m c L) :
    Calls Tryz.prog 136 #[.int .u32 s, .slice po m c] w fun e w' => e = .returned (.int .u32 (mor s L.flatten)) ∧ w.grownBy w' none := by
  have hlen := hb.len
  have hroom := hb.room
  have htop := hb.top
  unfold maxLen at htop
  have hT := turn_bits hs
  go_enter Tryz.func136, Tryz.ntmps136
  go_wp2_with (first
    | (go_at_call 159; refine (fours_any _).mono ?_; rintro e w1 ⟨rfl, hg1⟩)
    | (refine wpList_store_tab rfl 256 (.tmp 5) (.tmp 9) rfl w1.heap.size (stps 4) 16 rfl rfl 256 (Tb.new w1 _ 256 16 (stps 4) rfl) info256 ?_; intro w2 hT2 hG2))
  have hGa : w.grownBy w2 none := below_of_new (grown_trans hg1 (alloc_grown w1 _) (by simp)) hG2 hg1.size
  have hb2 := hb.grown hGa
  clear hG2 hg1 hb
  go_loop [6, 8, 14] (fun y _ i => ∃ (k z : Nat), k ≤ m ∧ i = .int .i64 k ∧ y = .int .u32 z ∧ z < 4294967296 ∧ Hid (z = gin (4294967295 - s) (L.take k).flatten))
    (fun _ _ i => m - (intOf i).toNat)
  case atStart => exact ⟨0, _, Nat.zero_le _, rfl, rfl, by omega, (show _ = _ by simp [gin])⟩
  case round =>
    obtain ⟨k, z, hk, rfl, rfl, hz, hZ⟩ := hrel
    by_cases hlt : k < m
    · obtain ⟨b, o, rfl, hbl⟩ := hb2.addr (by omega)
      have hkl : k < L.length := by omega
      obtain ⟨ao, n, cap, hcell, hbs⟩ := hb2.at hkl
      have hstep : Hid (gin z L[k] = gin (4294967295 - s) (L.take (k + 1)).flatten) := by
        show _ = _
        rw [flat_snoc hkl, gin_append, ← hZ.out]
      generalize L[k] = l at *
      go_wp2_with (go_at_call 160; refine (goInto_any _ _ _ hz hT2 _ _ _ l hbs).mono ?_; rintro e w' ⟨rfl, rfl⟩)
      go_round
      case rel => exact ⟨k + 1, _, by omega, by go_num, rfl, gin_lt l hz, hstep⟩
      case measure => simp [intOf]; omega
    · obtain rfl : k = m := by omega
      have hT3 := turn_bits hz
      go_wp2
      go_ret
      exact ⟨ret_int (by rw [hZ.out, List.take_of_length_le (by omega)]; rfl), hGa⟩
set_option maxHeartbeats 400000 in
theorem sum_any (w : World) (po : Option Addr) (m c : Nat) (L : List (List UInt8)) (hb : Pc w po m c L) :
    Calls Tryz.prog 104 #[.slice po m c] w fun e w' => e = .returned (.int .u32 (sm L.flatten)) ∧ w.grownBy w' none := by
  go_enter Tryz.func104, Tryz.ntmps104
  go_wp2_with (go_at_call 136; refine (goOn_any _ 0 (by omega) _ _ _ L hb).mono ?_; rintro e w1 ⟨rfl, hg1⟩)
  go_ret
  exact ⟨rfl, hg1⟩
theorem Pc.one (w : World) (ao : Option Addr) (n cap : Nat) (l : List UInt8) (hb : Bs w ao n cap l) (e : TypeId) : Pc (w.alloc (.cells #[.slice ao n cap] e)) (some ⟨w.heap.size, 0, none⟩) 1 1 [l] := by
  refine ⟨rfl, Nat.le_refl _, by decide, (by simp), fun a ha j u hu => ?_⟩
  obtain rfl := Option.some.inj ha
  match j, hu with
  | 0, hu =>
    simp at hu
    subst hu
    exact ⟨ao, n, cap, by simp [Addr.add], hb.grown (alloc_grown _ _)⟩
end Go.Proofs.YtlghcboenkglnaaGreatDoor.Rec
