/-
  picker, and what it tells; stays.
-/
import Derived.Test.YthkbakaodbceiaaF1
namespace Go.Proofs.Ythkbakaodbceiaa
open Go.RowKit
set_option linter.unusedVariables false

/-- A slice of numbers: what it shows. -/
structure Is' (w : World) (o : Option Addr) (n c : Nat) (l : List Int) : Prop where
  len : l.length = n
  room : n ≤ c
  top : c ≤ maxLen
  pl : ∀ a, o = some a → ∃ b i, a = ⟨b, i, none⟩
  nil : o = none → n = 0
  k : ∀ b i, o = some ⟨b, i, none⟩ → ∀ j x, l[j]? = some x → w.cell? ⟨b, i + j, none⟩ = some (.int .i64 x)

/-- A picker: where it stands, over which picks. -/
structure Pk (w : World) (za zp : Nat) (k : Nat) (o : Option Addr) (n c : Nat) (l : List Int) : Prop where
  b0 : Boxed w za 3 (.int .i64 k)
  b1 : Boxed w zp 39 (.slice o n c)
  sl : Is' w o n c l
  le : k ≤ n
  ne : za ≠ zp
  na : ∀ a, o = some a → a.block ≠ za

/-- Which of so many ways is gone. -/
def pickR (l : List Int) (k : Nat) (ways : Int) : Int := match l[k]? with | none => 0 | some x => x % ways

section
variable {w w' : World}

set_option maxRecDepth 100000 in
theorem picker_any (o : Option Addr) (n c : Nat) (l : List Int) (hl : Is' w o n c l) (hb : ∀ a, o = some a → a.block < w.heap.size) :
    Calls Try.prog 56 #[.slice o n c] w fun e w' => e = .returned (.func (.func 65) #[] #[.pointer (some ⟨w.heap.size + 1, 0, none⟩), .pointer (some ⟨w.heap.size, 0, none⟩)]) ∧ Pk w' (w.heap.size + 1) w.heap.size 0 o n c l ∧ w.grownBy w' none := by
  have hmf : ∀ (fn : Fn) (first cap : Array Value) (w : World), (Instr.makeFunc fn first cap).run Try.prog w = .ok (.func fn first cap) w := fun _ _ _ _ => rfl
  have fin : ∀ W, (w.alloc (.cells #[.slice o n c] 39)).alloc (.cells #[.int .i64 0] 3) = W → Pk W (w.heap.size + 1) w.heap.size 0 o n c l ∧ w.grownBy W none := by
    rintro W rfl
    have hg := grown_trans (alloc_grown w (.cells #[.slice o n c] 39)) (alloc_grown _ (.cells #[.int .i64 0] 3)) (by simp)
    have a2 := Boxed.new (w.alloc (.cells #[.slice o n c] 39)) 3 (.int .i64 0)
    rw [World.size_alloc] at a2
    exact ⟨⟨a2, (Boxed.new w 39 (.slice o n c)).alloc _, ⟨hl.len, hl.room, hl.top, hl.pl, hl.nil, fun b i e j x hx => hg.cell (hl.k b i e j x hx) (by simp)⟩, Nat.zero_le _, by omega, fun a e => by have := hb a e; omega⟩, hg⟩
  have F : Hid _ := fin
  clear fin
  go_enter Try.func56, Try.ntmps56
  go_wp2
  go_ret
  exact ⟨rfl, F.out _ rfl⟩

set_option maxRecDepth 100000 in
set_option maxHeartbeats 1000000 in
theorem pick_any (za zp k : Nat) (o : Option Addr) (n c : Nat) (l : List Int) (h : Pk w za zp k o n c l) (ways : Int) (hw : 0 < ways) (hw2 : ways < 4611686018427387904) (hl : ∀ x ∈ l, 0 ≤ x ∧ x < 9223372036854775808) (hn : n ≤ 4611686018427387904) :
    Calls Try.prog 65 #[.int .i64 ways, .pointer (some ⟨za, 0, none⟩), .pointer (some ⟨zp, 0, none⟩)] w fun e w' => e = .returned (.int .i64 (pickR l k ways)) ∧ Pk w' za zp (min (k + 1) n) o n c l ∧ Chg w w' (fun q => q = za) := by
  have k0 := h.b0.cell
  have k1 := h.b1.cell
  have f0 := h.b0.frozen
  have hlen := h.sl.len
  have hle := h.le
  by_cases hk : k = n
  · have hp : pickR l k ways = 0 := by unfold pickR; rw [List.getElem?_eq_none (by omega)]
    have hm : min (k + 1) n = k := by omega
    subst hk
    rw [hp, hm]
    go_enter Try.func65, Try.ntmps65
    go_wp2
    go_ret
    exact ⟨rfl, h, Chg.refl _ _⟩
  · have hlt : k < l.length := by omega
    have hxm := hl l[k] (List.getElem_mem hlt)
    have hp : pickR l k ways = l[k] % ways := by unfold pickR; rw [List.getElem?_eq_getElem hlt]
    have hm : min (k + 1) n = k + 1 := by omega
    cases o with
    | none => exact absurd (h.sl.nil rfl) (by omega)
    | some a =>
      obtain ⟨xb, xi, rfl⟩ := h.sl.pl a rfl
      have hx := h.sl.k xb xi rfl k l[k] (List.getElem?_eq_getElem hlt)
      have hxa := h.na _ rfl
      simp only at hxa
      generalize l[k] = x at *
      rw [hp, hm]
      have hc := setCell_chg w za 0 (.int .i64 ((k : Int) + 1))
      have hP : Pk (w.setCell ⟨za, 0, none⟩ (.int .i64 ((k : Int) + 1))) za zp (k + 1) (some ⟨xb, xi, none⟩) n c l :=
        ⟨by have := h.b0.set (.int .i64 ((k : Int) + 1)); simpa using this, h.b1.other (fun e => h.ne e.symm) _, ⟨h.sl.len, h.sl.room, h.sl.top, h.sl.pl, h.sl.nil, fun b i e j x hx => hc.cell (h.sl.k b i e j x hx) (fun e2 => by cases e; exact hxa e2)⟩, by omega, h.ne, h.na⟩
      have d1 : (((k : Nat) : Int) == ((n : Nat) : Int)) = false := by simp; omega
      have b1 : (0 : Int) ≤ (k : Int) := by omega
      have b2 : (k : Int) < (n : Int) := by omega
      have hw0 : ¬ ways = 0 := by omega
      have hzz : ¬ zp = za := fun e => h.ne e.symm
      have hzz2 : ¬ za = zp := h.ne
      have p0 := hP.b0.cell
      have p1 := hP.b1.cell
      clear hp hm h hl
      go_enter Try.func65, Try.ntmps65
      go_wp2
      go_ret
      exact ⟨rfl, hP, hc⟩
end
end Go.Proofs.Ythkbakaodbceiaa
