/-
  works, num: the walks.
-/
import Derived.Test.YtabnpgmkccmneaaS4
namespace Go.Proofs.Ytabnpgmkccmneaa
open Go.RowKit
set_option linter.unusedVariables false

set_option maxRecDepth 100000 in
theorem num_any (w : World) (n : Int) : Calls Try.prog 8 #[.int .i64 n] w fun e w' => e = .returned (.int .i64 n) ∧ w' = w := by
  go_enter Try.func8, Try.ntmps8
  go_wp2
  go_ret
  exact ⟨rfl, rfl⟩

/-- 'f == nil' of a function that is there. -/
theorem run_equalIn_fn (w : World) (d : Nat) (t : TypeId) (ps rs : Array TypeId) (vd : Bool) (ht : Try.prog.underlying t = some (.func ps rs vd)) (fn : Fn) (fi ca : Array Value) : (Op.equalIn (d + 1) t (.func fn fi ca) .nilFunc).run Try.prog w = .ok false w := by
  simp [Op.equalIn, run_underlying ht]
theorem run_equal_fn (w : World) (t : TypeId) (ps rs : Array TypeId) (vd : Bool) (ht : Try.prog.underlying t = some (.func ps rs vd)) (fn : Fn) (fi ca : Array Value) : (Op.equal t (.func fn fi ca) .nilFunc).run Try.prog w = .ok false w := run_equalIn_fn w 9999 t ps rs vd ht fn fi ca
theorem run_eql_fn (w : World) (t : TypeId) (ps rs : Array TypeId) (vd : Bool) (ht : Try.prog.underlying t = some (.func ps rs vd)) (fn : Fn) (fi ca : Array Value) : (binOp .eql t (.func fn fi ca) .nilFunc).run Try.prog w = .ok (.bool false) w := by
  simp only [binOp]
  simp [run_equal_fn w t ps rs vd ht fn fi ca]

/-- A new row of the values, whole. -/
theorem Vs.new (w : World) (e : TypeId) (l : List Value) (h1 : ∀ u ∈ l, u.oneCell' = true) (ht : l.length ≤ maxLen) : Vs (w.alloc (.cells l.toArray e)) (some ⟨w.heap.size, 0, none⟩) l.length l.length l :=
  Ro.shows (e := e) (heap_alloc_new w _) h1 ht

/-- The texts of works. -/
def tx (n : UInt8) : Value := .string ⟨#[n]⟩
theorem tx_one (l : List UInt8) : ∀ u ∈ l.map tx, u.oneCell' = true := by
  intro u hu
  obtain ⟨b, _, rfl⟩ := List.mem_map.1 hu
  rfl

set_option maxRecDepth 100000 in
set_option maxHeartbeats 400000 in
theorem works_any (w : World) : Calls Try.prog 6 #[] w fun e w' => e = .returned (.bool true) ∧ w.grownBy w' none := by
  go_enter Try.func6, Try.ntmps6
  go_wp2_with fail
  refine (Rs.new_any _ 2 (by decide) (by decide)).mono ?_
  rintro e w1 ⟨b, g, rfl, hr1, hb, hg, hg1⟩
  go_wp2_with (first | (go_at_call 8; refine (num_any _ _).mono ?_; rintro e w' ⟨rfl, hw'⟩; subst hw') | (go_at_call 26; refine (Rs.all_any _ b g 2 0 [] hr1).mono ?_))
  rintro e w2 ⟨c, o, rfl, hsq, ho, hc, hg2⟩
  have hr2 := hr1.grown hg2
  have hs1 := hg1.size
  have hs2 := hg2.size
  have hG2 := grown_trans hg1 hg2 (by simp)
  have hbl := hr2.lt
  have hgl := hr2.glt
  clear hr1 hsq hg1 hg2
  have hga := World.grownBy_alloc w2 (.cells #[.string ⟨#[97]⟩, .string ⟨#[98]⟩] 9) none
  have heq := run_eql_fn w2 64 _ _ _ Try.underlying64 (.func 47) #[] #[.pointer (some ⟨c, 0, none⟩)]
  have hr3 := hr2.grown hga
  have hv3 := Vs.new w2 9 [.string ⟨#[97]⟩, .string ⟨#[98]⟩] (by simp [Value.oneCell']) (by decide)
  have hG3 := grown_trans hG2 hga (by simp)
  clear hr2 hga hG2
  go_wp2_with fail
  refine (Rs.put_any _ b g 2 0 2 2 _ [] _ hr3 hv3 (by decide) (fun a ha => by obtain rfl := Option.some.inj ha; show w2.heap.size ≠ g; omega) (Or.inr ⟨_, _, rfl⟩)).mono ?_
  rintro e w4 ⟨rfl, hr4, hc4⟩
  have hG4 : w.grownBy w4 none := ((Chg.of_grown hG3 (two b g)).trans hc4).grown (fun k hk => by rintro (e | e) <;> omega)
  have hs3 := hc4.size
  clear hr3 hv3 hG3 hc4
  have hga := World.grownBy_alloc w4 (.cells #[.string ⟨#[99]⟩] 9) none
  have hr5 := hr4.grown hga
  have hG5 := grown_trans hG4 hga (by simp)
  clear hr4 hga hG4
  go_wp2_with fail
  refine (Rs.put_full _ b g 2 0 1 1 _ _ hr5 (by decide)).mono ?_
  rintro e w6 ⟨rfl, hg6⟩
  have hr6 := hr5.grown hg6
  have hG6 := grown_trans hG5 hg6 (by simp)
  clear hr5 hG5 hg6
  go_wp2_with fail
  refine (Rs.take_any _ b g 2 0 _ _ hr6).mono ?_
  rintro e w7 ⟨rfl, hr7, hc7⟩
  have hG7 : w.grownBy w7 none := ((Chg.of_grown hG6 (two b g)).trans hc7).grown (fun k hk => by rintro (e | e) <;> omega)
  clear hr6 hG6 hc7
  go_wp2_with (first | (go_at_call 8; refine (num_any _ _).mono ?_; rintro e w' ⟨rfl, hw'⟩; subst hw') | (go_at_call 20; refine (Rs.len_any _ b g 2 _ _ hr7).mono ?_; rintro e w' ⟨rfl, hw'⟩; subst hw') | (go_at_call 28; refine (Rs.full_any _ b g 2 _ _ hr7).mono ?_; rintro e w8 ⟨rfl, hg8⟩))
  have hG8 := grown_trans hG7 hg8 (by simp)
  go_wp2
  go_ret
  exact ⟨rfl, hG8⟩
end Go.Proofs.Ytabnpgmkccmneaa
