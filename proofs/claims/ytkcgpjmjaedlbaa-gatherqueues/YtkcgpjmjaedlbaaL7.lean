/-
  Offsets: the walk.
-/
import Derived.Test.YtkcgpjmjaedlbaaL6
namespace Go.Proofs.Ytkcgpjmjaedlbaa
open Go.RowKit
set_option linter.unusedVariables false

theorem Try.info2 : (Try.prog.info? 2).map (fun i => (i.zero, i.size, i.bytes)) = some (some (.int .i64 0), 1, 8) := by kernel_rfl

set_option maxRecDepth 100000 in
theorem offsets_arg (w : World) (base : Int) (ao : Option Addr) (n cap : Nat) (h : base < 0 ∨ 9007199254740992 < base) :
    Calls Try.prog 14 #[.int .i64 base, .slice ao n cap] w fun e w' => e = .returned (.tuple #[.slice none 0 0, .int .i64 0, .int .i64 2]) ∧ w' = w := by
  by_cases h1 : base < 0
  · have hd : decide (base < 0) = true := by simpa using h1
    go_enter Try.func14, Try.ntmps14
    go_wp2
    go_ret3
    exact ⟨rfl, rfl⟩
  · have hd : decide (base < 0) = false := by simpa using h1
    have hd2 : decide (9007199254740992 < base) = true := by simp; omega
    go_enter Try.func14, Try.ntmps14
    go_wp2
    go_ret3
    exact ⟨rfl, rfl⟩

set_option maxRecDepth 100000 in
theorem offsets_no (w : World) (base : Int) (ao : Option Addr) (n cap : Nat) (L : List Rl) (ha : Ls w ao n cap L) (hs : ∀ x ∈ L, x.n ≤ 4096) (hn4 : n ≤ 4096) (h0 : 0 ≤ base) (h1 : base ≤ 9007199254740992) (h : lref L ≠ 0) :
    Calls Try.prog 14 #[.int .i64 base, .slice ao n cap] w fun e w' => e = .returned (.tuple #[.slice none 0 0, .int .i64 0, .int .i64 (lref L)]) ∧ w.grownBy w' none := by
  have hr := lref_any w ao n cap L ha hs hn4
  generalize lref L = R at *
  have hd : (R != 0) = true := by simpa using h
  have hd1 : decide (base < 0) = false := by simp; omega
  have hd2 : decide (9007199254740992 < base) = false := by simp; omega
  go_enter Try.func14, Try.ntmps14
  go_wp2_with fail
  refine hr.mono ?_
  rintro e w1 ⟨rfl, hg1⟩
  go_wp2
  go_ret3
  exact ⟨rfl, hg1⟩

/-- Where the lists begin. -/
def offL (base : Int) (L : List Rl) (n : Nat) : List Value := (List.range n).map fun i => .int .i64 (base + ((flat (L.take i)).length : Nat))
theorem offL_len (base : Int) (L : List Rl) (n : Nat) : (offL base L n).length = n := by simp [offL]
theorem offL_succ (base : Int) (L : List Rl) (n : Nat) : offL base L (n + 1) = offL base L n ++ [.int .i64 (base + ((flat (L.take n)).length : Nat))] := by
  unfold offL
  rw [List.range_succ, List.map_append]
  rfl

/-- What Offsets answers of lists that may be. -/
def OffE (w0 : World) (base : Int) (L : List Rl) (n : Nat) (e : Ending) (w' : World) : Prop :=
  (9007199254740993 < base + ((flat L).length : Nat) ∧ e = .returned (.tuple #[.slice none 0 0, .int .i64 0, .int .i64 8])) ∨
  (base + ((flat L).length : Nat) ≤ 9007199254740993 ∧ ∃ g, e = .returned (.tuple #[.slice (some ⟨g, 0, none⟩) n n, .int .i64 (base + ((flat L).length : Nat)), .int .i64 0]) ∧ w0.heap.size ≤ g ∧ Ro w' g 2 (offL base L n))

set_option maxRecDepth 100000 in
set_option maxHeartbeats 2000000 in
theorem offsets_ok (w : World) (base : Int) (ao : Option Addr) (n cap : Nat) (L : List Rl) (ha : Ls w ao n cap L) (hs : ∀ x ∈ L, x.n ≤ 4096) (hn4 : n ≤ 1000) (h0 : 0 ≤ base) (h1 : base ≤ 9007199254740992) (h : lref L = 0) :
    Calls Try.prog 14 #[.int .i64 base, .slice ao n cap] w fun e w' => OffE w base L n e w' ∧ w.grownBy w' none := by
  have hr := lref_any w ao n cap L ha hs (by omega)
  have hlen := ha.len
  rw [h] at hr
  have hfl : ∀ i, (flat (L.take i)).length ≤ 65536 := fun i => by
    have h9 := lref_part h 0 i
    rw [List.drop_zero] at h9
    exact flat_len h9
  clear h
  have hd1 : decide (base < 0) = false := by simp; omega
  have hd2 : decide (9007199254740992 < base) = false := by simp; omega
  go_enter Try.func14, Try.ntmps14
  go_wp2_with fail
  refine hr.mono ?_
  rintro e w1 ⟨rfl, hg1⟩
  clear hr
  go_wp2_with (at_make; refine wpList_make_ro _ rfl _ _ 35 rfl 2 (.int .i64 0) 8 Try.underlying35 Try.info2 rfl (by decide) n rfl rfl rfl rfl hn4 ?_)
  intro w2 hro hg2 hsz2
  have hG2 := grown_trans hg1 hg2 (by simp)
  have hgw := hg1.size
  generalize w1.heap.size = g at *
  clear hg1 hg2
  go_wp2_with fail
  go_loopw [9, 10, 11, 29] (fun s' _ _ i' wr => ∃ (i S : Nat), i ≤ n ∧ i' = .int .i64 i ∧ s' = .int .i64 (base + (S : Int)) ∧ Hid ((flat (L.take i)).length = S) ∧ S ≤ 65536 ∧ Ro wr g 2 (offL base L i ++ List.replicate (n - i) (.int .i64 0)) ∧ w.grownBy wr none) (fun _ _ _ i' _ => n - (intOf i').toNat)
  case atStart => exact ⟨0, 0, Nat.zero_le _, rfl, by simp, (by simp [flat] : _ = _), Nat.zero_le _, by simpa [offL] using hro, hG2⟩
  case round =>
    obtain ⟨i, S, hi, rfl, rfl, hS, hSb, hR, hg⟩ := hrel
    by_cases hlt : i < n
    · have h2 : i < L.length := by omega
      obtain ⟨b, o, rfl, hbl⟩ := ha.vs.addr (by omega)
      obtain ⟨a1, ak⟩ := (ha.grown hg).at h2
      have hd : decide ((i : Int) < (n : Int)) = true := by simp; omega
      have hS1 : Hid ((flat (L.take (i + 1))).length = S + (L[i]).n) := by show _ = _; rw [flat_succ h2, List.length_append, ak.len, hS.out]
      have hb1 := hfl (i + 1)
      rw [hS1.out] at hb1
      have hoff : Hid (offL base L (i + 1) = offL base L i ++ [.int .i64 (base + (S : Int))]) := by show _ = _; rw [offL_succ, hS.out]
      have hol := offL_len base L i
      obtain ⟨hR2, hc2⟩ := hR.set i (.int .i64 (base + (S : Int)))
      have hset : (offL base L i ++ List.replicate (n - i) (Value.int .i64 0)).set i (.int .i64 (base + (S : Int))) = offL base L (i + 1) ++ List.replicate (n - (i + 1)) (.int .i64 0) := by
        rw [hoff.out, List.set_append_right _ _ (by omega), hol, Nat.sub_self, show n - i = (n - (i + 1)) + 1 by omega, List.replicate_succ, List.set_cons_zero]
        simp
      rw [hset] at hR2
      have hcell : wr.cell? ⟨g, i, none⟩ = some (.int .i64 0) := by
        rw [hR.cell, List.getElem?_append_right (by omega), hol, Nat.sub_self, List.getElem?_replicate, if_pos (by omega)]
      have hfz := hR.frozen i
      have hg3 : w.grownBy (wr.setCell ⟨g, i, none⟩ (.int .i64 (base + (S : Int)))) none := grown_trans hg (setCell_grown wr g i _) (fun k hk => Or.inr (by cases hk; exact hgw))
      have hi0 : (0 : Int) ≤ (i : Int) := by omega
      have hin : (i : Int) < (n : Int) := by omega
      clear hset hR hc2 hoff hS
      generalize L[i] = x at *
      go_wp2
      go_roundw
      case rel => exact ⟨i + 1, S + x.n, by omega, by go_num, by congr 1; push_cast; omega, hS1, hb1, hR2, hg3⟩
      case measure => simp [intOf]; omega
    · obtain rfl : i = n := by omega
      have hd : decide ((i : Int) < (i : Int)) = false := by simp
      have hF : L.take i = L := List.take_of_length_le (by omega)
      rw [hF] at hS
      rw [Nat.sub_self, List.replicate_zero, List.append_nil] at hR
      by_cases hbig : 9007199254740993 < base + (S : Int)
      · have hd3 : decide (9007199254740993 < base + (S : Int)) = true := by simpa using hbig
        go_wp2
        go_ret3
        exact ⟨.inl ⟨by rw [hS.out]; exact hbig, rfl⟩, hg⟩
      · have hd3 : decide (9007199254740993 < base + (S : Int)) = false := by simpa using hbig
        go_wp2
        go_ret3
        exact ⟨.inr ⟨by rw [hS.out]; omega, g, by rw [hS.out]; rfl, hgw, hR⟩, hg⟩
end Go.Proofs.Ytkcgpjmjaedlbaa
