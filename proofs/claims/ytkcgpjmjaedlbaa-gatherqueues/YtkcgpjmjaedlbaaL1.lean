/-
  Lists of lists of records in memory; num, many, listsRefusal, refusal: the walks.
-/
import Derived.Test.YtkcgpjmjaedlbaaC
namespace Go.Proofs.Ytkcgpjmjaedlbaa
open Go.RowKit
set_option linter.unusedVariables false

/-- The head of a list, as a cell. -/
def Rl.head (x : Rl) : Value := .slice x.o x.n x.c
/-- A slice of lists of records. -/
structure Ls (w : World) (ao : Option Addr) (n cap : Nat) (L : List Rl) : Prop where
  vs : Vs w ao n cap (L.map Rl.head)
  plain : Plain ao
  shows : ∀ x ∈ L, Rs w x.o x.n x.c x.l

theorem Ls.len {w : World} {ao : Option Addr} {n cap : Nat} {L : List Rl} (h : Ls w ao n cap L) : L.length = n := by
  have := h.vs.len
  simpa using this
theorem Ls.grown {w w' : World} {ao : Option Addr} {n cap : Nat} {L : List Rl} (h : Ls w ao n cap L) (hg : w.grownBy w' none) : Ls w' ao n cap L :=
  ⟨h.vs.grown hg, h.plain, fun x hx => (h.shows x hx).grown hg⟩
theorem Ls.at {w : World} {b o n cap : Nat} {L : List Rl} (h : Ls w (some ⟨b, o, none⟩) n cap L) {j : Nat} (hj : j < L.length) :
    w.cell? ⟨b, o + j, none⟩ = some (.slice (L[j]).o (L[j]).n (L[j]).c) ∧ Rs w (L[j]).o (L[j]).n (L[j]).c (L[j]).l :=
  ⟨h.vs.at (u := (L[j]).head) (by simp [hj]), h.shows _ (List.getElem_mem hj)⟩
theorem Ls.part {w : World} {ao : Option Addr} {n cap : Nat} {L : List Rl} (h : Ls w ao n cap L) {xo : Option Addr} {m c p : Nat} (hv : Vs w xo m c (((L.map Rl.head).drop p).take m)) (hp : Plain xo) : Ls w xo m c ((L.drop p).take m) :=
  ⟨by rw [List.map_take, List.map_drop]; exact hv, hp, fun x hx => h.shows x (List.mem_of_mem_drop (List.mem_of_mem_take hx))⟩
theorem small_of {w : World} {ao : Option Addr} {n cap : Nat} {l : List Rc} (h : Rs w ao n cap l) (hn : n ≤ 4096) : Small l :=
  ⟨by rw [h.len]; exact hn, fun r hr => ⟨(h.shows r hr).kb, (h.shows r hr).vb⟩⟩

theorem num_any (w : World) (z : Int) : Calls Try.prog 18 #[.int .i64 z] w fun e w' => e = .returned (.int .i64 z) ∧ w' = w := by
  go_enter Try.func18, Try.ntmps18
  go_wp2
  go_ret
  exact ⟨rfl, rfl⟩

set_option maxRecDepth 100000 in
set_option maxHeartbeats 2000000 in
theorem lref_any (w : World) (ao : Option Addr) (n cap : Nat) (L : List Rl) (ha : Ls w ao n cap L) (hs : ∀ x ∈ L, x.n ≤ 4096) (hn4 : n ≤ 4096) :
    Calls Try.prog 40 #[.slice ao n cap] w fun e w' => e = .returned (.int .i64 (lref L)) ∧ w.grownBy w' none := by
  have hlen := ha.len
  go_enter Try.func40, Try.ntmps40
  go_wp2_with fail
  go_loopw [3, 5, 6, 7, 10] (fun g _ _ _ i' wr => ∃ (i : Nat) (G : Bool), i ≤ n ∧ i' = .int .i64 i ∧ g = .bool G ∧ Hid ((L.take i).any (fun x => (fitsR x.l).2 == 8) = G) ∧ Hid ((L.take i).any (fun x => (fitsR x.l).2 == 2) = false) ∧ w.grownBy wr none) (fun _ _ _ _ i' _ => n - (intOf i').toNat)
  case atStart => exact ⟨0, false, Nat.zero_le _, rfl, rfl, (by simp : _ = _), (by simp : _ = _), grown_refl _ _⟩
  case round =>
    obtain ⟨i, G, hi, rfl, rfl, hG8, hG2, hg⟩ := hrel
    by_cases hlt : i < n
    · have h1 : i < L.length := by omega
      obtain ⟨b, o, rfl, hbl⟩ := ha.vs.addr (by omega)
      obtain ⟨a1, ak⟩ := (ha.grown hg).at h1
      have hd : decide ((i : Int) < (n : Int)) = true := by simp; omega
      have hsm := small_of ak (hs _ (List.getElem_mem h1))
      have h8 : Hid ((L.take (i + 1)).any (fun x => (fitsR x.l).2 == 8) = (G || (fitsR (L[i]).l).2 == 8)) := by show _ = _; rw [List.take_succ_eq_append_getElem h1, List.any_append, hG8.out]; simp
      have h2 : Hid ((L.take (i + 1)).any (fun x => (fitsR x.l).2 == 2) = ((fitsR (L[i]).l).2 == 2)) := by show _ = _; rw [List.take_succ_eq_append_getElem h1, List.any_append, hG2.out]; simp
      have hN : Hid ((fitsR (L[i]).l).2 = 2 → lref L = 2) := fun e => by
        unfold lref
        rw [if_pos]
        exact List.any_eq_true.2 ⟨L[i], List.getElem_mem h1, by simp [e]⟩
      clear hG8 hG2
      generalize L[i] = x at *
      go_wp2_with fail
      refine (fits_any _ x.o x.n x.c x.l ak hsm).mono ?_
      rintro e w2 ⟨rfl, hg2⟩
      have hG := grown_trans hg hg2 (by simp)
      clear a1 ak hg hg2 hsm
      generalize fitsR x.l = F at *
      obtain ⟨sz, er⟩ := F
      simp only at h8 h2 hN ⊢
      by_cases he2 : er = 2
      · subst he2
        go_wp2
        go_ret
        exact ⟨ret_int (by rw [hN.out (by simp)]), hG⟩
      · have hz2 : (er == 2) = false := by simpa using he2
        cases G
        · by_cases he8 : er = 8
          · subst he8
            go_wp2
            go_roundw
            case rel => exact ⟨i + 1, true, by omega, by go_num, rfl, by show _ = _; rw [h8.out]; simp, by show _ = _; rw [h2.out]; simp, hG⟩
            case measure => simp [intOf]; omega
          · have hz8 : (er == 8) = false := by simpa using he8
            go_wp2
            go_roundw
            case rel => exact ⟨i + 1, false, by omega, by go_num, rfl, by show _ = _; rw [h8.out]; simp [he8], by show _ = _; rw [h2.out]; simp [he2], hG⟩
            case measure => simp [intOf]; omega
        · go_wp2
          go_roundw
          case rel => exact ⟨i + 1, true, by omega, by go_num, rfl, by show _ = _; rw [h8.out]; simp, by show _ = _; rw [h2.out]; simp [he2], hG⟩
          case measure => simp [intOf]; omega
    · obtain rfl : i = n := by omega
      have hd : decide ((i : Int) < (i : Int)) = false := by simp
      have HF : Hid (lref L = if 256 < i then 3 else if G then 8 else 0) := by
        have e1 := hG8.out
        have e2 := hG2.out
        rw [List.take_of_length_le (by omega)] at e1 e2
        show _ = _
        unfold lref
        rw [e1, e2, hlen]
        simp
      clear hG8 hG2
      by_cases h256 : 256 < i
      · have hd2 : decide (256 < i) = true := by simpa using h256
        go_wp2
        go_ret
        exact ⟨ret_int (by rw [HF.out, if_pos h256]), hg⟩
      · have hd2 : decide (256 < i) = false := by simpa using h256
        cases G
        · go_wp2
          go_ret
          exact ⟨by rw [HF.out, if_neg h256]; rfl, hg⟩
        · go_wp2
          go_ret
          exact ⟨by rw [HF.out, if_neg h256]; rfl, hg⟩

/-- The error of a take and lists. -/
def refR (take : Int) (L : List Rl) : Int := if take < 1 then 2 else lref L
set_option maxRecDepth 100000 in
theorem ref_any (w : World) (take : Int) (ao : Option Addr) (n cap : Nat) (L : List Rl) (ha : Ls w ao n cap L) (hs : ∀ x ∈ L, x.n ≤ 4096) (hn4 : n ≤ 4096) :
    Calls Try.prog 38 #[.int .i64 take, .slice ao n cap] w fun e w' => e = .returned (.int .i64 (refR take L)) ∧ w.grownBy w' none := by
  by_cases ht : take < 1
  · have hd : decide (take < 1) = true := by simpa using ht
    have HR : Hid (refR take L = 2) := by show _ = _; unfold refR; rw [if_pos ht]
    go_enter Try.func38, Try.ntmps38
    go_wp2
    go_ret
    exact ⟨ret_int (by rw [HR.out]), grown_refl _ _⟩
  · have hd : decide (take < 1) = false := by simpa using ht
    have HR : Hid (refR take L = lref L) := by show _ = _; unfold refR; rw [if_neg ht]
    go_enter Try.func38, Try.ntmps38
    go_wp2_with fail
    refine (lref_any _ ao n cap L ha hs hn4).mono ?_
    rintro e w2 ⟨rfl, hg2⟩
    go_wp2
    go_ret
    exact ⟨ret_int (by rw [HR.out]), hg2⟩
end Go.Proofs.Ytkcgpjmjaedlbaa
