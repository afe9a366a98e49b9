/-
  Count, Plan: the walks.
-/
import Derived.Test.YtkcgpjmjaedlbaaL3
import Derived.Test.YtkcgpjmjaedlbaaV2
namespace Go.Proofs.Ytkcgpjmjaedlbaa
open Go.RowKit
set_option linter.unusedVariables false

theorem Try.info3 : (Try.prog.info? 3).map (fun i => (i.zero, i.size, i.bytes)) = some (some (.int .i64 0), 1, 8) := by kernel_rfl
theorem Try.size32 : (Try.prog.info? 32).map (·.size) = some 1 := by kernel_rfl
/-- A number as a cell. -/
def iv (k : Nat) : Value := .int .i64 k
theorem Vs.one1 (w : World) (v : Value) (e : TypeId) (h : v.oneCell' = true) : Vs (w.alloc (.cells #[v] e)) (some ⟨w.heap.size, 0, none⟩) 1 1 [v] := by
  refine ⟨rfl, Nat.le_refl _, by decide, (by simp), fun u hu => ?_, fun a ha j u hu => ?_⟩
  · rw [List.mem_singleton.1 hu]; exact h
  obtain rfl := Option.some.inj ha
  match j, hu with
  | 0, hu => simp at hu; subst hu; simp [Addr.add]
def lenV : Value → Nat
  | .slice _ m _ => m
  | _ => 0

theorem refR_pos {take : Int} {L : List Rl} (h : refR take L = 0) : 1 ≤ take ∧ lref L = 0 := by
  unfold refR at h
  split at h
  · simp at h
  · exact ⟨by omega, h⟩

set_option maxRecDepth 100000 in
theorem count_no (w : World) (take : Int) (ao : Option Addr) (n cap : Nat) (L : List Rl) (ha : Ls w ao n cap L) (hs : ∀ x ∈ L, x.n ≤ 4096) (hn4 : n ≤ 4096) (h : refR take L ≠ 0) :
    Calls Try.prog 11 #[.int .i64 take, .slice ao n cap] w fun e w' => e = .returned (.tuple #[.int .i64 0, .int .i64 (refR take L)]) ∧ w.grownBy w' none := by
  have hr := ref_any w take ao n cap L ha hs hn4
  generalize refR take L = R at *
  have hd : (R != 0) = true := by simpa using h
  go_enter Try.func11, Try.ntmps11
  go_wp2_with fail
  refine hr.mono ?_
  rintro e w1 ⟨rfl, hg1⟩
  go_wp2
  go_ret2
  exact ⟨rfl, hg1⟩

/-- What Count answers. -/
def CntE (take : Int) (L : List Rl) (e : Ending) : Prop := ∃ k : Nat, e = .returned (.tuple #[.int .i64 k, .int .i64 0]) ∧ Tk take L k
set_option maxRecDepth 100000 in
theorem count_ok (w : World) (take : Int) (ao : Option Addr) (n cap : Nat) (L : List Rl) (ha : Ls w ao n cap L) (hs : ∀ x ∈ L, x.n ≤ 4096) (hn4 : n ≤ 4096) (h : refR take L = 0) :
    Calls Try.prog 11 #[.int .i64 take, .slice ao n cap] w fun e w' => CntE take L e ∧ w.grownBy w' none := by
  have hr := ref_any w take ao n cap L ha hs hn4
  obtain ⟨ht, hl⟩ := refR_pos h
  have hok := (lref_ok hl).2
  rw [h] at hr
  clear h
  go_enter Try.func11, Try.ntmps11
  go_wp2_with fail
  refine hr.mono ?_
  rintro e w1 ⟨rfl, hg1⟩
  go_wp2_with fail
  refine (taken_any _ take ao n cap L (ha.grown hg1) hok ht hn4).mono ?_
  rintro e w2 ⟨⟨k, rfl, hk⟩, hg2⟩
  go_wp2
  go_ret2
  exact ⟨⟨k, rfl, hk⟩, grown_trans hg1 hg2 (by simp)⟩

set_option maxRecDepth 100000 in
theorem plan_no (w : World) (take : Int) (ao : Option Addr) (n cap : Nat) (L : List Rl) (ha : Ls w ao n cap L) (hs : ∀ x ∈ L, x.n ≤ 4096) (hn4 : n ≤ 4096) (h : refR take L ≠ 0) :
    Calls Try.prog 12 #[.int .i64 take, .slice ao n cap] w fun e w' => e = .returned (.tuple #[.slice none 0 0, .int .i64 (refR take L)]) ∧ w.grownBy w' none := by
  have hr := ref_any w take ao n cap L ha hs hn4
  generalize refR take L = R at *
  have hd : (R != 0) = true := by simpa using h
  go_enter Try.func12, Try.ntmps12
  go_wp2_with fail
  refine hr.mono ?_
  rintro e w1 ⟨rfl, hg1⟩
  go_wp2
  go_ret2
  exact ⟨rfl, hg1⟩

/-- What Plan answers. -/
def PlnE (w0 : World) (take : Int) (L : List Rl) (e : Ending) (w' : World) : Prop := ∃ (ps : List Nat) (po : Option Addr) (pc : Nat), e = .returned (.tuple #[.slice po ps.length pc, .int .i64 0]) ∧ Pn take L ps ∧ Vo w' w0.heap.size 3 po ps.length pc (ps.map iv)

set_option maxRecDepth 100000 in
set_option maxHeartbeats 2000000 in
theorem plan_ok (w : World) (take : Int) (ao : Option Addr) (n cap : Nat) (L : List Rl) (ha : Ls w ao n cap L) (hs : ∀ x ∈ L, x.n ≤ 4096) (hn4 : n ≤ 4096) (h : refR take L = 0) :
    Calls Try.prog 12 #[.int .i64 take, .slice ao n cap] w fun e w' => PlnE w take L e w' ∧ w.grownBy w' none := by
  have hr := ref_any w take ao n cap L ha hs hn4
  obtain ⟨ht, hl⟩ := refR_pos h
  have hok := (lref_ok hl).2
  have hlen := ha.len
  rw [h] at hr
  clear h hl
  go_enter Try.func12, Try.ntmps12
  go_wp2_with fail
  refine hr.mono ?_
  rintro e w1 ⟨rfl, hg1⟩
  clear hr
  go_wp2_with fail
  go_loopw [1, 7, 8] (fun l' p' _ wr => ∃ (xo : Option Addr) (m c p : Nat) (ps : List Nat) (po : Option Addr) (pn pc : Nat), l' = .slice xo m c ∧ p' = .slice po pn pc ∧ ps.length = pn ∧ p + m = n ∧ pn ≤ p ∧ Ls w xo m c (L.drop p) ∧ Vo wr w.heap.size 3 po pn pc (ps.map iv) ∧ Hid (∀ qs, Pn take (L.drop p) qs → Pn take L (ps ++ qs)) ∧ w.grownBy wr none) (fun l' _ _ _ => lenV l')
  case atStart => exact ⟨ao, n, cap, 0, [], none, 0, 0, rfl, rfl, rfl, by omega, Nat.le_refl _, by simpa using ha, Vo.nil _ _ _, (fun qs hq => by simpa using hq), hg1⟩
  case round =>
    obtain ⟨xo, m, c, p, ps, po, pn, pc, rfl, rfl, hpn, hpm, hpp, hL, hv, hP, hg⟩ := hrel
    have hok2 : ∀ x ∈ L.drop p, (fitsR x.l).2 = 0 := fun x hx => hok x (List.mem_of_mem_drop hx)
    by_cases hm : 0 < m
    · have hd : decide ((0 : Int) < (m : Int)) = true := by simpa using hm
      have hne : L.drop p ≠ [] := fun e => by have := hL.len; rw [e] at this; simp at this; omega
      go_wp2_with fail
      refine (taken_any _ take xo m c (L.drop p) (hL.grown hg) hok2 ht (by omega)).mono ?_
      rintro e w2 ⟨⟨k, rfl, hk⟩, hg2⟩
      have hkm : k ≤ m := by have := hk.le; have := hL.len; omega
      have hk1 := hk.pos hne
      have hG2 := grown_trans hg hg2 (by simp)
      have hv2 := hv.grown hg2
      have hP2 : Hid (∀ qs, Pn take (L.drop (p + k)) qs → Pn take L ((ps ++ [k]) ++ qs)) := fun qs hq => by
        rw [List.append_assoc]
        exact hP.out _ (.cons hne hk (by rw [List.drop_drop]; exact hq))
      clear hP hok2 hv hg2 hk hg
      have hga := alloc_grown w2 (.cells #[.int .i64 (k : Int)] 3)
      have hvx := Vs.one1 w2 (.int .i64 (k : Int)) 3 rfl
      go_wp2_with (at_builtin; refine wpList_append_vs _ rfl (.tmp 21) (.tmp 23) 29 rfl w.heap.size 3 (.int .i64 0) 8 Try.underlying29 Try.info3 rfl (by decide) rfl (hv2.grown hga) rfl hvx (by omega) (Nat.le_trans hG2.size hga.size) ?_)
      intro po' pc' w3 hv3 hg3
      have hG3 : w.grownBy w3 none := grown_trans (grown_trans hG2 hga (by simp)) hg3 (fun k hk => Or.inr (hv2.from_base k hk).1)
      clear hv2 hga hvx hg3
      go_wp2_with (refine wpList_rest _ rfl (.tmp 25) (.tmp 26) 22 rfl 32 Try.underlying22 Try.size32 rfl hL.vs.room hL.plain k rfl rfl hkm ?_)
      intro xo' c' hxv hxp
      have hL4 : Ls w xo' (m - k) c' (L.drop (p + k)) := by
        have h9 := hL.part (hxv _ _ hL.vs) hxp
        have h8 := hL.len
        rwa [List.drop_drop, List.take_of_length_le (by simp at h8 ⊢; omega)] at h9
      go_wp2
      go_roundw
      case rel => exact ⟨xo', m - k, c', p + k, ps ++ [k], po', pn + 1, pc', rfl, rfl, by simp [hpn], by omega, by omega, hL4, by rw [List.map_append]; exact hv3, hP2, hG3⟩
      case measure => simp [lenV]; omega
    · obtain rfl : m = 0 := by omega
      have hE : L.drop p = [] := List.eq_nil_of_length_eq_zero hL.len
      have hPn : Hid (Pn take L ps) := by
        have h9 := hP.out [] (by rw [hE]; exact .nil)
        rwa [List.append_nil] at h9
      go_wp2
      go_ret2
      exact ⟨⟨ps, po, pc, by rw [hpn]; rfl, hPn.out, by rw [hpn]; exact hv⟩, hg⟩
end Go.Proofs.Ytkcgpjmjaedlbaa
