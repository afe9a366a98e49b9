/-
  queue: a queue of calls, in memory of its own.
-/
import Derived.Test.YtkcgpjmjaedlbaaR1
namespace Go.Proofs.Ytkcgpjmjaedlbaa
open Go.RowKit
set_option linter.unusedVariables false
theorem Vc.five {w : World} {b o n cap : Nat} {l : List Cl} (h : Vc w (some ⟨b, o, none⟩) n cap l) {j : Nat} {c : Cl} (hc : l[j]? = some c) :
    w.cell? ⟨b, o + j * 5, none⟩ = some (.int .i64 c.k) ∧ w.cell? ⟨b, o + j * 5 + 1, none⟩ = some (.int .i64 c.p) ∧ w.cell? ⟨b, o + j * 5 + 2, none⟩ = some (.slice c.y.o c.y.n c.y.c) ∧ w.cell? ⟨b, o + j * 5 + 3, none⟩ = some (.int .i64 c.b) ∧ w.cell? ⟨b, o + j * 5 + 4, none⟩ = some (.int .i64 c.i) := by
  have e := fun i hi => ccells_get hc i hi
  have e0 := e 0 (by decide)
  rw [Nat.add_zero] at e0
  exact ⟨h.at e0, h.at (e 1 (by decide)), h.at (e 2 (by decide)), h.at (e 3 (by decide)), h.at (e 4 (by decide))⟩
/-- One call in a row of its own. -/
theorem Vc.one (w : World) (c : Cl) (e : TypeId) : Vc (w.alloc (.cells #[.int .i64 c.k, .int .i64 c.p, .slice c.y.o c.y.n c.y.c, .int .i64 c.b, .int .i64 c.i] e)) (some ⟨w.heap.size, 0, none⟩) 1 1 [c] :=
  ⟨rfl, Nat.le_refl _, by unfold maxLen; omega, fun h => (by cases h), fun a ha j u hu => by
    cases ha
    rw [Addr.add_lit, Nat.zero_add]
    refine cell_of (heap_alloc_new w _) ?_
    have h9 : ccells [c] = c.cells := by simp [ccells]
    rw [h9] at hu
    simpa [Cl.cells] using hu⟩
namespace Rq
set_option maxRecDepth 100000 in
set_option maxHeartbeats 4000000 in
theorem queue_any (w : World) (ao : Option Addr) (n cap : Nat) (l : List Cl) (hv : Vc w ao n cap l) (hp : Plain ao) (hr : ∀ c ∈ l, Rs w c.y.o c.y.n c.y.c c.y.l) (hn : n ≤ 256) (hs : ∀ c ∈ l, c.y.n ≤ 4096) :
    Calls Try.prog 27 #[.slice ao n cap] w fun e w' => ∃ b g qs, e = .returned (.pointer (some ⟨b, 0, none⟩)) ∧ Rg w' b g 256 0 qs ∧ Als qs l ∧ (∀ c ∈ qs, Aq w' (two b g) c.y) ∧ w.heap.size ≤ b ∧ w.heap.size ≤ g ∧ w.grownBy w' none := by
  have hlen := hv.len
  go_enter Try.func27, Try.ntmps27
  go_wp2_with fail
  refine (new_any _ 256 (by decide) (by decide)).mono ?_
  rintro e w1 ⟨b, g, rfl, hrg, hb, hg, hg1⟩
  have hbl := hrg.lt
  have hgl := hrg.glt
  go_wp2_with fail
  refine (num_any _ 0).mono ?_
  rintro e w1 ⟨rfl, rfl⟩
  go_wp2_with fail
  go_loopw [5, 6] (fun i' _ wr => ∃ (i : Nat) (qs : List Cl), i ≤ n ∧ i' = .int .i64 i ∧ Rg wr b g 256 0 qs ∧ Als qs (l.take i) ∧ (∀ c ∈ qs, Aq wr (two b g) c.y) ∧ w.grownBy wr none) (fun i' _ _ => n - (intOf i').toNat)
  case atStart => exact ⟨0, [], Nat.zero_le _, rfl, hrg, ⟨rfl, fun j c d hc => (by simp at hc)⟩, fun c hc => (by cases hc), hg1⟩
  case round =>
    obtain ⟨i, qs, hi, rfl, hq, hals, haq, hgr⟩ := hrel
    by_cases hlt : i < n
    · have hd : decide ((i : Int) < (n : Int)) = true := by simp; omega
      have h1 : i < l.length := by omega
      obtain ⟨xb, xo, rfl, hxl⟩ := hv.addr (by omega)
      have hu := List.getElem?_eq_getElem h1
      have hrs := (hr _ (List.getElem_mem h1)).grown hgr
      have hxn := hs _ (List.getElem_mem h1)
      have htk : Hid (l.take (i + 1) = l.take i ++ [l[i]]) := List.take_succ_eq_append_getElem h1
      have hql : qs.length = i := by have := hals.1; simp at this; omega
      generalize l[i] = u at *
      obtain ⟨u0, u1, u2, u3, u4⟩ := (hv.grown hgr).five hu
      have i1 : (0 : Int) ≤ (i : Int) := by omega
      have i2 : (i : Int) < (n : Int) := by omega
      clear hu
      have ga := alloc_grown wr (.cells #[.int .i64 u.k, .int .i64 u.p, .slice u.y.o u.y.n u.y.c, .int .i64 u.b, .int .i64 u.i] 55)
      have hrb := hq.lt
      have hrgl := hq.glt
      go_wp2_with fail
      refine (rcopy_any _ u.y.o u.y.n u.y.c u.y.l (hrs.grown ga) (by omega) (fun r hr => ⟨(hrs.shows r hr).kb, (hrs.shows r hr).vb⟩)).mono ?_
      rintro e w2 ⟨ro, rc, rs, rfl, hR, hDs, hA, hg2⟩
      have kC := heap_kept hg2 (heap_alloc_new wr (.cells #[.int .i64 u.k, .int .i64 u.p, .slice u.y.o u.y.n u.y.c, .int .i64 u.b, .int .i64 u.i] 55)) (by simp)
      have c0 := cell_of (i := 0) (v := .int .i64 u.k) kC rfl
      have c1 := cell_of (i := 1) (v := .int .i64 u.p) kC rfl
      have c2 := cell_of (i := 2) (v := .slice u.y.o u.y.n u.y.c) kC rfl
      have c3 := cell_of (i := 3) (v := .int .i64 u.b) kC rfl
      have c4 := cell_of (i := 4) (v := .int .i64 u.i) kC rfl
      have cf := frozen_of kC
      have hsz : (w2.setCell ⟨wr.heap.size, 2, none⟩ (.slice ro u.y.n rc)).heap.size = w2.heap.size := by simp
      have hvc := Vc.one (w2.setCell ⟨wr.heap.size, 2, none⟩ (.slice ro u.y.n rc)) ⟨u.k, u.p, ⟨ro, u.y.n, rc, rs⟩, u.b, u.i⟩ 55
      rw [hsz] at hvc
      have gs2 := ga.size
      have gs3 := hg2.size
      have hcW := setCell_chg w2 wr.heap.size 2 (.slice ro u.y.n rc)
      have gb := alloc_grown (w2.setCell ⟨wr.heap.size, 2, none⟩ (.slice ro u.y.n rc)) (.cells #[.int .i64 u.k, .int .i64 u.p, .slice ro u.y.n rc, .int .i64 u.b, .int .i64 u.i] 55)
      have hAll : wr.grownBy ((w2.setCell ⟨wr.heap.size, 2, none⟩ (.slice ro u.y.n rc)).alloc (.cells #[.int .i64 u.k, .int .i64 u.p, .slice ro u.y.n rc, .int .i64 u.b, .int .i64 u.i] 55)) none :=
        ((((Chg.of_grown ga (fun k => k = wr.heap.size)).trans (Chg.of_grown hg2 _)).trans hcW).trans (Chg.of_grown gb _)).grown (fun k hk e => by omega)
      have hbase : (wr.alloc (.cells #[.int .i64 u.k, .int .i64 u.p, .slice u.y.o u.y.n u.y.c, .int .i64 u.b, .int .i64 u.i] 55)).heap.size = wr.heap.size + 1 := by simp
      have hnew : Aq w2 (fun k => two b g k ∨ k = wr.heap.size) ⟨ro, u.y.n, rc, rs⟩ := Aq.away hR hA (fun k hk => by
        rw [hbase]
        rcases hk with (e | e) | e <;> omega)
      have hnewX : Aq ((w2.setCell ⟨wr.heap.size, 2, none⟩ (.slice ro u.y.n rc)).alloc (.cells #[.int .i64 u.k, .int .i64 u.p, .slice ro u.y.n rc, .int .i64 u.b, .int .i64 u.i] 55)) (two b g) ⟨ro, u.y.n, rc, rs⟩ :=
        hnew.step ((hcW.mono (fun k _ e => Or.inr e)).trans (Chg.of_grown gb _)) (fun k _ e => Or.inl e)
      have hqX := hq.grown hAll
      have haqX := fun c hc => (haq c hc).grown hAll
      have hal1 : Als (qs ++ [(⟨u.k, u.p, ⟨ro, u.y.n, rc, rs⟩, u.b, u.i⟩ : Cl)]) (l.take (i + 1)) := by
        rw [htk.out]
        exact hals.snoc ⟨rfl, rfl, rfl, rfl, rfl, hDs⟩
      have hgX := grown_trans hgr hAll (by simp)
      have hput := put_any _ b g 256 0 1 1 (some ⟨w2.heap.size, 0, none⟩) qs _ hqX hvc (by omega) (fun a ha e => by cases ha; simp at e; omega) (Or.inr ⟨_, _, rfl⟩)
      clear hR hA hnew hAll hvc gb hcW hsz hbase hq haq hals hrs hDs
      go_wp2_with fail
      refine hput.mono ?_
      rintro e w3 ⟨rfl, hq3, hc3⟩
      have haq3 : ∀ c ∈ qs ++ [(⟨u.k, u.p, ⟨ro, u.y.n, rc, rs⟩, u.b, u.i⟩ : Cl)], Aq w3 (two b g) c.y := fun c hc => by
        rcases List.mem_append.1 hc with hc | hc
        · exact (haqX c hc).chg hc3
        · obtain rfl : c = _ := by simpa using hc
          exact hnewX.chg hc3
      have hg3 : w.grownBy w3 none := ((Chg.of_grown hgX _).trans hc3).grown (fun k hk e => by rcases e with e | e <;> omega)
      clear hput hqX haqX hnewX hc3 hgX c0 c1 c2 c3 c4 cf kC hg2 ga
      go_wp2_with fail
      refine (num_any _ 0).mono ?_
      rintro e w3 ⟨rfl, rfl⟩
      go_wp2
      go_roundw
      case rel => exact ⟨i + 1, _, by omega, by go_num, hq3, hal1, haq3, hg3⟩
      case measure => simp [intOf]; omega
    · obtain rfl : i = n := by omega
      have hd : decide ((i : Int) < (i : Int)) = false := by simp
      go_wp2
      go_ret
      refine ⟨b, g, qs, rfl, hq, ?_, haq, hb, hg, hgr⟩
      rw [List.take_of_length_le (by omega)] at hals
      exact hals
end Rq
end Go.Proofs.Ytkcgpjmjaedlbaa
