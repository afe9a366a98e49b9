/-
  What a pointer that is swapped points to; told, copied, same.
-/
import Derived.Test.YtaijgfblceakaaaA2
import Derived.Deep.DeepCutAuto
namespace Go.Proofs.Ytaijgfblceakaaa
open Go.RowKit
set_option linter.unusedVariables false

def iv (x : Int) : Value := .int .i64 x
theorem iv_one (l : List Int) : ∀ u ∈ l.map iv, u.oneCell' = true := by
  intro u hu
  obtain ⟨b, _, rfl⟩ := List.mem_map.1 hu
  rfl
/-- A row of one block: this is its one cell. -/
structure Bx (w : World) (b : Nat) (t : TypeId) (v : Value) : Prop where
  cell : w.heap[b]? = some (.cells #[v] t)
theorem Bx.at {w : World} {b : Nat} {t : TypeId} {v : Value} (h : Bx w b t v) : w.cell? ⟨b, 0, none⟩ = some v := cell_of h.cell rfl
theorem Bx.free {w : World} {b : Nat} {t : TypeId} {v : Value} (h : Bx w b t v) : w.frozen? ⟨b, 0, none⟩ = false := by simp [World.frozen?, h.cell]
theorem Bx.chg {w w' : World} {b : Nat} {t : TypeId} {v : Value} {S : Nat → Prop} (h : Bx w b t v) (hc : Chg w w' S) (hn : ¬ S b) : Bx w' b t v := ⟨by rw [hc.block b (lt_of_heap h.cell) hn]; exact h.cell⟩
theorem Bx.grown {w w' : World} {b : Nat} {t : TypeId} {v : Value} (h : Bx w b t v) (hg : w.grownBy w' none) : Bx w' b t v := h.chg (Chg.of_grown hg (fun _ => False)) (fun e => e)
theorem Bx.set {w : World} {b : Nat} {t : TypeId} {v : Value} (h : Bx w b t v) (y : Value) : Bx (w.setCell ⟨b, 0, none⟩ y) b t y := by
  refine ⟨?_⟩
  rw [setCell_eq_setRow w b 0 _ t (0, 0) y h.cell]
  exact setRow_heap w b _ _ t _ h.cell
theorem Bx.new (w : World) (v : Value) (t : TypeId) : Bx (w.alloc (.cells #[v] t)) w.heap.size t v := ⟨heap_alloc_new w _⟩
theorem Bx.lt {w : World} {b : Nat} {t : TypeId} {v : Value} (h : Bx w b t v) : b < w.heap.size := lt_of_heap h.cell

/-- A list that a board points to: its block, its version, the row of its numbers. -/
structure Ml (w : World) (q g : Nat) (ver : Int) (n : Nat) (l : List Int) : Prop where
  cell : w.heap[q]? = some (.cells #[.int .i64 ver, .slice (some ⟨g, 0, none⟩) n n] 71)
  row : Ro w g 2 (l.map iv)
  len : l.length = n
  top : n ≤ 5000
theorem Ml.chg {w w' : World} {q g n : Nat} {ver : Int} {l : List Int} {S : Nat → Prop} (h : Ml w q g ver n l) (hc : Chg w w' S) (h1 : ¬ S q) (h2 : ¬ S g) : Ml w' q g ver n l :=
  ⟨by rw [hc.block q (lt_of_heap h.cell) h1]; exact h.cell, h.row.chg hc h2, h.len, h.top⟩
theorem Ml.grown {w w' : World} {q g n : Nat} {ver : Int} {l : List Int} (h : Ml w q g ver n l) (hg : w.grownBy w' none) : Ml w' q g ver n l := h.chg (Chg.of_grown hg (fun _ => False)) (fun e => e) (fun e => e)
theorem Ml.c0 {w : World} {q g n : Nat} {ver : Int} {l : List Int} (h : Ml w q g ver n l) : w.cell? ⟨q, 0, none⟩ = some (.int .i64 ver) := cell_of h.cell rfl
theorem Ml.c1 {w : World} {q g n : Nat} {ver : Int} {l : List Int} (h : Ml w q g ver n l) : w.cell? ⟨q, 1, none⟩ = some (.slice (some ⟨g, 0, none⟩) n n) := cell_of h.cell rfl
theorem Ml.shows {w : World} {q g n : Nat} {ver : Int} {l : List Int} (h : Ml w q g ver n l) : Vs w (some ⟨g, 0, none⟩) n n (l.map iv) := by
  have := h.row.shows (iv_one l) (by simp [h.len]; have := h.top; unfold maxLen; omega)
  simpa [h.len] using this

set_option maxRecDepth 100000 in
theorem pload_some (w : World) (b q g n : Nat) (ver : Int) (l : List Int) (hb : Bx w b 53 (.pointer (some ⟨q, 0, none⟩))) (hq : Ml w q g ver n l) :
    Calls Try.prog 29 #[.pointer (some ⟨b, 0, none⟩)] w fun e w' => e = .returned (.pointer (some ⟨q, 0, none⟩)) ∧ w' = w := by
  have hs := run_call_loadp (P := Try.prog) Try.func47 (by kernel_rfl) (by kernel_rfl) (by kernel_rfl) (by kernel_rfl) hb.at
  have hv := run_convert_from_unsafe (P := Try.prog) (src := 49) (dst := 47) Try.underlying49 Try.underlying47 hq.cell (by kernel_rfl) (by kernel_rfl)
  clear hb hq
  go_enter Try.func29, Try.ntmps29
  go_wp2
  go_ret
  exact ⟨rfl, rfl⟩

set_option maxRecDepth 100000 in
theorem pload_none (w : World) (b : Nat) (hb : Bx w b 53 (.pointer none)) :
    Calls Try.prog 29 #[.pointer (some ⟨b, 0, none⟩)] w fun e w' => e = .returned (.pointer none) ∧ w' = w := by
  have hs := run_call_loadp (P := Try.prog) Try.func47 (by kernel_rfl) (by kernel_rfl) (by kernel_rfl) (by kernel_rfl) hb.at
  have hv := run_convert_from_unsafe_nil (P := Try.prog) (src := 49) (dst := 47) Try.underlying49 Try.underlying47 w
  clear hb
  go_enter Try.func29, Try.ntmps29
  go_wp2
  go_ret
  exact ⟨rfl, rfl⟩

set_option maxRecDepth 100000 in
theorem pcas_some (w : World) (b q p : Nat) (u v : Value) (hb : Bx w b 53 (.pointer (some ⟨q, 0, none⟩))) (hq : w.cell? ⟨q, 0, none⟩ = some u) (hp : w.cell? ⟨p, 0, none⟩ = some v) :
    Calls Try.prog 46 #[.pointer (some ⟨b, 0, none⟩), .pointer (some ⟨q, 0, none⟩), .pointer (some ⟨p, 0, none⟩)] w fun e w' => e = .returned (.bool true) ∧ w' = w.setCell ⟨b, 0, none⟩ (.pointer (some ⟨p, 0, none⟩)) := by
  have hs := run_call_casp (P := Try.prog) Try.func53 (by kernel_rfl) (by kernel_rfl) (by kernel_rfl) (by kernel_rfl) (y := some ⟨p, 0, none⟩) hb.at hb.free
  have h1 := run_convert_to_unsafe (P := Try.prog) (src := 47) (dst := 49) Try.underlying47 Try.underlying49 (by kernel_rfl) hq
  have h2 := run_convert_to_unsafe (P := Try.prog) (src := 47) (dst := 49) Try.underlying47 Try.underlying49 (by kernel_rfl) hp
  clear hb hq hp
  go_enter Try.func46, Try.ntmps46
  go_wp2
  go_ret
  exact ⟨rfl, rfl⟩

set_option maxRecDepth 100000 in
theorem pcas_none (w : World) (b p : Nat) (v : Value) (hb : Bx w b 53 (.pointer none)) (hp : w.cell? ⟨p, 0, none⟩ = some v) :
    Calls Try.prog 46 #[.pointer (some ⟨b, 0, none⟩), .pointer none, .pointer (some ⟨p, 0, none⟩)] w fun e w' => e = .returned (.bool true) ∧ w' = w.setCell ⟨b, 0, none⟩ (.pointer (some ⟨p, 0, none⟩)) := by
  have hs := run_call_casp (P := Try.prog) Try.func53 (by kernel_rfl) (by kernel_rfl) (by kernel_rfl) (by kernel_rfl) (y := some ⟨p, 0, none⟩) hb.at hb.free
  have h1 := run_convert_to_unsafe_nil (P := Try.prog) (src := 47) (dst := 49) Try.underlying47 Try.underlying49 w
  have h2 := run_convert_to_unsafe (P := Try.prog) (src := 47) (dst := 49) Try.underlying47 Try.underlying49 (by kernel_rfl) hp
  clear hb hp
  go_enter Try.func46, Try.ntmps46
  go_wp2
  go_ret
  exact ⟨rfl, rfl⟩

theorem info2o : (Try.prog.info? 2).map (fun i => (i.zero, i.size, i.bytes)) = some (some (.int .i64 0), 1, 8) := by kernel_rfl
theorem size2o : (Try.prog.info? 2).map (·.size) = some 1 := by kernel_rfl

set_option maxRecDepth 100000 in
theorem told_some (w : World) (q g n : Nat) (ver : Int) (l : List Int) (hq : Ml w q g ver n l) :
    Calls Try.prog 28 #[.pointer (some ⟨q, 0, none⟩)] w fun e w' => e = .returned (.agg #[.int .i64 ver, .slice (some ⟨g, 0, none⟩) n n]) ∧ w.grownBy w' none := by
  have hlt := lt_of_heap hq.cell
  have c0 := (hq.grown (alloc_grown w (.cells #[.int .i64 0, .slice none 0 0] 71))).c0
  have c1 := (hq.grown (alloc_grown w (.cells #[.int .i64 0, .slice none 0 0] 71))).c1
  clear hq
  go_enter Try.func28, Try.ntmps28
  go_wp2
  exact bodyPost_ret (v := .agg #[.int .i64 ver, .slice (some ⟨g, 0, none⟩) n n]) (by simp [results, Try.results28, go_sem]) rfl ⟨rfl, by simp [World.grownBy_alloc]⟩

set_option maxRecDepth 100000 in
theorem told_none (w : World) : Calls Try.prog 28 #[.pointer none] w fun e w' => e = .returned (.agg #[.int .i64 0, .slice none 0 0]) ∧ w.grownBy w' none := by
  go_enter Try.func28, Try.ntmps28
  go_wp2
  exact bodyPost_ret (v := .agg #[.int .i64 0, .slice none 0 0]) (by simp [results, Try.results28, go_sem]) rfl ⟨rfl, by simp [World.grownBy_alloc]⟩

set_option maxRecDepth 100000 in
theorem copied_any (w : World) (ao : Option Addr) (n cap : Nat) (l : List Int) (h : Vs w ao n cap (l.map iv)) (hn : n ≤ 5000) :
    Calls Try.prog 25 #[.slice ao n cap] w fun e w' => ∃ g, e = .returned (.slice (some ⟨g, 0, none⟩) n n) ∧ Ro w' g 2 (l.map iv) ∧ w.grownBy w' none ∧ w.heap.size ≤ g := by
  have hlen : l.length = n := by simpa using h.len
  have HX : Hid ((l.map iv).length = n) := by show _ = _; simp [hlen]
  have hs : splice (List.replicate n (Value.int .i64 0)) 0 (l.map iv) = l.map iv := by simp [splice, hlen]
  have HS : Hid (splice (List.replicate n (Value.int .i64 0)) 0 (l.map iv) = l.map iv) := hs
  clear hs hlen
  have h1 := iv_one l
  generalize l.map iv = X at *
  go_enter Try.func25, Try.ntmps25
  go_wp2_with (at_make; refine wpList_make_ro _ rfl _ _ 22 rfl 2 (.int .i64 0) 8 Try.underlying22 info2o rfl (by decide) n rfl rfl rfl rfl hn ?_)
  intro w1 hr hg hlt
  have h2 := h.grown hg
  obtain ⟨g, hgz⟩ : ∃ g, w.heap.size = g := ⟨_, rfl⟩
  rw [hgz] at hr hlt ⊢
  have hpos : ∀ hp : 0 < X.length, (some (⟨g, 0, none⟩ : Addr) : Option Addr) = some ⟨g, 0, none⟩ ∧ ∃ ad, ao = some ad ∧ ∀ j v, X[j]? = some v → w1.cell? (ad.add j) = some v := by
    intro hp
    refine ⟨rfl, ?_⟩
    cases ao with
    | none => have := h2.nil rfl; have := h2.room; have := HX.out; omega
    | some ad => exact ⟨ad, rfl, fun j v hv => h2.cells ad rfl j v hv⟩
  go_wp2_with (refine wpList_copy_ro _ rfl (.tmp 7) (.tmp 8) 22 rfl 2 Try.underlying22 size2o rfl rfl g 0 _ hr X (by rw [HX.out]; exact (Nat.min_self _).symm) hpos (by rw [HX.out]; simp) h1 ?_)
  intro w2 hr2 hc2 hs2
  rw [HS.out] at hr2
  go_wp2
  go_ret
  exact ⟨g, rfl, hr2, Chg.grown ((Chg.of_grown hg _).trans hc2) (fun k hk e => by omega), by omega⟩
end Go.Proofs.Ytaijgfblceakaaa
