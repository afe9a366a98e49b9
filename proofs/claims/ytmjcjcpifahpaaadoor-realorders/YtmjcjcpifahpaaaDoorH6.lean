/-
  Known rows: the walk of works.
-/
import Derived.Test.YtmjcjcpifahpaaaDoorH5
import Derived.Test.YtmjcjcpifahpaaaDoorG5
import Derived.Test.YtmjcjcpifahpaaaDoorG4
namespace Go.Proofs.YtmjcjcpifahpaaaDoor
open Go.RowKit Go.Shelf Go.Sort Go.Lib
set_option linter.unusedVariables false

theorem num_any' (w : World) (z : Int) : Calls Tryd.prog 21 #[.int .i64 z] w fun e w' => e = .returned (.int .i64 z) ∧ w' = w := by
  go_enter Tryd.func21, Tryd.ntmps21
  go_wp2
  go_ret
  exact ⟨rfl, rfl⟩

theorem Fs.new (w : World) (l : List Fl) (e : TypeId) (h : l.length ≤ maxLen) : Fs (w.alloc (.cells (l.map fv).toArray e)) (some ⟨w.heap.size, 0, none⟩) l.length l.length l := by
  refine ⟨rfl, Nat.le_refl _, h, (by simp), fun a ha j u hu => ?_⟩
  obtain rfl := Option.some.inj ha
  rw [Addr.add_lit, World.cell?_alloc_new, Nat.zero_add]
  simpa using hu

def f1 : Fl := Fl.of 4607182418800017408
def f2 : Fl := Fl.of 4611686018427387904
def f3 : Fl := Fl.of 4613937818241073152
theorem pl1 : pl f1 = 13830554455654793216 := by decide +kernel
theorem pl2 : pl f2 = 13835058055282163712 := by decide +kernel
theorem pl3 : pl f3 = 13837309855095848960 := by decide +kernel

theorem three_sorted {l : List Fl} (hp : l.Perm [f3, f1, f2]) (hs : Srt l) : l = [f1, f2, f3] := by
  have hl : l.length = 3 := hp.length_eq
  match l, hl with
  | [a, b, c], _ =>
    have n13 : f1 ≠ f3 := fun e => by have := pl1; rw [e, pl3] at this; omega
    have n12 : f1 ≠ f2 := fun e => by have := pl1; rw [e, pl2] at this; omega
    have n23 : f2 ≠ f3 := fun e => by have := pl2; rw [e, pl3] at this; omega
    have hn : [f3, f1, f2].Nodup := by simp [n12, n13.symm, n23.symm]
    have hnd : [a, b, c].Nodup := hp.nodup_iff.2 hn
    have ha : a ∈ [f3, f1, f2] := hp.mem_iff.1 (by simp)
    have hb : b ∈ [f3, f1, f2] := hp.mem_iff.1 (by simp)
    have hc : c ∈ [f3, f1, f2] := hp.mem_iff.1 (by simp)
    simp only [List.mem_cons, List.not_mem_nil, or_false] at ha hb hc
    unfold Srt at hs
    simp only [List.pairwise_cons, List.mem_cons, List.not_mem_nil, or_false, forall_eq_or_imp, forall_eq] at hs
    obtain ⟨⟨h1, h2⟩, h3, _⟩ := hs
    simp only [List.nodup_cons, List.mem_cons, List.not_mem_nil, or_false, not_or] at hnd
    obtain ⟨⟨k1, k2⟩, k3, _⟩ := hnd
    rcases ha with rfl | rfl | rfl <;> rcases hb with rfl | rfl | rfl <;> rcases hc with rfl | rfl | rfl <;> first | rfl | exact absurd rfl k1 | exact absurd rfl k2 | exact absurd rfl k3 | (simp only [pl1, pl2, pl3] at h1 h2 h3; omega)

theorem key_one : kyl (plc 4607182418800017408) = [191, 240, 0, 0, 0, 0, 0, 0] := by decide +kernel
theorem read_3p1 : rdf [51, 112, 49] = some 4618441417868443648 := by decide +kernel
theorem text_34 : txt 4604930618986332160 = [51, 112, 45, 50] := (txt_rdf (by decide +kernel : rdf [51, 112, 45, 50] = some 4604930618986332160)).2
theorem eq_1 : (FloatKind.f64.format.order 4607182418800017408 4607182418800017408 == some .eq) = true := by decide +kernel
theorem eq_3 : (FloatKind.f64.format.order 4613937818241073152 4613937818241073152 == some .eq) = true := by decide +kernel
theorem eq_6 : (FloatKind.f64.format.order 4618441417868443648 4618441417868443648 == some .eq) = true := by decide +kernel
theorem tab_key : tab (nth [191, 240, 0, 0, 0, 0, 0, 0]) 8 = #[.int .u8 191, .int .u8 240, .int .u8 0, .int .u8 0, .int .u8 0, .int .u8 0, .int .u8 0, .int .u8 0] := rfl
end Go.Proofs.YtmjcjcpifahpaaaDoor
