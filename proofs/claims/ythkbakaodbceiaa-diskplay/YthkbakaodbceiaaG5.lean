/-
  The law's example: one file, written, synced in part, and a crash.
-/
import Derived.Test.YthkbakaodbceiaaG4
import Derived.Test.YthkbakaodbceiaaAd
import Derived.Lib.SlBytesConst
namespace Go.Proofs.Ythkbakaodbceiaa
open Go.RowKit Go.Maps
set_option linter.unusedVariables false
set_option linter.unusedSectionVars false
variable [FO : Inhabited (Nat → Prop)]

theorem mp_of_heap {w : World} {m : Nat} (h : w.heap[m]? = some (.map #[] 0)) : Mp w m 0 (.map []) := by
  obtain ⟨es, clock, hb, rest⟩ := World.ownsMap_made (H := Unit) w Try.prog 9 fileElem
  rw [World.alloc_heap_new] at hb
  cases hb
  exact ⟨_, _, h, rest⟩
theorem new_ltr (w : World) : Calls Try.prog 10 #[.slice none 0 0] w fun e w' => ∃ b m, e = .returned (.tuple #[.pointer (some ⟨b, 0, none⟩), .int .i64 0]) ∧ Ds w' b m [] 0 0 (.map []) ∧ b < w'.heap.size ∧ w.heap.size ≤ b ∧ w.heap.size ≤ m ∧ w.grownBy w' none :=
  (new_none w).mono fun e w' q => ⟨_, _, q.1, ⟨⟨none, 0, 0, q.2.2.1, ⟨rfl, Nat.le_refl _, Nat.zero_le _, (fun a e => nomatch e), (fun _ => rfl), (fun b i e => nomatch e)⟩, (fun a e => nomatch e)⟩, mp_of_heap q.2.1⟩, q.2.2.1.lt, by omega, Nat.le_refl _, q.2.2.2⟩
theorem cell_of2 {w : World} {b i : Nat} {c : Array Value} {e : TypeId} {fr : Nat × Nat} {v : Value} (h : w.heap[b]? = some (.cells c e fr)) (hi : c[i]? = some v) : w.cell? ⟨b, i, none⟩ = some v := by simp [World.cell?, h, hi]
theorem bs_of {w : World} {b : Nat} {l : List UInt8} {e : TypeId} {m : Nat × Nat} {n : Nat} (h : w.heap[b]? = some (.cells (l.map bv).toArray e m)) (hn : l.length = n) (hs : n ≤ 1000) : Bs w (some ⟨b, 0, none⟩) n n l :=
  ⟨hn, Nat.le_refl _, by unfold maxLen; omega, fun e => (by cases e), fun a ha j u hu => by
    cases ha
    rw [Addr.add_lit, Nat.zero_add]
    exact cell_of2 h (by simpa using hu)⟩

theorem row_not_disk {w : World} {base b m : Nat} {fs : List (Int × Int)} {st : Int} {n : Nat} {D : DataW Unit} {bo : Option Addr} {k c : Nat} {l : List UInt8} (h : Ds w b m fs st n D) (ho : Ow w base 5 bo k c l) (hk : 0 < k) : blk bo ≠ some b := by
  obtain ⟨q, rfl, _, _⟩ := ho.addr hk
  intro e
  cases e
  obtain ⟨fo, fn, fc, hd⟩ := h.dk
  have h1 := hd.hd.c0
  have h2 := ho.shows.at (j := 0) (by rw [ho.len]; exact hk)
  rw [Nat.add_zero, h1] at h2
  cases h2

/-- The map with the one file. -/
abbrev dA (g : Nat) : DataW Unit := (DataW.map [] : DataW Unit).put (.string [97]) (.lit (.int .i64 g))
abbrev nA : ByteArray := ⟨#[97]⟩
theorem nA_ok : nameB nA = true := by decide
def tA : Td := ⟨nA, 5, 3, true, false⟩
def bA : List UInt8 := [120, 121, 122, 117, 118]
theorem keysA (g : Nat) : strKeys (dA g) = [[97]] := rfl
theorem crashA : (crashF [1, 1] 2 [tA]).1 nA = some 4 := by
  simp [crashF, crashS, tA, staysR, pickR]
section
variable {w w' : World} {b m g : Nat}
theorem append1 (base : Nat) (hbase : base ≤ w.heap.size) (hD : Ds w b m [] 1 1 (dA g)) (hF : Fl w g none 0 0 0 true false) (hne : g ≠ b) (x : Nat) (hx : Bs w (some ⟨x, 0, none⟩) 3 3 [120, 121, 122]) (hxb : x ≠ b) :
    Calls Try.prog 17 #[.pointer (some ⟨b, 0, none⟩), .string nA, .slice (some ⟨x, 0, none⟩) 3 3] w fun e w' => e = .returned (.int .i64 0) ∧ ∃ bo bc, Fl w' g bo 3 bc 0 true false ∧ Ow w' base 5 bo 3 bc [120, 121, 122] ∧ Ds w' b m [] 2 1 (dA g) ∧ Chg w w' (fun k => k = b ∨ k = g) :=
  (append_base nA g base hbase hD (by decide) (by decide) nA_ok (at_new nA g) hF hne [] (Ow.nil _ _ _) x 0 3 3 [120, 121, 122] hx hxb (by simp [blk]) (by simp [blk]) (by decide) 3 rfl (by decide)).mono
    fun e w' ⟨h1, bo, bc, h2, h3, h4, h5⟩ => ⟨h1, bo, bc, h2, h3, h4, h5.mono (fun k _ e => by rcases e with e | e | e; exact .inl e; exact .inr e; cases e)⟩
theorem sync1 {bo : Option Addr} {bc : Nat} (hD : Ds w b m [] 2 1 (dA g)) (hF : Fl w g bo 3 bc 0 true false) (hne : g ≠ b) :
    Calls Try.prog 19 #[.pointer (some ⟨b, 0, none⟩), .string nA] w fun e w' => e = .returned (.int .i64 0) ∧ Ds w' b m [] 3 1 (dA g) ∧ Fl w' g bo 3 bc 3 true false ∧ Chg w w' (fun k => k = b ∨ k = g) :=
  sync_at nA g hD (by decide) (by decide) nA_ok (at_new nA g) (la := 0) hF hne (by decide) (by decide) 3 rfl (by decide)
theorem append2 (base : Nat) (hbase : base ≤ w.heap.size) {bo : Option Addr} {bc : Nat} (hD : Ds w b m [] 3 1 (dA g)) (hF : Fl w g bo 3 bc 3 true false) (hne : g ≠ b) (ho : Ow w base 5 bo 3 bc [120, 121, 122]) (x : Nat) (hx : Bs w (some ⟨x, 0, none⟩) 2 2 [117, 118]) (hxb : x ≠ b) :
    Calls Try.prog 17 #[.pointer (some ⟨b, 0, none⟩), .string nA, .slice (some ⟨x, 0, none⟩) 2 2] w fun e w' => e = .returned (.int .i64 0) ∧ ∃ bo' bc', Fl w' g bo' 5 bc' 3 true false ∧ Ow w' base 5 bo' 5 bc' bA ∧ Ds w' b m [] 4 1 (dA g) ∧ Chg w w' (fun k => k = b ∨ k = g ∨ blk bo = some k) :=
  append_base nA g base hbase hD (by decide) (by decide) nA_ok (at_new nA g) hF hne [120, 121, 122] ho x 0 2 2 [117, 118] hx hxb (row_not_disk hD ho (by decide)) (fun e => (ho.ty g e).ne hF.ty (by decide) rfl) (by decide) 2 rfl (by decide)
theorem crash1 {base : Nat} {bo : Option Addr} {bc x : Nat} (hD : Ds w b m [] 4 1 (dA g)) (hF : Fl w g bo 5 bc 3 true false) (ho : Ow w base 5 bo 5 bc bA) (hx : w.heap[x]? = some (.cells #[.int .i64 1, .int .i64 1] 3)) :
    Calls Try.prog 33 #[.pointer (some ⟨b, 0, none⟩), .agg #[.slice (some ⟨x, 0, none⟩) 2 2]] w fun e w' => ∃ (nb nm n' : Nat) (D' : DataW Unit) (g' q c : Nat), e = .returned (.tuple #[.pointer (some ⟨nb, 0, none⟩), .int .i64 0]) ∧ Ds w' nb nm [] 0 n' D' ∧ at? D' nA (some g') ∧ Fl w' g' (some ⟨q, 0, none⟩) 4 c 4 true true ∧ Bs w' (some ⟨q, 0, none⟩) 4 c [120, 121, 122, 117] ∧ w.grownBy w' none := by
  have hIs : Is' w (some ⟨x, 0, none⟩) 2 2 [1, 1] := ⟨rfl, Nat.le_refl _, by decide, fun a e => ⟨x, 0, by cases e; rfl⟩, (fun e => nomatch e), fun b i e j y hy => by
    cases e
    rw [Nat.zero_add]
    match j, hy with
    | 0, hy => cases hy; exact cell_of2 hx rfl
    | 1, hy => cases hy; exact cell_of2 hx rfl⟩
  have hFB : FilesB w (dA g) (fun _ => tA) (fun _ => bA) := fun s hs => by
    rw [keysA] at hs
    obtain rfl : s = [97] := by simpa using hs
    refine ⟨rfl, by decide, ⟨3, rfl, by decide⟩, by decide, g, bo, bc, at_new nA g, hF, ho.shows, fun a e => ?_, fun q e => ho.ty q e⟩
    obtain ⟨q, h1, _⟩ := ho.addr (by decide)
    rw [h1] at e
    cases e
    exact ⟨q, 0, rfl⟩
  refine (crash_any hD (fun _ => tA) (fun _ => bA) hFB (show 1 ≤ 4096 by decide) (some ⟨x, 0, none⟩) 2 2 [1, 1] hIs (fun a e => by cases e; exact lt_of_heap hx) (by decide) (by decide)).mono ?_
  rintro e w' ⟨ss, nb, nm, n', base, D', hp, rfl, h1, h2, h3, _, _, _, _, h4⟩
  rw [keysA] at hp
  obtain rfl := List.perm_singleton.1 hp
  obtain ⟨g', bo', bc', _, k1, k2, k3⟩ := (h3.2 nA).2 4 (by simpa using crashA)
  obtain ⟨q, rfl, _⟩ := k3.addr (by decide)
  exact ⟨nb, nm, n', D', g', q, bc', rfl, h1, k1, k2, k3.shows, h4⟩
end
set_option maxRecDepth 100000 in
set_option maxHeartbeats 4000000 in
theorem known_any (w : World) : Calls Try.prog 9 #[] w fun e w' => e = .returned (.bool true) ∧ w.grownBy w' none := by
  have kc := fun (w : World) (C : Array Value) (n c : Nat) => Lib.run_convert_bytes_const (P := Try.prog) w 38 5 C n c Try.underlying38 Try.underlying5
  have hnm : nameB ⟨#[97]⟩ = true := by decide
  go_enter Try.func9, Try.ntmps9
  go_wp2_with fail
  refine (new_ltr w).mono ?_
  rintro e w1 ⟨b, m, rfl, hD1, hbl, hb0, hm0, hg1⟩
  have hcr : Calls Try.prog 15 #[.pointer (some ⟨b, 0, none⟩), .string nA] w1 fun e w' => e = .returned (.int .i64 0) ∧ ∃ g : Nat, w1.heap.size ≤ g ∧ Fl w' g none 0 0 0 true false ∧ Ds w' b m [] 1 1 (dA g) ∧ Chg w1 w' (fun k => k = b ∨ k = m) := create_ok nA hD1 (by decide) (by decide) hnm (at_none _) (by decide) (by decide) (by decide)
  have hml := hD1.mp.lt
  clear hD1 hnm
  go_wp2_with fail
  refine hcr.mono ?_
  clear hcr
  rintro e w2 ⟨rfl, g, hgl, hF2, hD2, hc2⟩
  have hs2 := hc2.size
  have hG2 : w.grownBy w2 none := ((Chg.of_grown hg1 _).trans hc2).grown (fun k hk e => by have := hg1.size; omega)
  have hne : g ≠ b := by omega
  have kc2 := kc w2 #[.int .u8 120, .int .u8 121, .int .u8 122] 3 3
  clear hc2 hg1
  go_wp2_with fail
  clear kc2
  have g3 := alloc_grown w2 (.cells #[.int .u8 120, .int .u8 121, .int .u8 122] 5 (3, 4))
  have k3 := World.alloc_heap_new w2 (.cells #[.int .u8 120, .int .u8 121, .int .u8 122] 5 (3, 4))
  have hb3 := bs_of (l := [120, 121, 122]) k3 rfl (by decide)
  generalize w2.alloc (.cells #[.int .u8 120, .int .u8 121, .int .u8 122] 5 (3, 4)) = w3 at *
  refine (append1 w.heap.size (Nat.le_trans hG2.size g3.size) (hD2.grown g3) (hF2.chg (Chg.of_grown g3 (fun _ => False)) (fun e => e)) hne w2.heap.size hb3 (by omega)).mono ?_
  rintro e w4 ⟨rfl, bo4, bc4, hF4, ho4, hD4, hc4⟩
  have hG3 : w.grownBy w3 none := grown_trans hG2 g3 (by simp)
  have hs3 := g3.size
  have hG4 : w.grownBy w4 none := ((Chg.of_grown hG3 _).trans hc4).grown (fun k hk e => by have := hG2.size; omega)
  have hs4 := hc4.size
  clear hb3 k3 g3 hF2 hD2 hc4 hG2 hG3
  go_wp2_with fail
  refine (sync1 hD4 hF4 hne).mono ?_
  rintro e w5 ⟨rfl, hD5, hF5, hc5⟩
  have hs5 := hc5.size
  have hG5 : w.grownBy w5 none := ((Chg.of_grown hG4 _).trans hc5).grown (fun k hk e => by omega)
  have ho5 := ho4.chg hc5 (fun k hk e => by
    rcases e with rfl | rfl
    · exact row_not_disk hD4 ho4 (by decide) hk
    · exact (ho4.ty _ hk).ne hF4.ty (by decide) rfl)
  clear hD4 hF4 hG4 hc5 ho4
  have kc5 := kc w5 #[.int .u8 117, .int .u8 118] 2 2
  go_wp2_with fail
  clear kc5 kc
  have g6 := alloc_grown w5 (.cells #[.int .u8 117, .int .u8 118] 5 (2, 3))
  have k6 := World.alloc_heap_new w5 (.cells #[.int .u8 117, .int .u8 118] 5 (2, 3))
  have hb6 := bs_of (l := [117, 118]) k6 rfl (by decide)
  generalize w5.alloc (.cells #[.int .u8 117, .int .u8 118] 5 (2, 3)) = w6 at *
  refine (append2 w.heap.size (Nat.le_trans hG5.size g6.size) (hD5.grown g6) (hF5.chg (Chg.of_grown g6 (fun _ => False)) (fun e => e)) hne (ho5.grown g6) w5.heap.size hb6 (by omega)).mono ?_
  rintro e w7 ⟨rfl, bo7, bc7, hF7, ho7, hD7, hc7⟩
  have hG6 : w.grownBy w6 none := grown_trans hG5 g6 (by simp)
  have hG7 : w.grownBy w7 none := ((Chg.of_grown hG6 _).trans hc7).grown (fun k hk e => by
    rcases e with e | e | e
    · omega
    · have := hG5.size; omega
    · have := (ho5.from_base k e).1; omega)
  clear hb6 k6 g6 hF5 hD5 hc7 hG5 hG6 ho5
  have hfi : Calls Try.prog 29 #[.pointer (some ⟨b, 0, none⟩), .string nA] w7 fun e w' => e = .returned (.tuple #[.agg #[.string nA, .int .i64 5, .int .i64 3, .bool true, .bool false], .int .i64 0]) ∧ w7.grownBy w' none := file_at nA g hD7 nA_ok (at_new nA g) hF7
  go_wp2_with fail
  refine hfi.mono ?_
  clear hfi
  rintro e w8 ⟨rfl, hg8⟩
  go_wp2_with fail
  have ka := World.alloc_heap_new w8 (.cells #[.string nA, .int .i64 5, .int .i64 3, .bool true, .bool false] 55)
  have ga := alloc_grown w8 (.cells #[.string nA, .int .i64 5, .int .i64 3, .bool true, .bool false] 55)
  have gb := alloc_grown (w8.alloc (.cells #[.string nA, .int .i64 5, .int .i64 3, .bool true, .bool false] 55)) (.cells #[.int .i64 1, .int .i64 1] 3)
  have kb := World.alloc_heap_new (w8.alloc (.cells #[.string nA, .int .i64 5, .int .i64 3, .bool true, .bool false] 55)) (.cells #[.int .i64 1, .int .i64 1] 3)
  rw [World.size_alloc] at kb
  have kx := heap_kept gb ka (by simp)
  have hg9 := grown_trans (grown_trans hg8 ga (by simp)) gb (by simp)
  clear ka ga gb hg8
  generalize (w8.alloc (.cells #[.string nA, .int .i64 5, .int .i64 3, .bool true, .bool false] 55)).alloc (.cells #[.int .i64 1, .int .i64 1] 3) = w9 at *
  refine (crash1 (hD7.grown hg9) (hF7.chg (Chg.of_grown hg9 (fun _ => False)) (fun e => e)) (ho7.grown hg9) kb).mono ?_
  rintro e w10 ⟨nb, nm, n', D', g', q, c, rfl, hD', hat, hF', hB', hg10⟩
  have ky := heap_kept hg10 kx (by simp)
  have hG10 : w.grownBy w10 none := grown_trans (grown_trans hG7 hg9 (by simp)) hg10 (by simp)
  have hrd : Calls Try.prog 27 #[.pointer (some ⟨nb, 0, none⟩), .string nA, .int .i64 0, .int .i64 9] w10 fun e w' => ∃ ao' cap', e = .returned (.tuple #[.slice ao' 4 cap', .int .i64 0]) ∧ Ow w' w10.heap.size 5 ao' 4 cap' [120, 121, 122, 117] ∧ w10.grownBy w' none := read_at nA g' hD' nA_ok hat hF' [120, 121, 122, 117] hB' (by decide) 0 9 (by decide) (by decide)
  clear kb kx hD7 hF7 ho7 hg9 hD' hat hF' hB' hg10 hG7
  go_wp2_with fail
  refine hrd.mono ?_
  clear hrd
  rintro e w11 ⟨ao, cap, rfl, hO, hg11⟩
  have kz := heap_kept hg11 ky (by simp)
  have hst := run_string_bs (P := Try.prog) w11 38 9 5 Try.underlying38 Try.underlying5 Try.underlying9 hO.shows
  have z0 := cell_of2 (i := 0) kz rfl
  have z1 := cell_of2 (i := 1) kz rfl
  have z2 := cell_of2 (i := 2) kz rfl
  have z3 := cell_of2 (i := 3) kz rfl
  have z4 := cell_of2 (i := 4) kz rfl
  have q55 : ∀ W : World, (binOp .eql 55 (.agg #[.string nA, .int .i64 5, .int .i64 3, .bool true, .bool false]) (.agg #[.string nA, .int .i64 5, .int .i64 3, .bool true, .bool false])).run Try.prog W = .ok (.bool true) W := fun _ => by kernel_rfl
  have hG11 : w.grownBy w11 none := grown_trans hG10 hg11 (by simp)
  clear hO ky kz hg11 hG10
  go_wp2
  go_ret
  exact ⟨rfl, hG11⟩
end Go.Proofs.Ythkbakaodbceiaa
