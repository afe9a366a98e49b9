/-
  fresh, isPlace, extent, SameBatch: the walks.
-/
import Derived.Test.YtlfgikhjcimppabB2
import Derived.Test.YtlfgikhjcimppabB7
namespace Go.Proofs.Ytlfgikhjcimppab
open Go.RowKit
set_option linter.unusedVariables false

set_option maxRecDepth 100000 in
set_option maxHeartbeats 400000 in
theorem fresh_any (w : World) (ao : Option Addr) (n cap : Nat) (l : List UInt8) (hb : Bs w ao n cap l) (hsz : n ≤ 140737488355328) :
    Calls Try.prog 23 #[.slice ao n cap] w fun e w' => ∃ g, e = .returned (.slice (some ⟨g, 0, none⟩) n n) ∧ Ow w' w.heap.size 5 (some ⟨g, 0, none⟩) n n l ∧ w.grownBy w' none := by
  go_enter Try.func23, Try.ntmps23
  go_wp2_with (at_make; refine wpList_make_bs _ rfl _ _ 23 rfl w.heap.size 5 Try.underlying23 Try.info5 n n rfl rfl rfl rfl (Nat.le_refl _) (by omega) (Nat.le_refl _) ?_)
  intro g w1 ho1 hg1
  have hb1 := hb.grown hg1
  go_wp2_with (refine wpList_copy_bs _ rfl (.tmp 7) (.tmp 8) 23 rfl w.heap.size 5 Try.underlying23 Try.info5 rfl ho1 rfl hb1 ?_)
  intro w2 ho2 hg2
  go_wp2
  go_ret
  exact ⟨_, rfl, ho2, grown_trans hg1 hg2 (fun k hk => Or.inr (ho1.from_base k hk).1)⟩
/-- Is the place there? -/
def plcB (n : Nat) (at' : Int) : Bool := decide (0 ≤ at') && decide (at' ≤ (n : Int))
set_option maxHeartbeats 400000 in
theorem isPlace_any (w : World) (ao : Option Addr) (n cap : Nat) (at' : Int) :
    Calls Try.prog 20 #[.slice ao n cap, .int .i64 at'] w fun e w' => e = .returned (.bool (plcB n at')) ∧ w' = w := by
  by_cases h1 : 0 ≤ at'
  · have hM : Hid (plcB n at' = decide (at' ≤ (n : Int))) := by show _ = _; simp [plcB, h1]
    have hd : decide (0 ≤ at') = true := by simpa using h1
    go_enter Try.func20, Try.ntmps20
    go_wp2
    go_ret
    exact ⟨ret_bool (by rw [hM.out]), rfl⟩
  · have hM : Hid (plcB n at' = false) := by show _ = _; simp [plcB, h1]
    have hd : decide (0 ≤ at') = false := by simpa using h1
    go_enter Try.func20, Try.ntmps20
    go_wp2
    go_ret
    exact ⟨ret_bool (by rw [hM.out]), rfl⟩
set_option maxRecDepth 100000 in
set_option maxHeartbeats 1000000 in
theorem sameBatch_any (w : World) (x y : Int) (ao bo : Option Addr) (n m cap cap2 : Nat) (l k : List Rc) (ha : Rs w ao n cap l) (hb : Rs w bo m cap2 k) :
    Calls Try.prog 12 #[.agg #[.int .i64 x, .slice ao n cap], .agg #[.int .i64 y, .slice bo m cap2]] w fun e w' => e = .returned (.bool (sameAllB l k && decide (x = y))) ∧ w.grownBy w' none := by
  have hg0 : w.grownBy ((w.alloc (.cells #[.int .i64 x, .slice ao n cap] 34)).alloc (.cells #[.int .i64 y, .slice bo m cap2] 34)) none := grown_trans (alloc_grown _ _) (alloc_grown _ _) (by simp)
  have g2 := alloc_grown (w.alloc (.cells #[.int .i64 x, .slice ao n cap] 34)) (.cells #[.int .i64 y, .slice bo m cap2] 34)
  have k1 := heap_alloc_new w (.cells #[.int .i64 x, .slice ao n cap] 34)
  have k2 := heap_alloc_new (w.alloc (.cells #[.int .i64 x, .slice ao n cap] 34)) (.cells #[.int .i64 y, .slice bo m cap2] 34)
  have s1 : (w.alloc (.cells #[.int .i64 x, .slice ao n cap] 34)).heap.size = w.heap.size + 1 := by simp
  have k1' := (g2.block w.heap.size (by rw [s1]; omega) (by simp)).trans k1
  rw [s1] at k2
  have a0 := cell_of (i := 0) k1' rfl
  have a1 := cell_of (i := 1) k1' rfl
  have b0 := cell_of (i := 0) k2 rfl
  have b1 := cell_of (i := 1) k2 rfl
  have ha0 := ha.grown hg0
  have hb0 := hb.grown hg0
  clear g2 k1 k2 k1' s1 ha hb
  go_enter Try.func12, Try.ntmps12
  go_wp2_with fail
  generalize ((w.alloc (.cells #[.int .i64 x, .slice ao n cap] 34)).alloc (.cells #[.int .i64 y, .slice bo m cap2] 34)) = w0 at *
  refine (rsameAll_any _ _ _ _ _ _ _ l k ha0 hb0).mono ?_
  rintro e w1 ⟨rfl, hg1⟩
  have c0 := hg1.cell a0 (by simp)
  have d0 := hg1.cell b0 (by simp)
  have hG := grown_trans hg0 hg1 (by simp)
  clear a0 a1 b0 b1 ha0 hb0 hg0 hg1
  generalize hS : sameAllB l k = S at *
  have HS : Hid (sameAllB l k = S) := hS
  clear hS
  cases S
  · go_wp2
    go_ret
    exact ⟨ret_bool (by rw [HS.out]; simp), hG⟩
  · go_wp2
    go_ret
    exact ⟨ret_bool (by rw [HS.out]; by_cases h9 : x = y <;> simp [h9]), hG⟩
/-- What extent answers: how many bytes the batch at a place says that it has, and an error. -/
def extR (L : List UInt8) : Nat × Int := if L.length = 0 then (0, 150) else if L.length < 4 then (0, 151) else if val (L.take 4) < 28 ∨ 65532 < val (L.take 4) then (0, 152) else if L.length < 4 + val (L.take 4) then (0, 151) else (4 + val (L.take 4), 0)
set_option maxRecDepth 100000 in
set_option maxHeartbeats 4000000 in
theorem extent_any (w : World) (b o n cap i : Nat) (L : List UInt8) (hb : Bs w (some ⟨b, o, none⟩) n cap L) (hi : i ≤ n) (hn : n ≤ 1048576) :
    Calls Try.prog 32 #[.slice (some ⟨b, o, none⟩) n cap, .int .i64 i] w fun e w' => e = .returned (.tuple #[.int .i64 (extR (L.drop i)).1, .int .i64 (extR (L.drop i)).2]) ∧ w.grownBy w' none := by
  have hroom := hb.room
  have hlen := hb.len
  have hp := isPlace_any w (some ⟨b, o, none⟩) n cap i
  have hpt : plcB n (i : Int) = true := by simp [plcB]; omega
  rw [hpt] at hp
  have j1 : (i : Int) ≤ (n : Int) := by omega
  have j2 : (n : Int) ≤ (cap : Int) := by omega
  have j0 : (0 : Int) ≤ (i : Int) := by omega
  obtain ⟨M, hM⟩ : ∃ M, n - i = M := ⟨_, rfl⟩
  have hl : (L.drop i).length = M := by simp; omega
  by_cases hc : cap = i
  · subst hc
    obtain rfl : n = cap := by omega
    obtain rfl : M = 0 := by omega
    have hE : Hid (extR (L.drop n) = (0, 150)) := by show _ = _; unfold extR; rw [if_pos hl]
    go_enter Try.func32, Try.ntmps32
    go_wp2_with fail
    refine hp.mono ?_
    rintro e w1 ⟨rfl, hw1⟩
    subst hw1
    go_wp2
    go_ret2
    exact ⟨by rw [hE.out]; rfl, grown_refl _ _⟩
  · have hc2 : ¬ i = cap := fun e => hc e.symm
    have hbs : Bs w (some ⟨b, o + i, none⟩) M (cap - i) (L.drop i) := by rw [← hM]; exact hb.drop i hi (o + i) (Or.inr rfl)
    have hM1 : M ≤ cap - i := by omega
    by_cases h0 : M = 0
    · have hE : Hid (extR (L.drop i) = (0, 150)) := by show _ = _; unfold extR; rw [if_pos (by omega)]
      have h00 : n - i = 0 := by omega
      go_enter Try.func32, Try.ntmps32
      go_wp2_with fail
      refine hp.mono ?_
      rintro e w1 ⟨rfl, hw1⟩
      subst hw1
      go_wp2
      go_ret2
      exact ⟨by rw [hE.out]; rfl, grown_refl _ _⟩
    · have hz0 : ((M : Int) == 0) = false := by simp; omega
      by_cases h4 : M < 4
      · have hE : Hid (extR (L.drop i) = (0, 151)) := by show _ = _; unfold extR; rw [if_neg (by omega), if_pos (by omega)]
        have hd4 : decide (M < 4) = true := by simpa using h4
        go_enter Try.func32, Try.ntmps32
        go_wp2_with fail
        refine hp.mono ?_
        rintro e w1 ⟨rfl, hw1⟩
        subst hw1
        go_wp2
        go_ret2
        exact ⟨by rw [hE.out]; rfl, grown_refl _ _⟩
      · have hd4 : decide (M < 4) = false := by simpa using h4
        have hE : Hid (extR (L.drop i) = if val ((L.drop i).take 4) < 28 ∨ 65532 < val ((L.drop i).take 4) then (0, 152) else if M < 4 + val ((L.drop i).take 4) then (0, 151) else (4 + val ((L.drop i).take 4), 0)) := by
          show _ = _
          unfold extR
          rw [hl, if_neg h0, if_neg h4]
        have hb4 : Bs w (some ⟨b, o + i, none⟩) 4 (cap - i) ((L.drop i).take 4) := hbs.take 4 (by omega)
        have hV : val ((L.drop i).take 4) < 4294967296 := by
          have h3 := val_lt ((L.drop i).take 4)
          have h5 : 256 ^ ((L.drop i).take 4).length ≤ 256 ^ 4 := Nat.pow_le_pow_right (by omega) (by simp; omega)
          exact Nat.lt_of_lt_of_le h3 h5
        have hnew := new_far w (some ⟨b, o + i, none⟩) 4 (cap - i) _ hb4 (by omega)
        have h44 : ((L.drop i).take 4).take 4 = (L.drop i).take 4 := by rw [List.take_take, Nat.min_self]
        have hu : ∀ W rb g, Rd W rb g 0 4 4 ((L.drop i).take 4) 0 → Calls Try.prog 41 #[.pointer (some ⟨rb, 0, none⟩)] W fun e w' => e = .returned (.tuple #[.int .u32 (val ((L.drop i).take 4)), .int .i64 0]) ∧ W.grownBy w' (some rb) := fun W rb g hR => by
          refine (u32_yes W rb g 0 4 4 _ 0 hR (Nat.le_refl _)).mono ?_
          rintro e w' ⟨rfl, o', c', hr, hg⟩
          exact ⟨by rw [h44], hg⟩
        generalize val ((L.drop i).take 4) = V at *
        have g4 : (4 : Int) ≤ ((cap - i : Nat) : Int) := by omega
        have g5 : 4 ≤ cap - i := by omega
        go_enter Try.func32, Try.ntmps32
        go_wp2_with fail
        refine hp.mono ?_
        rintro e w1 ⟨rfl, hw1⟩
        subst hw1
        go_wp2_with fail
        refine hnew.mono ?_
        rintro e w2 ⟨rb, g, rfl, hR, hrb, hgb, hg2⟩
        go_wp2_with fail
        refine (hu _ rb g hR).mono ?_
        rintro e w3 ⟨rfl, hg3⟩
        have hG : w1.grownBy w3 none := grown_trans hg2 hg3 (fun k hk => Or.inr (by cases hk; exact hrb))
        clear hR hg2 hg3 hu hnew hb4 hbs hb hp
        by_cases hv1 : V < 28
        · have hd5 : decide (V < 28) = true := by simpa using hv1
          go_wp2
          go_ret2
          exact ⟨by rw [hE.out, if_pos (Or.inl hv1)]; rfl, hG⟩
        · have hd5 : decide (V < 28) = false := by simpa using hv1
          by_cases hv2 : 65532 < V
          · have hd6 : decide (65532 < V) = true := by simpa using hv2
            go_wp2
            go_ret2
            exact ⟨by rw [hE.out, if_pos (Or.inr hv2)]; rfl, hG⟩
          · have hd6 : decide (65532 < V) = false := by simpa using hv2
            by_cases hv3 : M < 4 + V
            · have hd7 : decide (M < 4 + V) = true := by simpa using hv3
              go_wp2
              go_ret2
              exact ⟨by rw [hE.out, if_neg (by omega), if_pos hv3]; rfl, hG⟩
            · have hd7 : decide (M < 4 + V) = false := by simpa using hv3
              go_wp2
              go_ret2
              exact ⟨by rw [hE.out, if_neg (by omega), if_neg hv3]; rfl, hG⟩
end Go.Proofs.Ytlfgikhjcimppab
