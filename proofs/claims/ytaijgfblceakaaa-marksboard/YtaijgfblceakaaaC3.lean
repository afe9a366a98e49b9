/-
  The law of a board, walked.
-/
import Derived.Test.YtaijgfblceakaaaC5
import Derived.Test.YtaijgfblceakaaaArgs
namespace Go.Proofs.Ytaijgfblceakaaa
open Go.RowKit
set_option linter.unusedVariables false

/-- An append of one number, at a step of a region that draws: where the row lies. -/
theorem step_append_one {ops : Array Oper} {o : Oper} {a : Act} {w : World} {K : Act → World → Prop} {Q : Exit → Act → World → Prop} {E : Prop} (hgd : o.guard = none) (s x : Operand)
    (ho : o.op = .call { callee := .builtin .append, args := #[s, x], argTypes := #[22, 22] })
    (base : Nat) {ao : Option Addr} {n cap : Nat} {l : List Int} (hs : a.eval s = .slice ao n cap) (hown : Vo w base 2 ao n cap (l.map iv))
    {B : Nat} {y : Int} (hx : a.eval x = .slice (some ⟨B, 0, none⟩) 1 1) (hb : w.cell? ⟨B, 0, none⟩ = some (.int .i64 y)) (hn : n ≤ 1000) (hbase : base ≤ w.heap.size)
    (h : ∀ g cap' w', Vo w' base 2 (some ⟨g, 0, none⟩) (n + 1) cap' ((l ++ [y]).map iv) → w.grownBy w' (blk ao) → (blk ao = some g ∨ g = w.heap.size) → K (a.put o.dst (.slice (some ⟨g, 0, none⟩) (n + 1) cap')) w') :
    if Region.wanted o (yielded ops a.tmps) = true then Oper.wp Try.prog o a w K Q else E := by
  obtain ⟨i, hi, hz, hzs, hz2⟩ := info_twoi
  refine step_append_lies w hgd s x 22 ho base 2 i _ 1 8 Try.underlying22 hi hz hzs hz2 rfl (by decide) _ n _ hs hown.row ⟨B, 0, none⟩ 1 1 [.int .i64 y] hx rfl (fun j u hu => ?_) (by simp [Value.oneCell']) (by decide) (by unfold maxLen; omega) (by omega) hbase _ rfl ?_
  · match j, hu with
    | 0, hu => simp at hu; subst hu; simpa [Addr.add] using hb
  · intro g cap' w' hown' hgrow hl hlt
    have hlen : l.length = n := by simpa using hown.len
    refine h g cap' w' ⟨by simp [hlen], ?_, iv_one _⟩ (by rw [blk_own] at hgrow; exact hgrow) (by rw [blk_own] at hl; exact hl)
    rw [List.map_append]; exact hown'

/-- What the append to the list that is wanted leaves: its row is the old one or new, and only that row and the box have turned. -/
structure WantP (w w' : World) (base zw : Nat) (wo : Option Addr) (g n c : Nat) (l : List Int) : Prop where
  own : Vo w' base 2 (some ⟨g, 0, none⟩) n c (l.map iv)
  box : Bx w' zw 22 (.slice (some ⟨g, 0, none⟩) n c)
  chg : Chg w w' (fun k => blk wo = some k ∨ k = zw)
  lies : blk wo = some g ∨ w.heap.size ≤ g
theorem Chg.of_row {w w' : World} {row : Option Nat} (h : w.grownBy w' row) : Chg w w' (fun k => row = some k) := ⟨h.os, h.tape, h.output, h.size, fun k hk hn => h.block k hk (fun e => hn e.symm)⟩
theorem WantP.mk' {w w2 : World} {base zw : Nat} {wo : Option Addr} {g n c : Nat} {l : List Int} {v : Value} (hg : w.grownBy w2 (blk wo)) (hV : Vo w2 base 2 (some ⟨g, 0, none⟩) n c (l.map iv)) (hl : blk wo = some g ∨ w.heap.size ≤ g) (hz : Bx w zw 22 v) (hzw : ¬ blk wo = some zw) :
    WantP w (w2.setCell ⟨zw, 0, none⟩ (.slice (some ⟨g, 0, none⟩) n c)) base zw wo g n c l := by
  have hc := setCell_chg w2 zw 0 (.slice (some ⟨g, 0, none⟩) n c)
  have hz2 := hz.chg (Chg.of_row hg) hzw
  have hzl := hz.lt
  refine ⟨hV.chg hc (fun a ha e => ?_), hz2.set _, ((Chg.of_row hg).mono (fun k _ e => Or.inl e)).trans (hc.mono (fun k _ e => Or.inr e)), hl⟩
  obtain rfl := Option.some.inj ha
  have h9 : g = zw := e
  rcases hl with h1 | h1
  · exact hzw (by rw [h1, h9])
  · omega
theorem region_join {P : Program} {id : Nat} {ops : Array Oper} {d : Bool} {Q : Exit → Act → World → Prop} {a : Act} {w : World} (R : Act → Exit → Act → World → Prop) (h1 : (Code.region id ops d).wp P (R a) a w) (h2 : ∀ e a' w', R a e a' w' → Q e a' w') : (Code.region id ops d).wp P Q a w := wp_mono h1 h2

/-- Between two rounds: the board has version ver; what the law has boxed. -/
structure Iv (w wr : World) (b zw za zi : Nat) (ver : Int) (k : Nat) (ao : Option Addr) (an ac : Nat) : Prop where
  bd : ∃ T l, Bd wr b T ver l ∧ ∀ q, T q → w.heap.size ≤ q
  w' : ∃ wo wn wc, Bx wr zw 22 (.slice wo wn wc)
  a : Bx wr za 22 (.slice ao an ac)
  i : Bx wr zi 3 (.int .i64 k)
  v0 : 0 ≤ ver
  v1 : ver ≤ 2 * k
  g : w.grownBy wr none
  sb : w.heap.size ≤ b
  sw : w.heap.size ≤ zw
  sa : w.heap.size ≤ za
  si : w.heap.size ≤ zi
  wa : zw ≠ za

theorem Bx.ne {w : World} {a b : Nat} {t t' : TypeId} {v v' : Value} (h : Bx w a t v) (h2 : Bx w b t' v') (ht : t ≠ t') : a ≠ b := by
  intro e; subst e; have h3 := h.cell; rw [h2.cell] at h3; cases h3; exact ht rfl
theorem Bd.ne {w : World} {b : Nat} {T : Nat → Prop} {ver : Int} {l : List Int} (h : Bd w b T ver l) {z : Nat} {t : TypeId} {v : Value} (hx : Bx w z t v) (h1 : t ≠ 53) (h2 : t ≠ 71) (h3 : t ≠ 2) : ¬ T z := by
  cases h with
  | zero hb => intro e; exact (hx.ne hb h1) e
  | list q g n ver l hb hq =>
    rintro (e | e | e)
    · exact (hx.ne hb h1) e
    · subst e; have h5 := hx.cell; rw [hq.cell] at h5; cases h5
    · subst e; have h5 := hx.cell; have h6 := hq.row; unfold Ro at h6; rw [h6] at h5; simp at h5; exact h3 h5.2.symm
theorem Bd.b {w : World} {b : Nat} {T : Nat → Prop} {ver : Int} {l : List Int} (h : Bd w b T ver l) : T b ∧ ∃ v, Bx w b 53 v := by
  cases h with
  | zero hb => exact ⟨rfl, _, hb⟩
  | list q g n ver l hb hq => exact ⟨Or.inl rfl, _, hb⟩

/-- How many rounds are left: what the counter's cell says. -/
def left (n : Nat) (i : Value) (w : World) : Nat := match i with
  | .pointer (some a) => match w.cell? a with | some x => n - (intOf x).toNat | _ => 0
  | _ => 0
theorem left_at {n k zi : Nat} {w : World} (h : Bx w zi 3 (.int .i64 k)) : left n (.pointer (some ⟨zi, 0, none⟩)) w = n - k := by
  have h1 := h.at
  simp [left, h1, intOf]

set_option maxRecDepth 100000 in
set_option maxHeartbeats 4000000 in
theorem marksBoard_any (w : World) (a0 : Option Addr) (n0 c0 : Nat) (L : List (List Int)) (hL : Vss w a0 n0 c0 L) (ao : Option Addr) (an ac : Nat) (A0 : List Int) (hA : Vs w ao an ac (A0.map iv)) :
    Calls Try.prog 4 #[.slice a0 n0 c0, .slice ao an ac] w fun e w' => e = .returned (.bool true) ∧ w.grownBy w' none := by
  have hLl := hL.len
  have hga := alloc_grown w (.cells #[.slice ao an ac] 22)
  have hkn := (known_any (w.alloc (.cells #[.slice ao an ac] 22)))
  by_cases hbig : 200 < n0
  · have f1 : (200 : Int) < (n0 : Int) := by omega
    go_enter Try.func4, Try.ntmps4
    go_wp2_with (go_at_call 8; refine hkn.mono ?_; rintro e w1 ⟨rfl, hg1⟩)
    go_ret
    exact ⟨rfl, grown_trans hga hg1 (by simp)⟩
  by_cases hbig2 : 200 < an
  · have f1 : ¬ (200 : Int) < (n0 : Int) := by omega
    have f2 : (200 : Int) < (an : Int) := by omega
    go_enter Try.func4, Try.ntmps4
    go_wp2_with (go_at_call 8; refine hkn.mono ?_; rintro e w1 ⟨rfl, hg1⟩)
    go_ret
    exact ⟨rfl, grown_trans hga hg1 (by simp)⟩
  have f1 : ¬ (200 : Int) < (n0 : Int) := by omega
  have f2 : ¬ (200 : Int) < (an : Int) := by omega
  clear hkn hbig2
  obtain ⟨W1, hW1⟩ : ∃ W1, w.alloc (.cells #[.slice ao an ac] 22) = W1 := ⟨_, rfl⟩
  have bza : Bx W1 w.heap.size 22 (.slice ao an ac) := by rw [← hW1]; exact Bx.new _ _ _
  have hs1 : W1.heap.size = w.heap.size + 1 := by rw [← hW1]; simp
  rw [hW1] at hga
  obtain ⟨za, hza⟩ : ∃ za, w.heap.size = za := ⟨_, rfl⟩
  have qza := bza.at
  rw [hza] at bza qza
  go_enter Try.func4, Try.ntmps4
  go_wp2_with fail
  clear hW1 hs1 qza
  refine (newBoard_any W1).mono ?_
  rintro e w2 ⟨rfl, hw2⟩
  have hB2 : Bd w2 W1.heap.size (fun k => k = W1.heap.size) 0 [] := by rw [hw2]; exact .zero (Bx.new _ _ _)
  have hg2 : W1.grownBy w2 none := by rw [hw2]; exact alloc_grown _ _
  have hs1 := hga.size
  obtain ⟨b, hb⟩ : ∃ b, W1.heap.size = b := ⟨_, rfl⟩
  rw [hb] at hB2 hs1 ⊢
  have bza2 := bza.grown hg2
  have hG2 := grown_trans hga hg2 (by simp)
  clear hw2 hga bza
  go_wp2_with fail
  obtain ⟨W3, hW3⟩ : ∃ W3, w2.alloc (.cells #[.slice none 0 0] 22) = W3 := ⟨_, rfl⟩
  obtain ⟨W4, hW4⟩ : ∃ W4, W3.alloc (.cells #[.int .i64 0] 3) = W4 := ⟨_, rfl⟩
  have hg3 : w2.grownBy W3 none := by rw [← hW3]; exact alloc_grown _ _
  have hg4 : W3.grownBy W4 none := by rw [← hW4]; exact alloc_grown _ _
  have bw3 : Bx W3 w2.heap.size 22 (.slice none 0 0) := by rw [← hW3]; exact Bx.new _ _ _
  have bi4 : Bx W4 W3.heap.size 3 (.int .i64 0) := by rw [← hW4]; exact Bx.new _ _ _
  have hsz3 : W3.heap.size = w2.heap.size + 1 := by rw [← hW3]; simp
  have hs2 := hG2.size
  obtain ⟨zw, hzw⟩ : ∃ zw, w2.heap.size = zw := ⟨_, rfl⟩
  obtain ⟨zi, hzi⟩ : ∃ zi, W3.heap.size = zi := ⟨_, rfl⟩
  have hwa : zw ≠ za := by have := bza2.lt; omega
  have hzi2 : zw + 1 = zi := by omega
  have hg34 := grown_trans hg3 hg4 (by simp)
  have hG4 := grown_trans hG2 hg34 (by simp)
  rw [hzw] at bw3
  rw [hzi] at bi4
  have hI : Iv w W4 b zw za zi 0 0 ao an ac := ⟨⟨_, _, hB2.grown hg34, fun q e => by have h5 : q = b := e; omega⟩, ⟨_, _, _, bw3.grown hg4⟩, bza2.grown hg34, bi4, by decide, by decide, hG4, by omega, by omega, by omega, by omega, hwa⟩
  rw [hW3, hzw, hzi2, hW4]
  clear hW3 hW4 hg3 hg4 bw3 bi4 hsz3 hG2 hg34 hG4 bza2 hzi hzw hB2 hg2 hs2 hs1 hwa hzi2
  go_loopw [7, 8] (fun v i wr => ∃ (ver : Int) (k zi : Nat), v = .int .i64 ver ∧ i = .pointer (some ⟨zi, 0, none⟩) ∧ k ≤ n0 ∧ Iv w wr b zw za zi ver k ao an ac) (fun _ i wr => left n0 i wr)
  case atStart => exact ⟨0, 0, zi, rfl, rfl, Nat.zero_le _, hI⟩
  case round =>
    clear hI
    obtain ⟨ver, k, zi, rfl, rfl, hk, hI⟩ := hrel
    have qi := hI.i.at
    by_cases hlt : k < n0
    · obtain ⟨l, hl⟩ : ∃ l, L[k]? = some l := ⟨_, List.getElem?_eq_getElem (by omega)⟩
      obtain ⟨g0, o0, xo, xn, xc, rfl, hg0, hc0, hv0⟩ := hL.at' k l hl
      have hc1 := hI.g.cell hc0 (by simp)
      have hv1 := hv0.grown hI.g
      have t1 : (k : Int) < (n0 : Int) := by omega
      have t2 : decide ((k : Int) < (n0 : Int)) = true := by simp; omega
      have t3 : decide (k < n0) = true := by simp; omega
      have j0 : (0 : Int) ≤ (k : Int) := by omega
      by_cases hxn : 100 < xn
      · have t4 : (100 : Int) < (xn : Int) := by omega
        have hG := hI.g
        clear hI hv0 hv1 hl hc0
        go_wp2_with fail
        refine (known_any wr).mono ?_
        rintro e w6 ⟨rfl, hg6⟩
        have hG6 := grown_trans hG hg6 (by simp)
        go_wp2
        go_ret
        exact ⟨rfl, hG6⟩
      have t4 : ¬ (100 : Int) < (xn : Int) := by omega
      have hll : l.length = xn := by simpa using hv0.len
      clear hl
      go_wp2_with (at_builtin; refine wpList_append_vs _ rfl (.const (.slice none 0 0)) (.tmp 60) 22 rfl wr.heap.size 2 (.int .i64 0) 8 Try.underlying22 info2o rfl (by decide) (l := []) rfl (Vo.nil _ _ _) rfl hv1 (by omega) (Nat.le_refl _) ?_)
      intro mo mc w2 hm hg2
      replace hg2 : wr.grownBy w2 none := hg2
      have hG2 : w.grownBy w2 none := grown_trans hI.g hg2 (by simp)
      obtain ⟨T, lb, hB, hT⟩ := hI.bd
      obtain ⟨wo, wn, wc, bw⟩ := hI.w'
      have bi := hI.i
      have ba := hI.a
      have v0 := hI.v0
      have v1 := hI.v1
      have hwa := hI.wa
      have sb := hI.sb
      have sw := hI.sw
      have sa := hI.sa
      have si := hI.si
      have hbl := hB.lt b hB.b.1
      have hm0 : ∀ q, blk mo = some q → wr.heap.size ≤ q ∧ q < w2.heap.size := hm.from_base
      have hvb : ver ≤ 400 := by omega
      have hB2 := hB.grown hg2
      obtain ⟨vb, hBb2⟩ := hB2.b.2
      have bi2 := bi.grown hg2
      have ba2 := ba.grown hg2
      have bw2 := bw.grown hg2
      have swl := bw.lt
      have sil := bi.lt
      have sal := ba.lt
      have hsr := hI.g.size
      have hs2 := hg2.size
      obtain ⟨H0, hH0⟩ : ∃ H0, wr.heap.size = H0 := ⟨_, rfl⟩
      rw [hH0] at hm hm0 hbl swl sil sal hsr hs2
      have hleft : Hid (left n0 (.pointer (some ⟨zi, 0, none⟩)) wr = n0 - k) := left_at hI.i
      clear hI hB bi ba bw hv1 qi hc1 hH0
      go_wp2_with fail
      refine (publish_any w2 b T ver lb hB2 v0 (by omega) mo xn mc l hm.shows (by omega)).mono ?_
      rintro e w3 ⟨q, g, rfl, hB3, hc3, hq3, hg3⟩
      have hG3 : w.grownBy w3 none := ((Chg.of_grown hG2 _).trans hc3).grown (fun k hk e => by have h9 : k = b := e; omega)
      have bi3 := bi2.chg hc3 (bi2.ne hBb2 (by decide))
      have ba3 := ba2.chg hc3 (ba2.ne hBb2 (by decide))
      have bw3 := bw2.chg hc3 (bw2.ne hBb2 (by decide))
      have hm3 := hm.chg hc3 (fun a e h9 => by have := hm0 a.block (by rw [e]; rfl); have h8 : a.block = b := h9; omega)
      have hs3 := hc3.size
      have hTm : ∀ q', (q' = b ∨ q' = q ∨ q' = g) → ¬ blk mo = some q' := fun q' h9 e => by have := hm0 q' e; omega
      have qi3 := bi3.at
      have hc03 := hG3.cell hc0 (by simp)
      have hv3 := hv0.grown hG3
      clear hB2 hBb2 bi2 ba2 bw2 hm hg2 hG2 hc3 hT
      go_wp2_with (at_builtin; refine wpList_append_vs _ rfl (.const (.slice none 0 0)) (.tmp 73) 22 rfl w3.heap.size 2 (.int .i64 0) 8 Try.underlying22 info2o rfl (by decide) (l := []) rfl (Vo.nil _ _ _) rfl hv3 (by omega) (Nat.le_refl _) ?_)
      intro wo4 wc4 w4 hw4 hg4
      replace hg4 : w3.grownBy w4 none := hg4
      have bw4 := bw3.grown hg4
      have qw4 := bw4.at
      have fw4 := bw4.free
      go_wp2_with fail
      obtain ⟨W5, hW5⟩ : ∃ W5, w4.setCell ⟨zw, 0, none⟩ (.slice wo4 xn wc4) = W5 := ⟨_, rfl⟩
      have hc5 : Chg w4 W5 (fun k => k = zw) := by rw [← hW5]; exact setCell_chg _ _ _ _
      have bw5 : Bx W5 zw 22 (.slice wo4 xn wc4) := by rw [← hW5]; exact bw4.set _
      have bi5 := (bi3.grown hg4).chg hc5 ((bi3.grown hg4).ne bw4 (by decide))
      have ba5 := (ba3.grown hg4).chg hc5 (fun e => hwa e.symm)
      have hB5 := (hB3.grown hg4).chg hc5 (fun k hk e => (hB3.grown hg4).ne bw4 (by decide) (by decide) (by decide) (by have h9 : k = zw := e; rw [← h9]; exact hk))
      have hw0 : ∀ q, blk wo4 = some q → w3.heap.size ≤ q ∧ q < w4.heap.size := hw4.from_base
      have hw5 := (hw4.chg hc5 (fun a e h9 => by have := hw0 a.block (by rw [e]; rfl); have h8 : a.block = zw := h9; omega))
      have hm5 := (hm3.grown hg4).chg hc5 (fun a e h9 => by have := hm0 a.block (by rw [e]; rfl); have h8 : a.block = zw := h9; omega)
      have hs5 : W5.heap.size = w4.heap.size := by rw [← hW5]; simp
      have hs45 := hg4.size
      have hG5 : w.grownBy W5 none := ((Chg.of_grown (grown_trans hG3 hg4 (by simp)) _).trans hc5).grown (fun k hk e => by have h9 : k = zw := e; omega)
      have hT5 : ∀ q', (q' = b ∨ q' = q ∨ q' = g) → w.heap.size ≤ q' ∧ q' < w3.heap.size := fun q' h9 => ⟨by rcases h9 with h9 | h9 | h9 <;> omega, hB3.lt q' h9⟩
      rw [hW5]
      clear hW5 hc5 bw4 qw4 fw4 bi3 ba3 bw3 hm3 hw4 hg4 hG3 hB3 qi3 hc03 hv3
      go_loopw [12] (fun i2 wr2 => ∃ (k2 : Nat) (lm : List Int), i2 = .int .i64 k2 ∧ k2 ≤ xn ∧ Vo wr2 H0 2 mo xn mc (lm.map iv) ∧ Chg W5 wr2 (fun q => blk mo = some q)) (fun i2 _ => xn - (intOf i2).toNat)
      case atStart => exact ⟨0, l, rfl, Nat.zero_le _, hm5, Chg.refl _ _⟩
      case round =>
        obtain ⟨k2, lm, rfl, hk2, hmr, hcr⟩ := hrel
        by_cases hlt2 : k2 < xn
        · obtain ⟨gm, rfl, hgm, -⟩ := hmr.addr (by omega)
          have hml : lm.length = xn := by simpa using hmr.len
          obtain ⟨x, hx⟩ : ∃ x, lm[k2]? = some x := ⟨_, List.getElem?_eq_getElem (by omega)⟩
          have p1 := hmr.shows.at (j := k2) (u := .int .i64 x) (by rw [List.getElem?_map, hx]; rfl)
          rw [Nat.zero_add] at p1
          have p2 := hmr.there k2
          have p3 := hmr.set k2 (wrap64 (x + 1))
          have p4 := setCell_chg wr gm k2 (.int .i64 (wrap64 (x + 1)))
          have f3 : (k2 : Int) < (xn : Int) := by omega
          have f4 : decide ((k2 : Int) < (xn : Int)) = true := by simp; omega
          have f5 : decide (k2 < xn) = true := by simp; omega
          have j2 : (0 : Int) ≤ (k2 : Int) := by omega
          clear hmr hx hml
          go_wp2
          go_roundw
          case rel => exact ⟨k2 + 1, _, by go_num, by omega, p3, hcr.trans (p4.mono (fun q' _ e => by have h9 : q' = gm := e; rw [h9]; rfl))⟩
          case measure => simp [intOf]; omega
        · obtain rfl : k2 = xn := by omega
          have hmo : ∀ q', blk mo = some q' → H0 ≤ q' ∧ q' < w2.heap.size := hm0
          have hB6 := hB5.chg hcr (fun q' h9 e => by have h1 := hmo q' e; have h2 := hT5 q' h9; rcases h9 with h9 | h9 | h9 <;> omega)
          have bw6 := bw5.chg hcr (fun e => by have h1 := hmo zw e; omega)
          have bi6 := bi5.chg hcr (fun e => by have h1 := hmo zi e; omega)
          have ba6 := ba5.chg hcr (fun e => by have h1 := hmo za e; omega)
          have hw6 := hw5.chg hcr (fun a ha e => by have h1 := hmo a.block e; have h2 := hw0 a.block (by rw [ha]; rfl); omega)
          have hG6 : w.grownBy wr none := ((Chg.of_grown hG5 _).trans hcr).grown (fun q' h9 e => by have h1 := hmo q' e; omega)
          have hcz := hcr.size
          clear hB5 bw5 bi5 ba5 hw5 hG5 hmr hcr
          go_wp2_with fail
          refine (bget_any wr b _ _ _ hB6).mono ?_
          rintro e w7 ⟨gr, rfl, hr7, hg7, hs7⟩
          have hs67 := hg7.size
          have bw7 := bw6.grown hg7
          have bi7 := bi6.grown hg7
          have ba7 := ba6.grown hg7
          have hB7 := hB6.grown hg7
          have hw7 := hw6.grown hg7
          have hG7 := grown_trans hG6 hg7 (by simp)
          have hvr : Vs w7 (some ⟨gr, 0, none⟩) k2 k2 (l.map iv) := by
            have := hr7.shows (iv_one l) (by simp [hll]; unfold maxLen; omega)
            simpa [hll] using this
          have qw7 := bw7.at
          have hgr : w3.heap.size ≤ gr := by omega
          have hgrw : ∀ q', blk wo4 = some q' → ¬ q' = gr := fun q' h9 => by have := hw0 q' h9; omega
          rw [hll]
          clear hB6 bw6 bi6 ba6 hw6 hG6
          go_wp2_with fail
          refine (same_yes w7 _ _ k2 _ _ l hvr hw7.shows (by omega)).mono ?_
          rintro e w8 ⟨rfl, hg8⟩
          have bw8 := bw7.grown hg8
          have bi8 := bi7.grown hg8
          have ba8 := ba7.grown hg8
          have hB8 := hB7.grown hg8
          have hw8 := hw7.grown hg8
          have hG8 := grown_trans hG7 hg8 (by simp)
          have hr8 := hr7.grown hg8
          have hs8 := hg8.size
          clear hB7 bw7 bi7 ba7 hw7 hG7 hr7 hvr qw7 hg7 hg8
          go_wp2_with fail
          go_loopw [15] (fun i2 wr2 => ∃ (k3 : Nat) (lr : List Int), i2 = .int .i64 k3 ∧ k3 ≤ k2 ∧ Ro wr2 gr 2 (lr.map iv) ∧ lr.length = k2 ∧ Chg w8 wr2 (fun q => q = gr)) (fun i2 _ => k2 - (intOf i2).toNat)
          case atStart => exact ⟨0, l, rfl, Nat.zero_le _, hr8, hll, Chg.refl _ _⟩
          case round =>
            clear hr8
            obtain ⟨k3, lr, rfl, hk3, hrr, hrl, hcr⟩ := hrel
            by_cases hlt3 : k3 < k2
            · obtain ⟨x, hx⟩ : ∃ x, lr[k3]? = some x := ⟨_, List.getElem?_eq_getElem (by omega)⟩
              have p1 : wr.cell? ⟨gr, k3, none⟩ = some (.int .i64 x) := by rw [hrr.cell, List.getElem?_map, hx]; rfl
              have p2 := hrr.frozen k3
              have p3 : Ro (wr.setCell ⟨gr, k3, none⟩ (.int .i64 (wrap64 (x - 1)))) gr 2 ((lr.set k3 (wrap64 (x - 1))).map iv) := by
                have := (hrr.set k3 (.int .i64 (wrap64 (x - 1)))).1
                rw [List.map_set]; exact this
              have p4 := setCell_chg wr gr k3 (.int .i64 (wrap64 (x - 1)))
              have p5 : (lr.set k3 (wrap64 (x - 1))).length = k2 := by simp [hrl]
              have f3 : (k3 : Int) < (k2 : Int) := by omega
              have f4 : decide ((k3 : Int) < (k2 : Int)) = true := by simp; omega
              have f5 : decide (k3 < k2) = true := by simp; omega
              have j2 : (0 : Int) ≤ (k3 : Int) := by omega
              clear hrr hx hrl
              go_wp2
              go_roundw
              case rel => exact ⟨k3 + 1, _, by go_num, by omega, p3, p5, hcr.trans p4⟩
              case measure => simp [intOf]; omega
            · obtain rfl : k3 = k2 := by omega
              have hB9 := hB8.chg hcr (fun q' h9 e => by have h2 := hT5 q' h9; have h3 : q' = gr := e; omega)
              have bw9 := bw8.chg hcr (by omega)
              have bi9 := bi8.chg hcr (by omega)
              have ba9 := ba8.chg hcr (by omega)
              have hw9 := hw8.chg hcr (fun a ha e => hgrw a.block (by rw [ha]; rfl) e)
              have hG9 : w.grownBy wr none := ((Chg.of_grown hG8 _).trans hcr).grown (fun q' h9 e => by have h3 : q' = gr := e; omega)
              have hcz3 := hcr.size
              clear hB8 bw8 bi8 ba8 hw8 hG8 hrr hcr
              have qi9 := bi9.at
              have qa9 := ba9.at
              by_cases hka : k < an
              · obtain ⟨y, hy⟩ : ∃ y, A0[k]? = some y := ⟨_, List.getElem?_eq_getElem (by have := hA.len; simp at this; omega)⟩
                have t5 : (k : Int) < (an : Int) := by omega
                have t6 : decide ((k : Int) < (an : Int)) = true := by simp; omega
                have t7 : decide (k < an) = true := by simp; omega
                obtain ⟨zg, hzg⟩ : ∃ zg, wr.heap.size = zg := ⟨_, rfl⟩
                obtain ⟨zo, hzo⟩ : ∃ zo, zg + 1 + 1 = zo := ⟨_, rfl⟩
                obtain ⟨WT, hWT⟩ : ∃ WT, (((wr.alloc (.cells #[.bool true] 4)).alloc (.cells #[] 2)).alloc (.cells #[.slice (some ⟨zg + 1, 0, none⟩) 0 0] 22)) = WT := ⟨_, rfl⟩
                have hgT : wr.grownBy WT none := by rw [← hWT]; exact grown_trans (grown_trans (alloc_grown _ _) (alloc_grown _ _) (by simp)) (alloc_grown _ _) (by simp)
                have bgT : Bx WT zg 4 (.bool true) := by
                  rw [← hWT, ← hzg]; exact ((Bx.new wr _ _).grown (alloc_grown _ _)).grown (alloc_grown _ _)
                have boT : Bx WT zo 22 (.slice (some ⟨zg + 1, 0, none⟩) 0 0) := by
                  rw [← hWT, ← hzo, ← hzg]
                  have h9 := Bx.new ((wr.alloc (.cells #[.bool true] 4)).alloc (.cells #[] 2)) (.slice (some ⟨wr.heap.size + 1, 0, none⟩) 0 0) 22
                  simpa using h9
                have hszr := hG9.size
                have hwb := hw9.from_base
                have hCs : Cs WT zg zw za zi zo wo4 k3 wc4 l ao an ac A0 k (some ⟨zg + 1, 0, none⟩) 0 0 := ⟨bgT, bw9.grown hgT, (hw9.grown hgT).shows, ba9.grown hgT, (hA.grown hG9).grown hgT, bi9.grown hgT, boT, by have := ba9.lt; omega⟩
                obtain ⟨qb, gb, nb, hbT, hqT, hTT⟩ := (hB9.grown hgT).there (by omega)
                have hnb : nb = k3 := by rw [← hqT.len, hll]
                subst hnb
                have hturn := turn_any WT b qb gb nb (ver + 1) l hbT hqT (by omega) (by omega) (by omega) zg zw za zi zo wo4 wc4 ao an ac A0 k _ 0 0 hCs y hy
                have bwT := bw9.grown hgT
                have biT := bi9.grown hgT
                have baT := ba9.grown hgT
                have hwT := hw9.grown hgT
                have hGT := grown_trans hG9 hgT (by simp)
                have bwl := bw9.lt
                have bil := bi9.lt
                have bal := ba9.lt
                have hzwb : zw ≠ b := bwT.ne hbT (by decide)
                have hzib : zi ≠ b := biT.ne hbT (by decide)
                have hzab : za ≠ b := baT.ne hbT (by decide)
                have hgl := bgT.lt
                have hol := boT.lt
                clear hB9 bw9 bi9 ba9 hw9 hG9 hCs hqT hTT bgT boT
                go_wp2_with fail
                clear hWT qi9 qa9
                refine hturn.mono ?_
                rintro e w10 ⟨rfl, q2, g2, ro, rc, hb10, hM10, hV10, hne10, ho10, hg10, hc10, hq10, hgg10⟩
                have hsT : zg ≤ WT.heap.size := by have := hgT.size; omega
                have hwT0 := hwT.from_base
                have bw10 := bwT.chg hc10 (by omega)
                have bi10 := biT.chg hc10 (by omega)
                have ba10 := baT.chg hc10 (by omega)
                have hwbb : ∀ q', blk wo4 = some q' → ¬ (q' = b ∨ q' = zg ∨ q' = zo) := fun q' h9 => by have h8 := hwb q' h9; have h7 := hbT.lt; have h6 := hw0 q' h9; omega
                have hw10 := hwT.chg hc10 (fun a ha e => hwbb a.block (by rw [ha]; rfl) e)
                have hG10 : w.grownBy w10 none := ((Chg.of_grown hGT _).trans hc10).grown (fun q' h9 e => by omega)
                have hsT10 := hc10.size
                have hwz : ∀ q', blk wo4 = some q' → q' < zg := fun q' h9 => by have := (hwb q' h9).2; omega
                clear hturn bwT biT baT hwT hGT hc10 hb hbT
                -- want = append(want, add[i])
                obtain ⟨ab, ai, rfl, hab⟩ := hA.addr (by omega)
                have kA : w.cell? ⟨ab, ai + k, none⟩ = some (.int .i64 y) := hA.at (by rw [List.getElem?_map, hy]; rfl)
                have hzn : ∀ {z : Nat}, z < H0 → ¬ blk wo4 = some z := fun hz h9 => by have := hw0 _ h9; omega
                have hSA : ∀ W, w10.grownBy W (blk wo4) → W.cell? ⟨za, 0, none⟩ = some (.slice (some ⟨ab, ai, none⟩) an ac) ∧ W.cell? ⟨zi, 0, none⟩ = some (.int .i64 k) ∧ W.cell? ⟨ab, ai + k, none⟩ = some (.int .i64 y) := fun W hW =>
                  ⟨hW.cell ba10.at (fun e => hzn (by omega) e.symm), hW.cell bi10.at (fun e => hzn (by omega) e.symm), hW.cell (hG10.cell kA (by simp)) (fun e => hzn (z := ab) (by omega) e.symm)⟩
                have hS7 : ∀ W v, w10.grownBy W (blk wo4) → (W.setCell ⟨zw, 0, none⟩ v).cell? ⟨za, 0, none⟩ = some (.slice (some ⟨ab, ai, none⟩) an ac) ∧ (W.setCell ⟨zw, 0, none⟩ v).cell? ⟨zi, 0, none⟩ = some (.int .i64 k) ∧ (W.setCell ⟨zw, 0, none⟩ v).cell? ⟨ab, ai + k, none⟩ = some (.int .i64 y) := fun W v hW =>
                  ⟨(setCell_chg W zw 0 v).cell (hSA W hW).1 (fun e => hwa e.symm), (setCell_chg W zw 0 v).cell (hSA W hW).2.1 (bi10.ne bw10 (by decide)), (setCell_chg W zw 0 v).cell (hSA W hW).2.2 (by show ¬ ab = zw; omega)⟩
                have hgd : w10.grownBy w10.drew none := grown_drewN w10 1 none
                have qw : ∀ W, w10.grownBy W none → W.cell? ⟨zw, 0, none⟩ = some (.slice wo4 nb wc4) := fun W hW => hW.cell bw10.at (by simp)
                have q0 := qw _ hgd
                have q1 := qw _ (grown_trans hgd (alloc_grown _ (.cells #[.int .i64 y] 2)) (by simp))
                have q2' : (w10.alloc (.cells #[.int .i64 y] 2)).drew.cell? ⟨zw, 0, none⟩ = some (.slice wo4 nb wc4) := qw _ (grown_trans (alloc_grown _ (.cells #[.int .i64 y] 2)) (grown_drew _ none) (by simp))
                have hwA : ∀ W, w10.grownBy W none → Vo W w3.heap.size 2 wo4 nb wc4 (l.map iv) := fun W hW => hw10.grown hW
                have j1 : (0 : Int) ≤ (k : Int) := by omega
                have hwle : w3.heap.size ≤ w10.heap.size := by omega
                go_wp2_with fail
                refine region_join (fun a0 e a' w' => e = .normal ∧ ∃ (g11 c11 B : Nat), a' = ((((((a0.put (some 135) (.slice wo4 nb wc4)).put (some 136) (.slice (some ⟨ab, ai, none⟩) an ac)).put (some 137) (.int .i64 k)).put (some 138) (.pointer (some ⟨ab, ai + k, none⟩))).put (some 139) (.int .i64 y)).put (some 140) (.slice (some ⟨B, 0, none⟩) 1 1)).put (some 141) (.slice (some ⟨g11, 0, none⟩) (nb + 1) c11) ∧ WantP w10 w' w3.heap.size zw wo4 g11 (nb + 1) c11 (l ++ [y])) ?_ ?_
                · refine wp_region_held_drew (S := fun w' : World => w'.cell? ⟨za, 0, none⟩ = some (.slice (some ⟨ab, ai, none⟩) an ac) ∧ w'.cell? ⟨zi, 0, none⟩ = some (.int .i64 k) ∧ w'.cell? ⟨ab, ai + k, none⟩ = some (.int .i64 y)) (by kernel_rfl) (hSA _ (grown_any hgd _)) (fun hHeld => ?_)
                  generalize w10.drew = w1 at *
                  refine wpAnyH_take (i := 1) (oi := { dst := some 136, op := Op.load 22 (Operand.tmp 3), type := 22, pos := "outright.go:98", after := #[], guard := none }) (v := ?_) rfl (by kernel_rfl) (by kernel_rfl) (by kernel_rfl) (fun _ _ _ h => nomatch h.1) (Or.inl ⟨by rfl, ?_⟩) (by assumption) ?_
                  rotate_left
                  · intro w hSw; (try dsimp only at hSw); go_simp
                    try with_reducible rfl
                  try simp only [Act.put, List.setIfInBounds_toArray, List.set_cons_zero, List.set_cons_succ]
                  refine wpAnyH_take (i := 2) (oi := { dst := some 137, op := Op.load 3 (Operand.tmp 8), type := 3, pos := "outright.go:98", after := #[], guard := none }) (v := ?_) rfl (by kernel_rfl) (by kernel_rfl) (by kernel_rfl) (fun _ _ _ h => nomatch h.1) (Or.inl ⟨by rfl, ?_⟩) (by assumption) ?_
                  rotate_left
                  · intro w hSw; (try dsimp only at hSw); go_simp
                    try with_reducible rfl
                  try simp only [Act.put, List.setIfInBounds_toArray, List.set_cons_zero, List.set_cons_succ]
                  refine wpAnyH_take (i := 3) (oi := { dst := some 138, op := Op.indexAddr 22 (Operand.tmp 136) (Operand.tmp 137), type := 0, pos := "outright.go:98", after := #[{ on := 1, ground := Ground.data }, { on := 2, ground := Ground.data }], guard := none }) (v := ?_) rfl (by kernel_rfl) (by kernel_rfl) (by kernel_rfl) (fun _ _ _ h => nomatch h.1) (Or.inl ⟨by rfl, ?_⟩) (by assumption) ?_
                  rotate_left
                  · intro w hSw; (try dsimp only at hSw); go_simp
                    try with_reducible rfl
                  try simp only [Act.put, List.setIfInBounds_toArray, List.set_cons_zero, List.set_cons_succ]
                  refine wpAnyH_take (i := 4) (oi := { dst := some 139, op := Op.load 2 (Operand.tmp 138), type := 2, pos := "outright.go:98", after := #[{ on := 3, ground := Ground.data }], guard := none }) (v := ?_) rfl (by kernel_rfl) (by kernel_rfl) (by kernel_rfl) (fun _ _ _ h => nomatch h.1) (Or.inl ⟨by rfl, ?_⟩) (by assumption) ?_
                  rotate_left
                  · intro w hSw; (try dsimp only at hSw); go_simp
                    try with_reducible rfl
                  try simp only [Act.put, List.setIfInBounds_toArray, List.set_cons_zero, List.set_cons_succ]
                  refine wpAnyH_ready (rs := [0, 5]) (by kernel_rfl) (by simp) ?_
                  refine AllReadyH.cons (o := { dst := some 135, op := Op.load 22 (Operand.tmp 6), type := 22, pos := "outright.go:98", after := #[], guard := none }) rfl (fun K hK => ?_) (AllReadyH.cons (o := { dst := some 140, op := Op.buildSlice 22 1 #[(0, Operand.tmp 139)], type := 22, pos := "outright.go:98", after := #[{ on := 4, ground := Ground.data }], guard := none }) rfl (fun K hK => ?_) (AllReadyH.nil))
                  · skip
                    have k1 := qw w1 hgd
                    go_simp
                    refine hK.out _ _ (hSA _ (grown_any hgd _)) (fun hHeld => ?_)
                    clear hK K
                    try simp only [Act.put, List.setIfInBounds_toArray, List.set_cons_zero, List.set_cons_succ]
                    refine wpAnyH_ready (rs := [5]) (by kernel_rfl) (by simp) ?_
                    refine AllReadyH.cons (o := { dst := some 140, op := Op.buildSlice 22 1 #[(0, Operand.tmp 139)], type := 22, pos := "outright.go:98", after := #[{ on := 4, ground := Ground.data }], guard := none }) rfl (fun K hK => ?_) (AllReadyH.nil)
                    have hga := alloc_grown w1 (.cells #[.int .i64 y] 2)
                    have hG7 := grown_trans hgd hga (by simp)
                    have hz := (Bx.new w1 (.int .i64 y) 2).at
                    go_simp
                    refine hK.out _ _ (hSA _ (grown_any hG7 _)) (fun hHeld => ?_)
                    clear hK K
                    try simp only [Act.put, List.setIfInBounds_toArray, List.set_cons_zero, List.set_cons_succ]
                    refine wpAnyH_ready (rs := [6]) (by kernel_rfl) (by simp) ?_
                    refine AllReadyH.cons (o := { dst := some 141, op := Op.call { callee := Callee.builtin Builtin.append, args := #[Operand.tmp 135, Operand.tmp 140], argTypes := #[22, 22] }, type := 22, pos := "outright.go:98", after := #[{ on := 0, ground := Ground.data }, { on := 5, ground := Ground.data }], guard := none }) rfl (fun K hK => ?_) (AllReadyH.nil)
                    refine step_append_one (by rfl) (.tmp 135) (.tmp 140) (by rfl) w3.heap.size (by rfl) (hwA _ hG7) (y := y) (by rfl) hz (by omega) (Nat.le_trans hwle hG7.size) ?_
                    intro g11 c11 w11 hV11 hg11 hl11
                    have hG11 : w10.grownBy w11 (blk wo4) := grown_trans (grown_any hG7 _) hg11 (fun k e => Or.inl e)
                    have hl12 : blk wo4 = some g11 ∨ w10.heap.size ≤ g11 := hl11.elim Or.inl (fun e => Or.inr (by rw [e]; exact hG7.size))
                    have c6 := hG11.cell bw10.at (fun e => hzn (z := zw) (by omega) e.symm)
                    have f6 : w11.frozen? ⟨zw, 0, none⟩ = false := by rw [World.grownBy.frozen_far hG11 ⟨zw, 0, none⟩ bw10.lt (fun e => hzn (z := zw) (by omega) e.symm)]; exact bw10.free
                    refine hK.out _ _ (hSA _ hG11) (fun hHeld => ?_)
                    clear hK K
                    try simp only [Act.put, List.setIfInBounds_toArray, List.set_cons_zero, List.set_cons_succ]
                    refine wpAnyH_ready (rs := [7]) (by kernel_rfl) (by simp) ?_
                    refine AllReadyH.cons (o := { dst := none, op := Op.store 22 (Operand.tmp 6) (Operand.tmp 141), type := 0, pos := "outright.go:98", after := #[{ on := 6, ground := Ground.data }, { on := 6, ground := Ground.chain }, { on := 0, ground := Ground.phase }, { on := 1, ground := Ground.phase }, { on := 2, ground := Ground.phase }, { on := 3, ground := Ground.phase }, { on := 4, ground := Ground.phase }, { on := 5, ground := Ground.phase }, { on := 6, ground := Ground.phase }], guard := none }) rfl (fun K hK => ?_) (AllReadyH.nil)
                    go_simp
                    refine hK.out _ _ (hS7 _ _ hG11) (fun hHeld => ?_)
                    clear hK K
                    try simp only [Act.put, List.setIfInBounds_toArray, List.set_cons_zero, List.set_cons_succ]
                    refine wpAnyH_done (by kernel_rfl) ?_ _
                    exact ⟨rfl, g11, c11, _, rfl, WantP.mk' hG11 hV11 hl12 bw10 (hzn (z := zw) (by omega))⟩
                  · skip
                    have hga := alloc_grown w1 (.cells #[.int .i64 y] 2)
                    have hG7 := grown_trans hgd hga (by simp)
                    have hz := (Bx.new w1 (.int .i64 y) 2).at
                    go_simp
                    refine hK.out _ _ (hSA _ (grown_any hG7 _)) (fun hHeld => ?_)
                    clear hK K
                    try simp only [Act.put, List.setIfInBounds_toArray, List.set_cons_zero, List.set_cons_succ]
                    refine wpAnyH_ready (rs := [0]) (by kernel_rfl) (by simp) ?_
                    refine AllReadyH.cons (o := { dst := some 135, op := Op.load 22 (Operand.tmp 6), type := 22, pos := "outright.go:98", after := #[], guard := none }) rfl (fun K hK => ?_) (AllReadyH.nil)
                    have k1 := qw _ hG7
                    go_simp
                    refine hK.out _ _ (hSA _ (grown_any hG7 _)) (fun hHeld => ?_)
                    clear hK K
                    try simp only [Act.put, List.setIfInBounds_toArray, List.set_cons_zero, List.set_cons_succ]
                    refine wpAnyH_ready (rs := [6]) (by kernel_rfl) (by simp) ?_
                    refine AllReadyH.cons (o := { dst := some 141, op := Op.call { callee := Callee.builtin Builtin.append, args := #[Operand.tmp 135, Operand.tmp 140], argTypes := #[22, 22] }, type := 22, pos := "outright.go:98", after := #[{ on := 0, ground := Ground.data }, { on := 5, ground := Ground.data }], guard := none }) rfl (fun K hK => ?_) (AllReadyH.nil)
                    refine step_append_one (by rfl) (.tmp 135) (.tmp 140) (by rfl) w3.heap.size (by rfl) (hwA _ hG7) (y := y) (by rfl) hz (by omega) (Nat.le_trans hwle hG7.size) ?_
                    intro g11 c11 w11 hV11 hg11 hl11
                    have hG11 : w10.grownBy w11 (blk wo4) := grown_trans (grown_any hG7 _) hg11 (fun k e => Or.inl e)
                    have hl12 : blk wo4 = some g11 ∨ w10.heap.size ≤ g11 := hl11.elim Or.inl (fun e => Or.inr (by rw [e]; exact hG7.size))
                    have c6 := hG11.cell bw10.at (fun e => hzn (z := zw) (by omega) e.symm)
                    have f6 : w11.frozen? ⟨zw, 0, none⟩ = false := by rw [World.grownBy.frozen_far hG11 ⟨zw, 0, none⟩ bw10.lt (fun e => hzn (z := zw) (by omega) e.symm)]; exact bw10.free
                    refine hK.out _ _ (hSA _ hG11) (fun hHeld => ?_)
                    clear hK K
                    try simp only [Act.put, List.setIfInBounds_toArray, List.set_cons_zero, List.set_cons_succ]
                    refine wpAnyH_ready (rs := [7]) (by kernel_rfl) (by simp) ?_
                    refine AllReadyH.cons (o := { dst := none, op := Op.store 22 (Operand.tmp 6) (Operand.tmp 141), type := 0, pos := "outright.go:98", after := #[{ on := 6, ground := Ground.data }, { on := 6, ground := Ground.chain }, { on := 0, ground := Ground.phase }, { on := 1, ground := Ground.phase }, { on := 2, ground := Ground.phase }, { on := 3, ground := Ground.phase }, { on := 4, ground := Ground.phase }, { on := 5, ground := Ground.phase }, { on := 6, ground := Ground.phase }], guard := none }) rfl (fun K hK => ?_) (AllReadyH.nil)
                    go_simp
                    refine hK.out _ _ (hS7 _ _ hG11) (fun hHeld => ?_)
                    clear hK K
                    try simp only [Act.put, List.setIfInBounds_toArray, List.set_cons_zero, List.set_cons_succ]
                    refine wpAnyH_done (by kernel_rfl) ?_ _
                    exact ⟨rfl, g11, c11, _, rfl, WantP.mk' hG11 hV11 hl12 bw10 (hzn (z := zw) (by omega))⟩
                rintro e a11 w12 ⟨rfl, g11, c11, B, rfl, hW⟩
                simp only [Act.put, List.setIfInBounds_toArray, List.set_cons_zero, List.set_cons_succ]
                have hroB : ∀ q', blk ro = some q' → WT.heap.size ≤ q' ∧ q' < w10.heap.size := hV10.from_base
                have hTw : ∀ q', (blk wo4 = some q' ∨ q' = zw) → q' < zg := fun q' e => by rcases e with e | e; exact hwz q' e; omega
                have hg2l := hM10.row.lt
                have hq2l := lt_of_heap hM10.cell
                have hb12 := hb10.chg hW.chg (by rintro (e | e); exact hwbb b e (Or.inl rfl); exact hzwb e.symm)
                have hM12 := hM10.chg hW.chg (fun e => by have := hTw q2 e; omega) (fun e => by have := hTw g2 e; omega)
                have hV12 := hV10.chg hW.chg (fun a ha e => by have h1 := hTw _ e; have h2 := hroB a.block (by rw [ha]; rfl); omega)
                have ho12 := ho10.chg hW.chg (fun e => by have := hTw zo e; omega)
                have hg12 := hg10.chg hW.chg (fun e => by have := hTw zg e; omega)
                have bi12 := bi10.chg hW.chg (by rintro (e | e); exact hzn (z := zi) (by omega) e; exact (bi10.ne bw10 (by decide)) e)
                have ba12 := ba10.chg hW.chg (by rintro (e | e); exact hzn (z := za) (by omega) e; exact hwa e.symm)
                have bw12 := hW.box
                have hv12 := hW.own.shows
                have hG12 : w.grownBy w12 none := ((Chg.of_grown hG10 _).trans hW.chg).grown (fun q' h9 e => by rcases e with e | e; exact hzn (z := q') (by omega) e; omega)
                have hgne : ∀ q', WT.heap.size ≤ q' → q' < w10.heap.size → ¬ g11 = q' := fun q' h1 h2 h3 => by
                  rcases hW.lies with e | e
                  · have := hwz _ e; omega
                  · omega
                have hgb2 : ¬ g11 = b := by
                  rcases hW.lies with e | e
                  · exact fun h9 => hwbb _ e (Or.inl h9)
                  · have := hb10.lt; omega
                have hrl : 0 < nb + 1 := by omega
                obtain ⟨gro, rfl, -, -⟩ := hV12.addr hrl
                have hgro := hroB gro rfl
                have hne12 := hne10 _ rfl
                have hs12 := hW.chg.size
                clear hSA hS7 qw hwA hw10 bw10 bi10 ba10 hG10 hb10 hM10 hV10 ho10 hg10 hne10 hW hgd hroB
                have qo12 := ho12.at
                go_wp2_with fail
                go_loopw [20] (fun i2 wr2 => ∃ (k4 : Nat) (lo : List Int), i2 = .int .i64 k4 ∧ k4 ≤ nb + 1 ∧ Vo wr2 WT.heap.size 2 (some ⟨gro, 0, none⟩) (nb + 1) rc (lo.map iv) ∧ Chg w12 wr2 (fun q => q = gro)) (fun i2 _ => nb + 1 - (intOf i2).toNat)
                case atStart => exact ⟨0, _, rfl, Nat.zero_le _, hV12, Chg.refl _ _⟩
                case round =>
                  clear hV12
                  obtain ⟨k4, lo, rfl, hk4, hor, hcr⟩ := hrel
                  have hor2 := ho12.chg hcr (by omega)
                  have qor := hor2.at
                  by_cases hlt4 : k4 < nb + 1
                  · have hml : lo.length = nb + 1 := by simpa using hor.len
                    obtain ⟨x, hx⟩ : ∃ x, lo[k4]? = some x := ⟨_, List.getElem?_eq_getElem (by omega)⟩
                    have p1 := hor.shows.at (j := k4) (u := .int .i64 x) (by rw [List.getElem?_map, hx]; rfl)
                    rw [Nat.zero_add] at p1
                    have p2 := hor.there k4
                    have p3 := hor.set k4 (wrap64 (x + 1))
                    have p4 := setCell_chg wr gro k4 (.int .i64 (wrap64 (x + 1)))
                    have f3 : (k4 : Int) < (nb : Int) + 1 := by omega
                    have f4 : decide ((k4 : Int) < (nb : Int) + 1) = true := by simp; omega
                    have f5 : decide (k4 < nb + 1) = true := by simp; omega
                    have f6 : (k4 : Int) < ((nb + 1 : Nat) : Int) := by omega
                    have j2 : (0 : Int) ≤ (k4 : Int) := by omega
                    clear hor hx hml hor2
                    go_wp2
                    go_roundw
                    case rel => exact ⟨k4 + 1, _, by go_num, by omega, p3, hcr.trans p4⟩
                    case measure => simp [intOf]; omega
                  · obtain rfl : k4 = nb + 1 := by omega
                    have hb13 := hb12.chg hcr (by have := hgro.1; have := hb12.lt; omega)
                    have hM13 := hM12.chg hcr (fun e => hne12.2 e.symm) (fun e => hne12.1 e.symm)
                    have hg13 := hg12.chg hcr (by omega)
                    have bi13 := bi12.chg hcr (by omega)
                    have ba13 := ba12.chg hcr (by omega)
                    have bw13 := bw12.chg hcr (by omega)
                    have hv13 := hv12.chg hcr (fun a ha e => by obtain rfl := Option.some.inj ha; exact hgne gro hgro.1 hgro.2 e)
                    have hG13 : w.grownBy wr none := ((Chg.of_grown hG12 _).trans hcr).grown (fun q' h9 e => by have h3 : q' = gro := e; omega)
                    clear hb12 hM12 hg12 bi12 ba12 bw12 hv12 hG12 hor hcr ho12 hor2 qo12
                    go_wp2_with fail
                    refine (bget_any wr b _ _ _ (Bd.list q2 g2 (nb + 1) (ver + 1 + 1) (l ++ [y]) hb13 hM13)).mono ?_
                    rintro e w14 ⟨gr2, rfl, hr14, hg14, -⟩
                    have hly : (l ++ [y]).length = nb + 1 := by simp [hll]
                    have hG14 := grown_trans hG13 hg14 (by simp)
                    have hv14 := hv13.grown hg14
                    have bw14 := bw13.grown hg14
                    have hvr2 : Vs w14 (some ⟨gr2, 0, none⟩) (nb + 1) (nb + 1) ((l ++ [y]).map iv) := by
                      have := hr14.shows (iv_one _) (by rw [List.length_map, hly]; unfold maxLen; omega)
                      rw [List.length_map, hly] at this
                      exact this
                    have qw14 := bw14.at
                    have hB14 := (Bd.list q2 g2 (nb + 1) (ver + 1 + 1) (l ++ [y]) hb13 hM13).grown hg14
                    have hg14' := hg13.grown hg14
                    have bi14 := bi13.grown hg14
                    have ba14 := ba13.grown hg14
                    rw [hly]
                    clear hb13 hM13 hg13 bi13 ba13 bw13 hv13 hG13 hr14 hg14 hly
                    go_wp2_with fail
                    refine (same_yes w14 _ _ (nb + 1) _ _ (l ++ [y]) hvr2 hv14 (by omega)).mono ?_
                    rintro e w15 ⟨rfl, hg15⟩
                    have qg15 := (hg14'.grown hg15).at
                    have qi15 := (bi14.grown hg15).at
                    have hG15 := grown_trans hG14 hg15 (by simp)
                    have hga := alloc_grown w15 (.cells #[.int .i64 ((k : Int) + 1)] 3)
                    have hsz := hG15.size
                    have hnw := Bx.new w15 (.int .i64 ((k : Int) + 1)) 3
                    have hB15 := (hB14.grown hg15).grown hga
                    have bw15 := (bw14.grown hg15).grown hga
                    have ba15 := (ba14.grown hg15).grown hga
                    clear hB14 hg14' bi14 ba14 bw14 hv14 hvr2 hG14 qw14
                    go_wp2
                    go_roundw
                    case rel => exact ⟨ver + 1 + 1, k + 1, w15.heap.size, rfl, rfl, by omega, ⟨⟨_, _, hB15, fun q' h9 => by rcases h9 with h9 | h9 | h9 <;> omega⟩, ⟨_, _, _, bw15⟩, ba15, hnw, by omega, by omega, grown_trans hG15 hga (by simp), sb, sw, sa, hsz, hwa⟩⟩
                    case measure => rw [hleft.out, left_at (k := k + 1) hnw]; omega
              · have t5 : ¬ (k : Int) < (an : Int) := by omega
                have t6 : decide ((k : Int) < (an : Int)) = false := by simp; omega
                have t7 : decide (k < an) = false := by simp; omega
                have hga := alloc_grown wr (.cells #[.int .i64 ((k : Int) + 1)] 3)
                have hsz := hG9.size
                have hnw := Bx.new wr (.int .i64 ((k : Int) + 1)) 3
                go_wp2
                go_roundw
                case rel => exact ⟨ver + 1, k + 1, wr.heap.size, rfl, rfl, by omega, ⟨⟨_, _, hB9.grown hga, fun q' h9 => (hT5 q' h9).1⟩, ⟨_, _, _, bw9.grown hga⟩, ba9.grown hga, hnw, by omega, by omega, grown_trans hG9 hga (by simp), sb, sw, sa, hsz, hwa⟩⟩
                case measure => rw [hleft.out, left_at (k := k + 1) hnw]; omega
    · obtain rfl : k = n0 := by omega
      have hG := hI.g
      clear hI
      go_wp2_with fail
      refine (bget_nil wr).mono ?_
      rintro e w2 ⟨rfl, hw⟩
      replace hw := hw.symm
      subst hw
      go_wp2_with fail
      refine (publish_nil wr _).mono ?_
      rintro e w2 ⟨rfl, hw⟩
      replace hw := hw.symm
      subst hw
      go_wp2_with fail
      refine (turn_nil wr).mono ?_
      rintro e w2 ⟨rfl, hg2⟩
      go_wp2_with fail
      refine (turn_nofn w2 b).mono ?_
      rintro e w3 ⟨rfl, hg3⟩
      have hG3 := grown_trans (grown_trans hG hg2 (by simp)) hg3 (by simp)
      clear hG hg2 hg3 qi
      go_wp2_with fail
      obtain ⟨W4, hW4⟩ : ∃ W4, w3.alloc (.cells #[.pointer none] 53) = W4 := ⟨_, rfl⟩
      have hg4 : w3.grownBy W4 none := by rw [← hW4]; exact alloc_grown _ _
      have hz4 : Bx W4 w3.heap.size 53 (.pointer none) := by rw [← hW4]; exact Bx.new _ _ _
      have hG4 := grown_trans hG3 hg4 (by simp)
      rw [hW4]
      clear hW4 hg4 hG3
      refine (bget_none W4 w3.heap.size hz4).mono ?_
      rintro e w5 ⟨gr, rfl, -, hg5, -⟩
      have hG5 := grown_trans hG4 hg5 (by simp)
      clear hz4 hG4 hg5
      go_wp2_with fail
      refine (known_any w5).mono ?_
      rintro e w6 ⟨rfl, hg6⟩
      have hG6 := grown_trans hG5 hg6 (by simp)
      go_wp2
      go_ret
      exact ⟨rfl, hG6⟩
end Go.Proofs.Ytaijgfblceakaaa
