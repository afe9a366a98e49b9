/-
  Region 1 of RingParts (its arguments, laid apart), whatever the order.
-/
import Derived.Test.YtabnpgmkccmneaaF2
import Derived.Test.YtabnpgmkccmneaaOrd
namespace Go.Proofs.Ytabnpgmkccmneaa
open Go.RowKit Go.Shelf
set_option linter.unusedVariables false

theorem box_ne {w : World} {b b' : Nat} {t t' : TypeId} {v v' : Value} (h : Boxed w b t v) (h' : Boxed w b' t' v') (ht : t ≠ t') : b ≠ b' := by
  intro e
  subst e
  have h1 : w.heap[b]? = _ := h
  have h2 : w.heap[b]? = _ := h'
  rw [h1] at h2
  simp at h2
  exact ht h2.2
theorem box_grown {w w' : World} {b : Nat} {t : TypeId} {v : Value} (h : Boxed w b t v) (hg : w.grownBy w' none) : Boxed w' b t v := h.kept hg (by simp)
theorem alloc_grown (w : World) (o : Obj) : w.grownBy (w.alloc o) none := World.grownBy_alloc w o none
theorem set_grown {w0 w : World} (h : w0.grownBy w none) {b : Nat} (hb : w0.heap.size ≤ b) (v : Value) : w0.grownBy (w.setCell ⟨b, 0, none⟩ v) none :=
  grown_trans h (grownBy_setCell' w b v) (fun k hk => by cases hk; exact Or.inr hb)

def sl1 : Nat → Option Nat
  | 0 => some 28 | 1 => some 29 | 2 => some 30 | 3 => some 31 | 4 => some 32 | 5 => some 33 | 6 => some 34 | 7 => some 35 | 8 => some 3 | 9 => some 5 | 10 => some 6 | 12 => some 4 | _ => none
theorem sl1_lt {i s : Nat} (h : sl1 i = some s) : i < 13 ∧ s < 36 := by
  unfold sl1 at h
  split at h <;> simp_all <;> omega
theorem sl1_inj (i j s : Nat) (hi : sl1 i = some s) (hj : sl1 j = some s) : i = j := by
  have h1 := (sl1_lt hi).1
  have h2 := (sl1_lt hj).1
  have h3 : ∀ a : Fin 13, ∀ b : Fin 13, sl1 a = sl1 b → sl1 a = none ∨ a = b := by decide
  rcases h3 ⟨i, h1⟩ ⟨j, h2⟩ (hi.trans hj.symm) with h | h
  · rw [hi] at h; cases h
  · exact congrArg Fin.val h

def vals1 (pb : Nat) (xo : Option Addr) (k cp : Nat) (ahead n m : Int) : Nat → Option Value
  | 0 => some (.pointer (some ⟨pb, 0, none⟩)) | 1 => some (.slice xo k cp) | 2 => some (.pointer (some ⟨pb, 1, none⟩)) | 3 => some (.int .i64 ahead) | 4 => some (.pointer (some ⟨pb, 2, none⟩)) | 5 => some (.int .i64 n) | 6 => some (.pointer (some ⟨pb, 3, none⟩)) | 7 => some (.int .i64 m) | 12 => some (.int .i64 ahead) | _ => none

theorem getD_mono {l : Array Bool} {i j k : Nat} (hk : l.size = k) (hi : i < k) (h : l.getD j false = true) : (l.setIfInBounds i true).getD j false = true := by
  rw [getD_set (by omega)]
  split
  · rfl
  · exact h
/-- What is stored into was laid. -/
def Sto (L : List (Nat × Nat)) (l : Array Bool) : Prop := ∀ p ∈ L, l.getD p.1 false = true → l.getD p.2 false = true
theorem Sto.next {L : List (Nat × Nat)} {l : Array Bool} {i k : Nat} (h : Sto L l) (hk : l.size = k) (hi : i < k) (hi2 : ∀ p ∈ L, p.1 = i → l.getD p.2 false = true) : Sto L (l.setIfInBounds i true) := by
  intro p hp h9
  rcases getD_next hk hi h9 with e | e
  · exact getD_mono hk hi (hi2 p hp e)
  · exact getD_mono hk hi (h p hp e)

/-- A block that was laid in this region, its address in slot s. -/
def Laid (N s : Nat) (t : TypeId) (v : Value) (a : Act) (w : World) : Prop := ∃ b, a.tmps[s]? = some (.pointer (some ⟨b, 0, none⟩)) ∧ N ≤ b ∧ Boxed w b t v

theorem Laid.grown {N s : Nat} {t : TypeId} {v : Value} {a a' : Act} {w w' : World} (h : Laid N s t v a w) (ha : a'.tmps[s]? = a.tmps[s]?) (hg : w.grownBy w' none) : Laid N s t v a' w' := by
  obtain ⟨b, h1, h2, h3⟩ := h
  exact ⟨b, ha.trans h1, h2, box_grown h3 hg⟩

structure J1 (A : Array Value) (w0 : World) (pb : Nat) (xo : Option Addr) (k cp : Nat) (ahead n m : Int) (l : Array Bool) (a : Act) (w : World) : Prop where
  fr : Fr A [3, 4, 5, 6, 28, 29, 30, 31, 32, 33, 34, 35] 15 l a
  tv : Tv sl1 (vals1 pb xo k cp ahead n m) l a
  gr : w0.grownBy w none
  p3 : l.getD 8 false = true → Laid w0.heap.size 3 30 (if l.getD 11 false = true then .slice xo k cp else .slice none 0 0) a w
  p5 : l.getD 9 false = true → Laid w0.heap.size 5 3 (if l.getD 13 false = true then .int .i64 n else .int .i64 0) a w
  p6 : l.getD 10 false = true → Laid w0.heap.size 6 3 (if l.getD 14 false = true then .int .i64 m else .int .i64 0) a w
  ne : l.getD 9 false = true → l.getD 10 false = true → a.tmps[5]? ≠ a.tmps[6]?
  st : Sto [(11, 8), (13, 9), (14, 10)] l

section
variable {A : Array Value} {w0 : World} {pb : Nat} {xo : Option Addr} {k cp : Nat} {ahead n m : Int} {l : Array Bool} {a : Act} {w : World}

/-- A quiet operation: a slot is filled. -/
theorem J1.quiet (hA : A.size = 305) (h : J1 A w0 pb xo k cp ahead n m l a w) (i s : Nat) (hi : i < 15) (hs : sl1 i = some s) (hq : i < 8 ∨ i = 12) (u : Value) (hu : ∀ v, vals1 pb xo k cp ahead n m i = some v → u = v) : J1 A w0 pb xo k cp ahead n m (l.setIfInBounds i true) (a.put (some s) u) w := by
  have hmem : s ∈ [3, 4, 5, 6, 28, 29, 30, 31, 32, 33, 34, 35] := by
    unfold sl1 at hs
    split at hs <;> simp_all <;> omega
  have hne : s ≠ 3 ∧ s ≠ 5 ∧ s ≠ 6 := by
    unfold sl1 at hs
    split at hs <;> simp_all <;> omega
  have hsz := h.fr.size
  have o := fun j (hj : j ≠ i) => getD_other (j := j) hsz hi hj
  refine ⟨h.fr.put i s u hmem, Tv.put h.fr h.tv sl1_inj (fun i s hs => by have := (sl1_lt hs).2; omega) i s hi hs u hu, h.gr, ?_, ?_, ?_, ?_, h.st.next hsz hi (fun p hp e => by simp at hp; rcases hp with rfl | rfl | rfl <;> simp at e <;> omega)⟩
  · rw [o 8 (by omega), o 11 (by omega)]
    exact fun h9 => (h.p3 h9).grown (put_other hne.1) (grown_refl _ none)
  · rw [o 9 (by omega), o 13 (by omega)]
    exact fun h9 => (h.p5 h9).grown (put_other hne.2.1) (grown_refl _ none)
  · rw [o 10 (by omega), o 14 (by omega)]
    exact fun h9 => (h.p6 h9).grown (put_other hne.2.2) (grown_refl _ none)
  · rw [o 9 (by omega), o 10 (by omega), put_other hne.2.1, put_other hne.2.2]
    exact h.ne

end

set_option maxRecDepth 100000 in
set_option maxHeartbeats 8000000 in
theorem reg1 {ops : Array Oper} (hops : Try.f5.body.bind (findReg 1) = some ops) {w0 : World} {pb : Nat} {xo : Option Addr} {k cp : Nat} {ahead n m : Int} (h0 : w0.cell? ⟨pb, 0, none⟩ = some (.slice xo k cp)) (h1 : w0.cell? ⟨pb, 1, none⟩ = some (.int .i64 ahead)) (h2 : w0.cell? ⟨pb, 2, none⟩ = some (.int .i64 n)) (h3 : w0.cell? ⟨pb, 3, none⟩ = some (.int .i64 m))
    {Q : Exit → Act → World → Prop} {a : Act} (hroom : a.tmps.size = 305) (hdf : a.defers = []) (b1 : a.tmps[1]? = some (.pointer (some ⟨pb, 0, none⟩)))
    (hQ : ∀ a' w' b3 b5 b6, a'.tmps.size = a.tmps.size → a'.defers = [] → (∀ s, s ∉ [3, 4, 5, 6, 28, 29, 30, 31, 32, 33, 34, 35] → a'.tmps[s]? = a.tmps[s]?) → a'.tmps[3]? = some (.pointer (some ⟨b3, 0, none⟩)) → a'.tmps[4]? = some (.int .i64 ahead) → a'.tmps[5]? = some (.pointer (some ⟨b5, 0, none⟩)) → a'.tmps[6]? = some (.pointer (some ⟨b6, 0, none⟩)) →
      Boxed w' b3 30 (.slice xo k cp) → Boxed w' b5 3 (.int .i64 n) → Boxed w' b6 3 (.int .i64 m) → b5 ≠ b6 → w0.heap.size ≤ b3 → w0.heap.size ≤ b5 → w0.heap.size ≤ b6 → w0.grownBy w' none → Q .normal a' w') :
    wpAny Try.prog .any ops Q 15 (Array.replicate 15 false) a w0 := by
  have hops2 : ∃ ops', Try.f5.body.bind (findReg 1) = some ops' ∧ wpAny Try.prog .any ops' Q 15 (Array.replicate 15 false) a w0 := by
    refine ⟨_, rfl, ?_⟩
    refine any_order (J := J1 a.tmps w0 pb xo k cp ahead n m) ?size ?step ?stop ?low _ _ _ _ ?init ?count
    case size => exact fun l a w h => h.fr.size
    case low => exact low_of (by kernel_rfl)
    case count => exact left_all 15
    case init =>
      have hno : ∀ j, (Array.replicate 15 false).getD j false = true → False := by
        intro j hj
        by_cases h9 : j < 15 <;> simp [h9] at hj
      exact ⟨⟨rfl, rfl, hdf, fun _ _ => rfl⟩, fun j hj => (hno j hj).elim, grown_refl _ none, fun h => (hno _ h).elim, fun h => (hno _ h).elim, fun h => (hno _ h).elim, fun h => (hno _ h).elim, fun p _ h => (hno _ h).elim⟩
    case stop =>
      intro l a' w' hJ hall
      obtain ⟨c3, d3, e3, f3⟩ := hJ.p3 (hall 8 (by simp))
      obtain ⟨c5, d5, e5, f5⟩ := hJ.p5 (hall 9 (by simp))
      obtain ⟨c6, d6, e6, f6⟩ := hJ.p6 (hall 10 (by simp))
      rw [if_pos (hall 11 (by simp))] at f3
      rw [if_pos (hall 13 (by simp))] at f5
      rw [if_pos (hall 14 (by simp))] at f6
      have hne := hJ.ne (hall 9 (by simp)) (hall 10 (by simp))
      exact hQ a' w' c3 c5 c6 hJ.fr.room hJ.fr.defers hJ.fr.same d3 (hJ.tv 12 (hall 12 (by simp)) 4 _ rfl rfl) d5 d6 f3 f5 f6 (fun e => hne (by rw [d5, d6, e])) e3 e5 e6 hJ.gr
    case step =>
      intro l a' w' q op hJ ho hl hdep
      have hq : q < 15 := by
        have h9 := (Array.getElem?_eq_some_iff.1 ho).1
        simpa using h9
      have e1 := hJ.fr.at b1 (by decide)
      have hsz := hJ.fr.size
      have HR : Hid (a.tmps.size = 305) := hroom
      clear hQ hroom
      match q, hq with
      | 0, _ =>
        cases ho
        clear hdep
        refine wpOp_step rfl (fun K hK => ?_)
        go_simp
        exact hK _ _ (hJ.quiet HR.out 0 28 (by omega) rfl (by omega) _ (fun v hv => by cases hv; rfl))
      | 1, _ =>
        cases ho
        have x1 := hJ.tv 0 (hdep { on := 0, ground := .data } (by simp) rfl) 28 _ rfl rfl
        have hc := hJ.gr.cell h0 (by simp)
        clear hdep
        refine wpOp_step rfl (fun K hK => ?_)
        go_simp
        exact hK _ _ (hJ.quiet HR.out 1 29 (by omega) rfl (by omega) _ (fun v hv => by cases hv; rfl))
      | 2, _ =>
        cases ho
        clear hdep
        refine wpOp_step rfl (fun K hK => ?_)
        go_simp
        exact hK _ _ (hJ.quiet HR.out 2 30 (by omega) rfl (by omega) _ (fun v hv => by cases hv; rfl))
      | 3, _ =>
        cases ho
        have x1 := hJ.tv 2 (hdep { on := 2, ground := .data } (by simp) rfl) 30 _ rfl rfl
        have hc := hJ.gr.cell h1 (by simp)
        clear hdep
        refine wpOp_step rfl (fun K hK => ?_)
        go_simp
        exact hK _ _ (hJ.quiet HR.out 3 31 (by omega) rfl (by omega) _ (fun v hv => by cases hv; rfl))
      | 4, _ =>
        cases ho
        clear hdep
        refine wpOp_step rfl (fun K hK => ?_)
        go_simp
        exact hK _ _ (hJ.quiet HR.out 4 32 (by omega) rfl (by omega) _ (fun v hv => by cases hv; rfl))
      | 5, _ =>
        cases ho
        have x1 := hJ.tv 4 (hdep { on := 4, ground := .data } (by simp) rfl) 32 _ rfl rfl
        have hc := hJ.gr.cell h2 (by simp)
        clear hdep
        refine wpOp_step rfl (fun K hK => ?_)
        go_simp
        exact hK _ _ (hJ.quiet HR.out 5 33 (by omega) rfl (by omega) _ (fun v hv => by cases hv; rfl))
      | 6, _ =>
        cases ho
        clear hdep
        refine wpOp_step rfl (fun K hK => ?_)
        go_simp
        exact hK _ _ (hJ.quiet HR.out 6 34 (by omega) rfl (by omega) _ (fun v hv => by cases hv; rfl))
      | 7, _ =>
        cases ho
        have x1 := hJ.tv 6 (hdep { on := 6, ground := .data } (by simp) rfl) 34 _ rfl rfl
        have hc := hJ.gr.cell h3 (by simp)
        clear hdep
        refine wpOp_step rfl (fun K hK => ?_)
        go_simp
        exact hK _ _ (hJ.quiet HR.out 7 35 (by omega) rfl (by omega) _ (fun v hv => by cases hv; rfl))
      | 8, _ =>
        cases ho
        clear hdep
        refine wpOp_step rfl (fun K hK => ?_)
        go_simp
        refine hK (a'.put (some 3) (.pointer (some ⟨w'.heap.size, 0, none⟩))) (w'.alloc (.cells #[.slice none 0 0] 30)) ?_
        have o := fun j (hj : j ≠ 8) => getD_other (l := l) (i := 8) (j := j) hsz (by omega) hj
        have hg := alloc_grown w' (.cells #[.slice none 0 0] 30)
        refine ⟨hJ.fr.put 8 3 _ (by decide), Tv.put hJ.fr hJ.tv sl1_inj (fun i s hs => by have := (sl1_lt hs).2; have h9 := HR.out; omega) 8 3 (by omega) rfl _ (fun v hv => by cases hv), grown_trans hJ.gr hg (by simp), ?_, ?_, ?_, ?_, hJ.st.next hsz (by omega) (fun p hp e => by simp at hp; rcases hp with rfl | rfl | rfl <;> simp at e)⟩
        · intro _
          have hn : l.getD 11 false ≠ true := fun h9 => getD_both (hJ.st (11, 8) (by simp) h9) hl
          rw [o 11 (by omega), if_neg hn]
          exact ⟨_, put_self (by have h8 := hJ.fr.room; have h9 := HR.out; omega), hJ.gr.size, Boxed.new w' 30 _⟩
        · rw [o 9 (by omega), o 13 (by omega)]
          exact fun h9 => (hJ.p5 h9).grown (put_other (by omega)) hg
        · rw [o 10 (by omega), o 14 (by omega)]
          exact fun h9 => (hJ.p6 h9).grown (put_other (by omega)) hg
        · rw [o 9 (by omega), o 10 (by omega), put_other (by omega), put_other (by omega)]
          exact hJ.ne
      | 9, _ =>
        cases ho
        clear hdep
        refine wpOp_step rfl (fun K hK => ?_)
        go_simp
        refine hK (a'.put (some 5) (.pointer (some ⟨w'.heap.size, 0, none⟩))) (w'.alloc (.cells #[.int .i64 0] 3)) ?_
        have o := fun j (hj : j ≠ 9) => getD_other (l := l) (i := 9) (j := j) hsz (by omega) hj
        have hg := alloc_grown w' (.cells #[.int .i64 0] 3)
        refine ⟨hJ.fr.put 9 5 _ (by decide), Tv.put hJ.fr hJ.tv sl1_inj (fun i s hs => by have := (sl1_lt hs).2; have h9 := HR.out; omega) 9 5 (by omega) rfl _ (fun v hv => by cases hv), grown_trans hJ.gr hg (by simp), ?_, ?_, ?_, ?_, hJ.st.next hsz (by omega) (fun p hp e => by simp at hp; rcases hp with rfl | rfl | rfl <;> simp at e)⟩
        · rw [o 8 (by omega), o 11 (by omega)]
          exact fun h9 => (hJ.p3 h9).grown (put_other (by omega)) hg
        · intro _
          have hn : l.getD 13 false ≠ true := fun h9 => getD_both (hJ.st (13, 9) (by simp) h9) hl
          rw [o 13 (by omega), if_neg hn]
          exact ⟨_, put_self (by have h8 := hJ.fr.room; have h9 := HR.out; omega), hJ.gr.size, Boxed.new w' 3 _⟩
        · rw [o 10 (by omega), o 14 (by omega)]
          exact fun h9 => (hJ.p6 h9).grown (put_other (by omega)) hg
        · rw [o 10 (by omega), put_self (by have h8 := hJ.fr.room; have h9 := HR.out; omega), put_other (by omega)]
          intro _ h10 e
          obtain ⟨c6, d6, _, f6⟩ := hJ.p6 h10
          rw [d6] at e
          have := f6.lt
          simp at e
      | 10, _ =>
        cases ho
        clear hdep
        refine wpOp_step rfl (fun K hK => ?_)
        go_simp
        refine hK (a'.put (some 6) (.pointer (some ⟨w'.heap.size, 0, none⟩))) (w'.alloc (.cells #[.int .i64 0] 3)) ?_
        have o := fun j (hj : j ≠ 10) => getD_other (l := l) (i := 10) (j := j) hsz (by omega) hj
        have hg := alloc_grown w' (.cells #[.int .i64 0] 3)
        refine ⟨hJ.fr.put 10 6 _ (by decide), Tv.put hJ.fr hJ.tv sl1_inj (fun i s hs => by have := (sl1_lt hs).2; have h9 := HR.out; omega) 10 6 (by omega) rfl _ (fun v hv => by cases hv), grown_trans hJ.gr hg (by simp), ?_, ?_, ?_, ?_, hJ.st.next hsz (by omega) (fun p hp e => by simp at hp; rcases hp with rfl | rfl | rfl <;> simp at e)⟩
        · rw [o 8 (by omega), o 11 (by omega)]
          exact fun h9 => (hJ.p3 h9).grown (put_other (by omega)) hg
        · rw [o 9 (by omega), o 13 (by omega)]
          exact fun h9 => (hJ.p5 h9).grown (put_other (by omega)) hg
        · intro _
          have hn : l.getD 14 false ≠ true := fun h9 => getD_both (hJ.st (14, 10) (by simp) h9) hl
          rw [o 14 (by omega), if_neg hn]
          exact ⟨_, put_self (by have h8 := hJ.fr.room; have h9 := HR.out; omega), hJ.gr.size, Boxed.new w' 3 _⟩
        · rw [o 9 (by omega), put_self (by have h8 := hJ.fr.room; have h9 := HR.out; omega), put_other (by omega)]
          intro h9 _ e
          obtain ⟨c5, d5, _, f5⟩ := hJ.p5 h9
          rw [d5] at e
          have := f5.lt
          simp at e
      | 11, _ =>
        cases ho
        have x1 := hJ.tv 1 (hdep { on := 1, ground := .data } (by simp) rfl) 29 _ rfl rfl
        have hal := hdep { on := 8, ground := .data } (by simp) rfl
        obtain ⟨c, d, e, f⟩ := hJ.p3 hal
        have fc := f.cell
        have ff := f.frozen
        clear hdep
        refine wpOp_step rfl (fun K hK => ?_)
        go_simp
        refine hK _ _ ?_
        have o := fun j (hj : j ≠ 11) => getD_other (l := l) (i := 11) (j := j) hsz (by omega) hj
        have hg := set_grown hJ.gr e (v := .slice xo k cp)
        refine ⟨hJ.fr.skip 11, Tv.skip hJ.fr hJ.tv 11 (by omega) rfl, hg, ?_, ?_, ?_, ?_, hJ.st.next hsz (by omega) (fun p hp e => by simp at hp; rcases hp with rfl | rfl | rfl <;> simp at e <;> exact hal)⟩
        · intro _
          rw [getD_set (by omega), if_pos rfl, if_pos rfl]
          exact ⟨c, d, e, f.set _⟩
        · rw [o 9 (by omega), o 13 (by omega)]
          intro h9
          obtain ⟨c2, d2, e2, f2⟩ := hJ.p5 h9
          have hne := box_ne f2 f (by decide)
          exact ⟨c2, d2, e2, f2.other hne _⟩
        · rw [o 10 (by omega), o 14 (by omega)]
          intro h9
          obtain ⟨c2, d2, e2, f2⟩ := hJ.p6 h9
          have hne := box_ne f2 f (by decide)
          exact ⟨c2, d2, e2, f2.other hne _⟩
        · rw [o 9 (by omega), o 10 (by omega)]
          exact hJ.ne
      | 12, _ =>
        cases ho
        have x1 := hJ.tv 3 (hdep { on := 3, ground := .data } (by simp) rfl) 31 _ rfl rfl
        clear hdep
        refine wpOp_step rfl (fun K hK => ?_)
        go_simp
        exact hK _ _ (hJ.quiet HR.out 12 4 (by omega) rfl (by omega) _ (fun v hv => by cases hv; rfl))
      | 13, _ =>
        cases ho
        have x1 := hJ.tv 5 (hdep { on := 5, ground := .data } (by simp) rfl) 33 _ rfl rfl
        have hal := hdep { on := 9, ground := .data } (by simp) rfl
        obtain ⟨c, d, e, f⟩ := hJ.p5 hal
        have fc := f.cell
        have ff := f.frozen
        clear hdep
        refine wpOp_step rfl (fun K hK => ?_)
        go_simp
        refine hK _ _ ?_
        have o := fun j (hj : j ≠ 13) => getD_other (l := l) (i := 13) (j := j) hsz (by omega) hj
        have hg := set_grown hJ.gr e (v := .int .i64 n)
        refine ⟨hJ.fr.skip 13, Tv.skip hJ.fr hJ.tv 13 (by omega) rfl, hg, ?_, ?_, ?_, ?_, hJ.st.next hsz (by omega) (fun p hp e => by simp at hp; rcases hp with rfl | rfl | rfl <;> simp at e <;> exact hal)⟩
        · rw [o 8 (by omega), o 11 (by omega)]
          intro h9
          obtain ⟨c2, d2, e2, f2⟩ := hJ.p3 h9
          have hne := box_ne f2 f (by decide)
          exact ⟨c2, d2, e2, f2.other hne _⟩
        · intro _
          rw [getD_set (by omega), if_pos rfl, if_pos rfl]
          exact ⟨c, d, e, f.set _⟩
        · rw [o 10 (by omega), o 14 (by omega)]
          intro h9
          obtain ⟨c2, d2, e2, f2⟩ := hJ.p6 h9
          have hne : c2 ≠ c := fun e9 => hJ.ne hal h9 (by rw [d, d2, e9])
          exact ⟨c2, d2, e2, f2.other hne _⟩
        · rw [o 9 (by omega), o 10 (by omega)]
          exact hJ.ne
      | 14, _ =>
        cases ho
        have x1 := hJ.tv 7 (hdep { on := 7, ground := .data } (by simp) rfl) 35 _ rfl rfl
        have hal := hdep { on := 10, ground := .data } (by simp) rfl
        obtain ⟨c, d, e, f⟩ := hJ.p6 hal
        have fc := f.cell
        have ff := f.frozen
        clear hdep
        refine wpOp_step rfl (fun K hK => ?_)
        go_simp
        refine hK _ _ ?_
        have o := fun j (hj : j ≠ 14) => getD_other (l := l) (i := 14) (j := j) hsz (by omega) hj
        have hg := set_grown hJ.gr e (v := .int .i64 m)
        refine ⟨hJ.fr.skip 14, Tv.skip hJ.fr hJ.tv 14 (by omega) rfl, hg, ?_, ?_, ?_, ?_, hJ.st.next hsz (by omega) (fun p hp e => by simp at hp; rcases hp with rfl | rfl | rfl <;> simp at e <;> exact hal)⟩
        · rw [o 8 (by omega), o 11 (by omega)]
          intro h9
          obtain ⟨c2, d2, e2, f2⟩ := hJ.p3 h9
          have hne := box_ne f2 f (by decide)
          exact ⟨c2, d2, e2, f2.other hne _⟩
        · rw [o 9 (by omega), o 13 (by omega)]
          intro h9
          obtain ⟨c2, d2, e2, f2⟩ := hJ.p5 h9
          have hne : c2 ≠ c := fun e9 => hJ.ne h9 hal (by rw [d, d2, e9])
          exact ⟨c2, d2, e2, f2.other hne _⟩
        · intro _
          rw [getD_set (by omega), if_pos rfl, if_pos rfl]
          exact ⟨c, d, e, f.set _⟩
        · rw [o 9 (by omega), o 10 (by omega)]
          exact hJ.ne
  obtain ⟨ops', hh1, hh2⟩ := hops2
  rw [hops] at hh1
  cases hh1
  exact hh2
end Go.Proofs.Ytabnpgmkccmneaa
