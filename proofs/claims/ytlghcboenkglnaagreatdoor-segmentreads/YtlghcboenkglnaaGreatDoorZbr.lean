import Derived.Test.YtlghcboenkglnaaGreatDoorZaw
import Derived.Test.YtlghcboenkglnaaGreatDoorZbq
import Derived.Test.YtlghcboenkglnaaGreatDoorX1
/-
  batches' closure as an iterator over the batches of a file, read in pieces.
-/
namespace Go.Proofs.YtlghcboenkglnaaGreatDoor
open Go.RowKit Go.Shelf
set_option linter.unusedVariables false
attribute [local go_sem] Oper.semAt_some

/-- What a round is handed: a batch that lies there, and its records. -/
structure Bx where
  b : Int
  g : Nat
  c : Nat
  rs : List Rec.Rc
def benc (x : Bx) : Array Value := #[.agg #[.int .i64 x.b, .slice (some ⟨x.g, 0, none⟩) x.c x.c], .int .i64 0]
/-- What is told of it: it is the next batch. -/
def Btold (Q : List (Nat × Int × List Rec.Dr)) (pre : List Bx) (x : Bx) (W : World) : Prop :=
  (∃ y, Q[pre.length]? = some y ∧ y.2.1 = x.b ∧ y.2.2 = Rec.ds x.rs) ∧ Rec.Rs W (some ⟨x.g, 0, none⟩) x.c x.c x.rs ∧ Rec.NR W x.rs ∧ x.c ≤ 65536
theorem chn_end {B : List UInt8} {Z : Nat} {Q : List (Nat × Int × List Rec.Dr)} (h : Rec.Chn B Z Q) (hZ : B.length ≤ Z) : Q = [] := by
  cases Q with
  | nil => rfl
  | cons x Q =>
    exfalso
    have h2 := h.2.1
    have h1 : Z = B.length := by have := h.le; omega
    rw [h1, List.drop_length] at h2
    exact Rec.ext_nil h2
section
variable {d i : Nat} {fs : List (Int × Int)} {st : Int} {T : Nat → Prop} {L : List Dsk.Rf}
theorem pv_kr {w W : World} {Bk q : Nat} (h : Dsk.Pv w T d L fs st i) (hk : Rec.Kr Bk q w W) (hT : ∀ k, T k → k < Bk ∧ k ≠ q) : Dsk.Pv W T d L fs st i := h.chg hk.chg (fun k hk e => e (hT k hk))
set_option maxRecDepth 100000 in
set_option maxHeartbeats 4000000 in
theorem iter1 (Bk l zp zf q p : Nat) (f : Fi) (B : List UInt8) (Q : List (Nat × Int × List Rec.Dr)) (J Jx : List Bx → World → Prop) (m : Nat) (hm : 1 ≤ m) (hi : i ≤ 4000)
    (hJ : ∀ s W W', J s W → W.grownBy W' none → J s W')
    (hY : ∀ pre x W0 W1, J pre W0 → W0.grownBy W1 none → W0.heap.size ≤ x.g → Btold Q pre x W1 → YieldAt Fence.wide (m - 1) Tryz.prog l (benc x) W1 (Said J Jx (Rec.Kr Bk q) (pre ++ [x]) W1))
    (W : World) (hzp : W.cell? ⟨zp, 0, none⟩ = some (.int .i64 (p : Nat))) (hzf : Lf W zf 102 f) (hfq : zf ≠ q) (hql : q < W.heap.size) (hpv : ∀ W', Rec.Kr Bk q W W' → Dsk.Pv W' T f.d L fs st i)
    (hrd : ∀ a : Nat, a ≤ B.length → Dsk.readL L f.nm (a : Int) 65536 = ((B.drop a).take 65536, 0)) (hz : f.z = B.length) (hBl : B.length ≤ 16777216) (hch : Rec.Chn B p Q) (h0 : J [] W) :
    CallsIn Fence.wide m Tryz.prog 144 #[.func (.yield l) #[] #[], .pointer (some ⟨zp, 0, none⟩), .pointer (some ⟨zf, 0, none⟩)] W fun e W' => (∃ v, e = .returned v) ∧
      ((∃ ys : List Bx, ys.length = Q.length ∧ J ys W') ∨ (∃ pre, Jx pre W')) := by
  obtain ⟨k, e, z, y, d, nm, ba, x⟩ := f
  unfold Lf Fi.cells at hzf
  dsimp only at hzf hpv hrd hz
  subst hz
  refine callsIn_of_wp Tryz.func144 rfl trivial ?_
  simp only [Tryz.ntmps144, List.size_toArray, List.length_cons, List.length_nil, Nat.reduceAdd, Nat.reduceSub, Array.replicate_succ, Array.replicate_zero, List.push_toArray, List.append_toArray, List.nil_append, List.cons_append]
  gi_wp2
  gi_loopw [4, 5, 6, 7, 8, 9, 10] (fun nx _ _ _ _ _ _ wr => ∃ (ys : List Bx) (Z : Nat), Rec.Chn B Z (Q.drop ys.length) ∧ ys.length ≤ Q.length ∧ nx = .int .i64 Z ∧ Rec.Kr Bk q W wr ∧ J ys wr) (fun nx _ _ _ _ _ _ _ => B.length - (intOf nx).toNat)
  case atStart => exact ⟨[], p, hch, Nat.zero_le _, rfl, Rec.Kr.refl _ _ _, h0⟩
  case round =>
    obtain ⟨ys, Z, hC, hys, rfl, hK, hJy⟩ := hrel
    have hzw := hK.heap hzf hfq
    have v1 := cell_at hzw (i := 1)
    have v2 := cell_at hzw (i := 2)
    have v4 := cell_at hzw (i := 4)
    have v5 := cell_at hzw (i := 5)
    simp only [List.getElem?_toArray, List.getElem?_cons_zero, List.getElem?_cons_succ] at v1 v2 v4 v5
    have hZ := hC.le
    by_cases hlt : Z < B.length
    · have hd : decide ((Z : Int) < (B.length : Int)) = true := by simp; omega
      have hR := hrd Z (by omega)
      have hrp := Dsk.read_p (hpv wr hK) hi nm (Z : Int) 65536 (by omega)
      rw [hR] at hrp
      gi_wp2_with fail
      refine ⟨trivial, callsIn_wide.2 (hrp.mono ?_)⟩
      clear hrp v1 v2 v4 v5 hzw
      rintro e9 wp ⟨ao, nn, cap, rfl, hO, hgp⟩
      have hKp := hK.trans (Rec.Kr.of hgp)
      have hJp := hJ _ _ _ hJy hgp
      have hsz := hK.size
      have hfrom := hO.from_base
      have hBp : Rec.Bp wp ao nn cap ((B.drop Z).take 65536) := ⟨hO.shows, fun a ha => by
        rcases hO.row.2 with ⟨h8, _⟩ | ⟨g, c8, cur, h8, _⟩
        · rw [ha] at h8
          cases h8
        · rw [ha] at h8
          cases h8
          exact ⟨g, 0, rfl⟩, by have h8 := hO.len; rw [List.length_take] at h8; omega, hO.shows.top⟩
      have hpc : ∀ W', Rec.Kr Bk q wp W' → Rec.Bp W' ao nn cap ((B.drop Z).take 65536) := fun W' hk => ⟨Rec.Bs.kr hBp.bs hk (fun a ha e8 => by
        have h8 := (hfrom a.block (by rw [ha]; rfl)).1
        omega) (Rec.NoRow.ow hO), hBp.at_, hBp.top, hBp.cap⟩
      have hPl := hO.len
      gi_wp2
      gi_loopw [7, 8, 9, 10] (fun at' _ _ _ wi => ∃ (ys : List Bx) (a : Nat), Rec.Chn B (Z + a) (Q.drop ys.length) ∧ ys.length ≤ Q.length ∧ at' = .int .i64 a ∧ a ≤ nn ∧ Rec.Kr Bk q wp wi ∧ J ys wi) (fun at' _ _ _ _ => 65536 - (intOf at').toNat)
      case atStart => exact ⟨ys, 0, hC, hys, rfl, Nat.zero_le _, Rec.Kr.refl _ _ _, hJp⟩
      case round =>
        obtain ⟨ys2, a, hC2, hys2, rfl, ha, hK2, hJ2⟩ := hrel
        have hra := Rec.read_any wr ao nn cap a _ (hpc wr hK2) ha
        have hKi := hKp.trans hK2
        have hsz2 := hKi.size
        gi_wp2_with fail
        refine ⟨trivial, callsIn_wide.2 (hra.mono ?_)⟩
        clear hra
        rintro e9 w1 ⟨hg1, ⟨C, hN, rfl⟩ | ⟨S, g, base, rs, hE, hW, rfl, hgs, hgb, hRw, hsay, hOwn⟩⟩
        · have ha0 := Rec.piece_no hC2 hlt hN
          have hCC : (C != 0) = true := by simpa using hN.1
          have hda : decide ((0 : Int) < (a : Int)) = true := by simp; omega
          have ga := alloc_grown w1 (.cells #[.int .i64 0, .slice none 0 0] 54)
          have hK4 := (hKi.trans (Rec.Kr.of hg1)).trans (Rec.Kr.of ga)
          have hJ4 := hJ _ _ _ (hJ _ _ _ hJ2 hg1) ga
          have hle := hC2.le
          obtain ⟨T2, hT2⟩ : ∃ T2 : Nat, Z + a = T2 := ⟨_, rfl⟩
          have hTs : ((Z : Int) + (a : Int)) = (T2 : Int) := by omega
          rw [hT2] at hC2 hle
          have HT : Hid (Z + a = T2) := hT2
          clear hT2 hN hpc hBp hfrom hPl
          gi_wp2
          go_roundw
          case rel => exact ⟨ys2, T2, hC2, hys2, rfl, hK4, hJ4⟩
          case measure => have := HT.out; simp [intOf]; omega
        · obtain ⟨y, Q', hQ, hyS, haS, htk, hC3⟩ := Rec.piece_yes hC2 hE
          obtain ⟨s1, s2, s3, -⟩ := Rec.extR_ok hE
          rw [List.length_drop, hPl] at s3
          have hS8 : 32 ≤ S ∧ S ≤ 65536 ∧ S ≤ nn - a := ⟨s1, s2, s3⟩
          clear s1 s2 s3
          rw [hQ] at hC2
          obtain ⟨g1, g2, g3, g4, g5, g6, g7⟩ := hC2
          rw [hyS] at g3 g4 g5 g6
          rw [htk] at hW hsay hRw
          have hrl := hRw.len
          have hds : y.2.2 = Rec.ds rs := Rec.says_all (by rw [g5, Rec.ds_len, hrl]) g6 hsay
          have hcl : Rec.cAt ((B.drop (Z + a)).take S) ≤ 65536 := by
            have h8 := Rec.pos_ge ((B.drop (Z + a)).take S) (Rec.cAt ((B.drop (Z + a)).take S))
            rw [hW.fin] at h8
            have := hW.top
            omega
          have hQ1 : Q[ys2.length]? = some y := by
            have h8 := congrArg (fun t => t[0]?) hQ
            simpa using h8
          have hQ2 : Q.drop (ys2.length + 1) = Q' := by
            have h8 := congrArg (fun t => t.drop 1) hQ
            simpa [List.drop_drop] using h8
          have hyl : ys2.length + 1 ≤ Q.length := by
            have := (List.getElem?_eq_some_iff.1 hQ1).1
            omega
          rw [htk]
          generalize Rec.bAt ((B.drop (Z + a)).take S) = BA at *
          generalize Rec.cAt ((B.drop (Z + a)).take S) = CA at *
          have ga := alloc_grown w1 (.cells #[.int .i64 BA, .slice (some ⟨g, 0, none⟩) CA CA] 54)
          have k3 := heap_alloc_new w1 (.cells #[.int .i64 BA, .slice (some ⟨g, 0, none⟩) CA CA] 54)
          have hJe := hJ _ _ _ (hJ _ _ _ hJ2 hg1) ga
          have hK4 := (hK2.trans (Rec.Kr.of hg1)).trans (Rec.Kr.of ga)
          have hO2 := fun r hr => (hOwn r hr).kept ga (fun _ _ => by simp)
          obtain ⟨fn, tmps, assign, body, hy, hR9⟩ := hY ys2 ⟨BA, g, CA, rs⟩ wr _ hJ2 (grown_trans hg1 ga (by simp)) hgs ⟨⟨y, hQ1, g4, hds⟩, (hRw.shows (fun r hr => (hOwn r hr).rk)).grown ga, Rec.NR.of hO2, hcl⟩
          simp only [benc] at hy
          clear hW hsay hRw hOwn g1 g2 g3 g4 g5 g6 g7 hds hQ hQ1 htk hE hO2 hpc hBp hfrom
          gi_wp2_with fail
          refine hR9.mono ?_
          clear hR9 hy
          generalize w1.alloc (.cells #[.int .i64 BA, .slice (some ⟨g, 0, none⟩) CA CA] 54) = w2 at *
          rintro e9 W3 (⟨rfl, hJ3, hk3⟩ | ⟨rfl, hJx3⟩)
          · obtain ⟨T2, hT2⟩ : ∃ T2 : Nat, a + S = T2 := ⟨_, rfl⟩
            have hTs : ((a : Int) + (S : Int)) = (T2 : Int) := by omega
            have hK5 := hK4.trans hk3
            have hC4 : Rec.Chn B (Z + T2) (Q.drop (ys2 ++ [(⟨BA, g, CA, rs⟩ : Bx)]).length) := by
              rw [List.length_append, List.length_singleton, hQ2, ← hT2, ← Nat.add_assoc]
              exact hC3
            have hyl2 : (ys2 ++ [(⟨BA, g, CA, rs⟩ : Bx)]).length ≤ Q.length := by rw [List.length_append, List.length_singleton]; exact hyl
            have hT9 : T2 ≤ nn ∧ a < T2 ∧ T2 ≤ 65536 := by omega
            clear hT2 hC3 hQ2 hyS hS8
            gi_wp2
            go_roundw
            case rel => exact ⟨_, T2, hC4, hyl2, rfl, hT9.1, hK5, hJ3⟩
            case measure => simp [intOf]; omega
          · gi_wp2
            exact bodyPost_ret (results_none rfl _ _ _) rfl ⟨⟨_, rfl⟩, .inr ⟨_, hJx3⟩⟩
    · have hd : decide ((Z : Int) < (B.length : Int)) = false := by simp; omega
      have hnil := chn_end hC (by omega)
      have hlen : ys.length = Q.length := by
        have := congrArg List.length hnil
        rw [List.length_drop] at this
        simp at this
        omega
      gi_wp2
      exact bodyPost_end (results_none rfl _ _ _) rfl ⟨⟨_, rfl⟩, .inl ⟨ys, hlen, hJy⟩⟩
end
end Go.Proofs.YtlghcboenkglnaaGreatDoor

/-
  Batches.
-/
namespace Go.Proofs.YtlghcboenkglnaaGreatDoor
open Go.RowKit
set_option linter.unusedVariables false

section
variable {w w' : World} {i : Nat} {fs : List (Int × Int)} {st : Int} {T U : Nat → Prop} {L : List Dsk.Rf} {s : Nat} {f : Fi} {step : Int} {l : List Idx.Sd}
set_option maxRecDepth 100000 in
set_option maxHeartbeats 2000000 in
/-- Batches: an iterator over a copy of the bytes that are found. -/
theorem batches_yes (h : Sg w T U s f step l L fs st i) (hi : i ≤ 4000) (B : List UInt8) (c : Int) (hr : Dsk.readL L f.nm 0 f.z = (B, c)) (hB : B.length ≤ 16777216) (hz : f.z ≤ 9223372036854775807) :
    Calls Tryz.prog 42 #[.pointer (some ⟨s, 0, none⟩)] w fun e w' => ∃ g z, e = .returned (.func (.func 122) #[] #[.pointer (some ⟨z, 0, none⟩)]) ∧ w'.heap[z]? = some (.cells #[.slice (some ⟨g, 0, none⟩) B.length B.length] 48) ∧ Ow w' w.heap.size 5 (some ⟨g, 0, none⟩) B.length B.length B ∧ g < z ∧ z < w'.heap.size ∧ w.grownBy w' none := by
  have ht := told_yes w s f h.seg
  have hrd := fun W (hW : w.grownBy W none) => Dsk.read_p (h.dk.grown hW) hi f.nm 0 f.z hz
  rw [hr] at hrd
  obtain ⟨k, e, z, y, d, nm, ba, x⟩ := f
  unfold Fi.val Fi.cells at ht
  dsimp only at ht hrd hz
  go_enter Tryz.func42, Tryz.ntmps42
  go_wp2_with fail
  refine ht.mono ?_
  rintro e9 w1 ⟨rfl, hg1⟩
  go_wp2_with fail
  obtain ⟨W, hW⟩ : ∃ W, w1.alloc (.cells #[.int .i64 k, .int .i64 e, .int .i64 z, .int .i64 y, .pointer (some ⟨d, 0, none⟩), .string nm, .int .i64 ba, .pointer (some ⟨x, 0, none⟩)] 102) = W := ⟨_, rfl⟩
  have hgW : w1.grownBy W none := by rw [← hW]; exact alloc_grown _ _
  have hG := grown_trans hg1 hgW (by simp)
  rw [hW]
  refine (hrd W hG).mono ?_
  rintro e9 w2 ⟨ao, nn, cap, rfl, hO, hg2⟩
  have hnn := hO.len
  have hal := Rec.all_any w2 ao nn cap B hO.shows (by omega)
  go_wp2_with fail
  refine hal.mono ?_
  rintro e9 w3 ⟨g, z2, rfl, h1, h2, h3, h4, hg3⟩
  subst hnn
  go_wp2
  go_ret
  have hG2 := grown_trans hG hg2 (by simp)
  exact ⟨g, z2, rfl, h1, h2.rebase hG2.size, h3, h4, grown_trans hG2 hg3 (by simp)⟩
end
end Go.Proofs.YtlghcboenkglnaaGreatDoor

/-
  Ranges over iterators that hand on what they have just made: that what a round is handed lies behind all that stood between the two rounds.
-/
namespace Go.Proofs.YtlghcboenkglnaaGreatDoor
open Go.RowKit Go.Shelf
set_option linter.unusedVariables false

/-- An iterator that hands on what is new: its block, gx, lies behind all that lay there when the round before had ended. -/
def SeqFresh {α : Type} (F : Fence) (n : Nat) (P : Program) (g : Nat) (lb : Array Value) (encs : α → Array Value) (gx : α → Nat) (Tx : Nat → List α → α → World → Prop) (Kp : World → World → Prop) (S Sp : List α → Prop) (w : World) : Prop :=
  ∀ (l : Nat) (J Jx : List α → World → Prop) (W : World), Below w.heap.size w W → AbidesFrom W.heap.size J → AbidesFrom W.heap.size Jx →
    (∀ pre x W0 W1, J pre W0 → W0.grownBy W1 none → W0.heap.size ≤ gx x → Tx W.heap.size pre x W1 → YieldAt F (n - 1) P l (encs x) W1 (Said J Jx Kp (pre ++ [x]) W1)) → J [] W →
    CallsIn F n P g (#[.func (.yield l) #[] #[]] ++ lb) W fun e W' => (∃ v, e = .returned v) ∧ ((∃ xs, S xs ∧ J xs W') ∨ (∃ pre, Sp pre ∧ Jx pre W'))
section
variable {F : Fence} {n : Nat} {P : Program} {w : World}
theorem wpIn_rangeFunc_fresh {α : Type} {g : Operand} {ps : Array Tmp} {assign body : Code} {Q : Exit → Act → World → Prop} {a : Act}
    (hro : F.round = none) (h1 : 1 ≤ n) {gf : Nat} {lb : Array Value} (hg : a.eval g = .func (.func gf) #[] lb) (hFg : F.fn gf) (eg : ∀ args w, (callFunc gf args).run P w = .ok (.enter gf args) w)
    {encs : α → Array Value} {Tx : Nat → List α → α → World → Prop} {Kp : World → World → Prop} {S Sp : List α → Prop} {w0 : World} {gx : α → Nat} (hseq : SeqFresh F (n - 1) P gf lb encs gx Tx Kp S Sp w0)
    (hKt : ∀ {A B C : World}, Kp A B → Kp B C → Kp A C) (hKb : ∀ (W : World) (l : Nat) (o o' : Obj), w.heap.size ≤ l → W.heap[l]? = some o → o.isCells = false → o.isWalk = false → Kp W (W.putObj l o')) (hb0 : Below w0.heap.size w0 w) (hps : ∀ x, (encs x).size = ps.size)
    (I : List α → World → Prop) (Ix : Code → List α → World → Prop) (hI : OwnFrom w.heap.size I) (hIx : ∀ c, OwnFrom w.heap.size (Ix c)) (h0 : I [] w) (Ax : List α → α → Act → World → Prop) (hAx : ∀ pre x a', OwnFrom w.heap.size (fun (_ : Unit) W => Ax pre x a' W))
    (hassign : ∀ (pre : List α) (x : α) (W0 W : World) (K : Act → World → Prop), I pre W0 → W0.grownBy W none → W0.heap.size ≤ gx x → Tx (w.heap.size + 2) pre x W → (∀ a' W', KeepsFrom w.heap.size W W' → Kp W W' → I pre W' → Ax pre x a' W' → K a' W') →
      assign.wpIn (F.inRound (w.heap.size + 1)) (n - 1 - 1) P (Exit.then K (fun _ _ _ => False)) { tmps := (ps.zip (encs x)).foldl (fun t (p, v) => t.setIfInBounds p v) a.tmps, defers := [] } W)
    (hbody : ∀ (pre : List α) (x : α) (a' : Act) (W : World), (∃ q, W.heap[w.heap.size + 1]? = some (.loop q)) → I pre W → Ax pre x a' W → body.wpIn (F.inRound (w.heap.size + 1)) (n - 1 - 1) P (ownPostG w.heap.size Kp I Ix (pre ++ [x]) W) a' W)
    (hdone : ∀ (D : Nat) (xs : List α) (W : World), w.heap.size ≤ D → S xs → I xs W → W.heap[D]? = some (.deferred (some [])) → Q .normal { a with defers := { target := .collected D, args := #[] } :: a.defers } W)
    (hstop : ∀ (D : Nat) (c : Code) (pre : List α) (W : World), w.heap.size ≤ D → Sp pre → Ix c pre W → W.heap[D]? = some (.deferred (some [])) → c.wpIn F n P Q { a with defers := { target := .collected D, args := #[] } :: a.defers } W) :
    (Code.rangeFunc g ps assign body).wpIn F n P Q a w := by
  refine wpIn_rangeFunc fun fn hfn => ?_
  rw [hro]
  obtain ⟨r, hr⟩ : ∃ r : LoopState → Option Code → Loop, r = fun st pe => { state := st, pending := pe, fn, tmps := a.tmps, params := ps, assign, body, defers := w.heap.size } := ⟨_, rfl⟩
  obtain ⟨V, hV⟩ : ∃ V, (w.alloc (.deferred (some []))).alloc (.loop (r .ready none)) = V := ⟨_, rfl⟩
  have hb : Book w.heap.size (r .ready none) V := by
    rw [← hV]
    have h9 := World.alloc_heap_new (w.alloc (.deferred (some []))) (.loop (r .ready none))
    rw [World.size_alloc] at h9
    exact ⟨h9, (Below.heap_alloc _ _ _ (by simp)).trans (World.alloc_heap_new w _)⟩
  have hIV : I [] V := by rw [← hV]; exact hI.alloc _ (hI.alloc _ h0)
  have hBV : Below w0.heap.size w0 V := by
    rw [← hV]
    exact hb0.trans ((((Below.refl _ w).alloc (Nat.le_refl _) _).alloc (by simp) _).mono hb0.size)
  have hVs : V.heap.size = w.heap.size + 2 := by rw [← hV]; simp
  have turn : ∀ {A : World} {row : Option Nat}, (∀ q, row = some q → V.heap.size ≤ q ∧ ∃ o : Obj, A.heap[q]? = some o ∧ o.isWalk = true) → ∀ q, row = some q → w.heap.size ≤ q ∧ ∃ o : Obj, A.heap[q]? = some o ∧ o.isCells = false := fun h q e => by
    obtain ⟨h2, o, h3, h4⟩ := h q e
    exact ⟨by omega, o, h3, Obj.not_cells_of_walk h4⟩
  refine ⟨w.heap.size + 1, [{ target := .collected w.heap.size, args := #[] }], V, { target := .fn (.func gf) lb, args := #[.func (.yield (w.heap.size + 1)) #[] #[]] }, V, gf, #[.func (.yield (w.heap.size + 1)) #[] #[]] ++ lb, V, ?_, ?_, ?_, ?_, fun _ => h1, ?_⟩
  · rw [← hV, hr]; exact run_enterLoop_outer _ _ _ _ _
  · simp only [resolve, hg]
    simp [go_sem]
  · intro f' hf'
    simp [Target.leads] at hf'
    subst hf'
    exact hFg
  · simp [invoke, go_sem, eg]
  · refine (hseq (w.heap.size + 1) (fun s W => I s W ∧ Book w.heap.size (r .ready none) W) (fun s W => ∃ c, Ix c s W ∧ Book w.heap.size (r .done (some c)) W) V hBV
      (fun s A B row hs hg' hq => ⟨hI s A B row hs.1 hg' (turn hq), hs.2.grown hg' hq⟩)
      (fun s A B row ⟨c, h2, h3⟩ hg' hq => ⟨c, hIx c s A B row h2 hg' (turn hq), h3.grown hg' hq⟩)
      (fun pre x W0 W hJ hgn hgx hT => round_told (Kp := Kp) (fun h k => hKt h k) hKb hps I Ix hI hIx Ax hAx hfn r hr pre x W (hI pre W0 W none hJ.1 hgn (fun q e => by cases e)) (hJ.2.grown (B' := w.heap.size + 2) hgn (fun q e => by cases e)) (fun K hK => hassign pre x W0 W K hJ.1 hgn hgx (hVs ▸ hT) hK) (fun a' W' hq hi hx => hbody pre x a' W' hq hi hx)) ⟨hIV, hb⟩).mono ?_
    rintro e W2 ⟨⟨v, rfl⟩, ⟨xs, hS, hi, h2⟩ | ⟨pre, hSp, c, hi, h2⟩⟩
    · have h3 := run_endLoop (P := P) h2.lp (by rw [hr]; simp)
      rw [show (r .ready none).pending = none by rw [hr]] at h3
      exact ⟨none, _, h3, hdone _ xs _ (Nat.le_refl _) hS (hI.putObj _ hi (by omega) h2.lp rfl) ((World.putObj_heap_other (by omega)).trans h2.df)⟩
    · have h3 := run_endLoop (P := P) h2.lp (by rw [hr]; simp)
      rw [show (r .done (some c)).pending = some c by rw [hr]] at h3
      exact ⟨some c, _, h3, hstop _ c pre _ (Nat.le_refl _) hSp ((hIx c).putObj _ hi (by omega) h2.lp rfl) ((World.putObj_heap_other (by omega)).trans h2.df)⟩

end
end Go.Proofs.YtlghcboenkglnaaGreatDoor
