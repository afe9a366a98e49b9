import Derived.Test.YtgkeflgfnagnjaaZac
import Derived.OrdersIn
import Derived.Deep.RegionHeld3
import Derived.Test.YtgkeflgfnagnjaaG2
import Derived.Shelf.SlIter.Nil
import Derived.Shelf.SortM.Plain
import Derived.Shelf.SortM.SortNone
import Derived.Ground.GgzProg
import Derived.Ground.SlgmProg
import Derived.Test.YtgkeflgfnagnjaaProg
/-
  A region that draws its order, inside a round of a range over a function, by the plain law for regions whose cells are held. Nothing here speaks of the program.
-/
namespace Go.Proofs.Ytgkeflgfnagnjaa
open Go.RowKit
set_option linter.unusedVariables false
set_option maxRecDepth 100000

section
variable {P : Program} {ops : Array Oper} {Q : Exit → Act → World → Prop} {md : Region.Mode}
theorem callsIn_round {r n : Nat} {f : FuncId} {args : Array Value} {w : World} {R : Ending → World → Prop} (h : Calls P f args w R) : CallsIn (Fence.wide.inRound r) n P f args w R :=
  callsIn_wide.2 h
/-- One that puts nothing off, and enters no row. -/
def still (o : Oper) : Bool := match o.op with
  | .defer _ => false
  | _ => true
theorem wpOpIn_of_op {r n i : Nat} {K : Act → World → Prop} {a : Act} {w : World} (hd : ∀ o, ops[i]? = some o → still o = true) (hno : ¬ LetsOut Q) (h : wpOp P ops Q i K a w) : wpOpIn (Fence.wide.inRound r) n P ops Q i K a w := by
  unfold wpOpIn
  unfold wpOp at h
  cases ho : ops[i]? with
  | none => simpa [ho] using h
  | some o =>
    have hs : ∀ c, o.op ≠ .defer c := fun c e => by
      have := hd o ho
      unfold still at this
      rw [e] at this
      cases this
    simp only [ho] at h ⊢
    split
    · rename_i hw
      simp only [hw, if_true] at h
      rcases h with h | ⟨_, h⟩
      · refine ⟨fun _ _ => trivial, ?_⟩
        rw [Oper.semAt_eq _ _ _ hs]
        unfold Oper.wp at h
        generalize (execOp a.eval o).run P w = rr at *
        cases rr with
        | ok x w' =>
          cases x <;> simp only [Oper.upon, Oper.uponIn] at h ⊢ <;> first
            | exact h
            | exact ⟨fun e => (Bool.false_ne_true e).elim, callsIn_round (Calls.mono h (fun e w'' he => by cases e <;> exact he))⟩
            | exact ⟨fun e => (Bool.false_ne_true e).elim, fun c cs _ => let ⟨v, w9, hr, hst⟩ := h c cs; ⟨v, w9, hr, stepsIn_wide.2 hst⟩⟩
            | exact h.elim
        | halt x w' =>
          cases x <;> simp only [Oper.upon, Oper.uponIn] at h ⊢ <;> first
            | exact h
            | exact h.elim
      · exact absurd h hno
    · rename_i hw
      simp only [hw] at h
      exact ⟨fun _ _ => trivial, h⟩
theorem wpAnyIn_of_any {r n : Nat} (hd : ∀ o ∈ ops.toList, still o = true) (hno : ¬ LetsOut Q) : ∀ (fuel : Nat) (l : Array Bool) (a : Act) (w : World), wpAny P md ops Q fuel l a w → wpAnyIn (Fence.wide.inRound r) n P md ops Q fuel l a w
  | 0, _, _, _, h => h
  | fuel + 1, _, _, _, h => ⟨h.1, fun i hi => wpOpIn_of_op (fun o ho => hd o (by simpa using Array.mem_of_getElem? ho)) hno (wpOp_mono (fun a' w' h' => wpAnyIn_of_any hd hno fuel _ a' w' h') (h.2 i hi))⟩
/-- The beginning of a walk. -/
theorem wpIn_region_round {r n id : Nat} {a : Act} {w : World} {S : World → Prop} (hm : P.follows .mixedOrders = true) (hd : (ops.toList.all still) = true) (hno : ¬ LetsOut Q) (hS : S w.drew)
    (h : S w.drew → wpAnyH P .any ops Q S ops.size (Array.replicate ops.size false) a w.drew) : (Code.region id ops true).wpIn (Fence.wide.inRound r) n P Q a w :=
  wpIn_region_any hm (wpAnyIn_of_any (fun o ho => List.all_eq_true.1 hd o ho) hno _ _ _ _ (wpAny_of_held _ _ _ _ (h hS)))
end
end Go.Proofs.Ytgkeflgfnagnjaa

/-
  Crash: one round.
-/
namespace Go.Proofs.Ytgkeflgfnagnjaa
open Go.RowKit Go.Maps
set_option linter.unusedVariables false
set_option maxRecDepth 100000
attribute [local go_sem] Oper.semAt_some

/-- The body of a range over a function. -/
def findBody : Code → Option Code
  | .rangeFunc _ _ _ b => some b
  | .seq a b => (findBody a).or (findBody b)
  | .cond _ a b => (findBody a).or (findBody b)
  | .block _ a => findBody a
  | .loop a => findBody a
  | .scope a => findBody a
  | _ => none
theorem fl_new {w : World} {g : Nat} {bo : Option Addr} {bn bc : Nat} {la : Int} {th nl : Bool} (h : w.heap[g]? = some (.cells #[.slice bo bn bc, .int .i64 la, .bool th, .bool nl] 112)) : Fl w g bo bn bc la th nl :=
  ⟨cell_of (i := 0) h rfl, cell_of (i := 1) h rfl, cell_of (i := 2) h rfl, cell_of (i := 3) h rfl, fun i => by unfold World.frozen?; rw [h]; simp, lt_of_heap h, ⟨_, _, h⟩⟩
theorem Pk.put {w w' : World} {za zp k : Nat} {o : Option Addr} {n c : Nat} {l : List Int} (h : Pk w za zp k o n c l) {m q : Nat} {D : DataW Unit} (hm : Mp w m q D) (hg : w.grownBy w' (some m)) (ho : ∀ a, o = some a → a.block ≠ m) : Pk w' za zp k o n c l :=
  ⟨(hg.block za h.b0.lt (by simpa using hm.row (boxed_ty h.b0))).trans h.b0, (hg.block zp h.b1.lt (by simpa using hm.row (boxed_ty h.b1))).trans h.b1, ⟨h.sl.len, h.sl.room, h.sl.top, h.sl.pl, h.sl.nil, fun b i e j x hx => hg.cell (h.sl.k b i e j x hx) (by simpa using ho _ e)⟩, h.le, h.ne, h.na⟩
theorem staysR_le (l : List Int) (n k : Nat) (sz la : Nat) (th nl : Bool) (h : la ≤ sz) : 0 ≤ (staysR l n k sz la th nl).1 ∧ (staysR l n k sz la th nl).1 ≤ sz := by
  have p : ∀ k, 0 ≤ pickR l k ((sz : Int) - la + 1) ∧ pickR l k ((sz : Int) - la + 1) < (sz : Int) - la + 1 := fun k => pickR_range l k _ (by omega)
  unfold staysR
  have p1 := p k
  have p2 := p (min (k + 1) n)
  split
  · split
    · constructor <;> simp
    · split
      · constructor <;> simp
      · constructor <;> simp only <;> omega
  · split
    · constructor <;> simp
    · constructor <;> simp only <;> omega
/-- What a round leaves. -/
def Rnd (W V : World) (za zp k : Nat) (o : Option Addr) (pn pc : Nat) (l : List Int) (nm n' base : Nat) (K : ByteArray → Option Nat) (B : ByteArray → List UInt8) : Prop :=
  ∃ n'' D'', Pk V za zp k o pn pc l ∧ Mp V nm n'' D'' ∧ n'' ≤ n' + 1 ∧ Kept V base D'' K B ∧ Chg W V (fun q => q = za ∨ q = nm)
set_option maxRecDepth 100000 in
set_option maxHeartbeats 4000000 in
theorem round33 {code : Code} (hcode : Try.f27.body.bind findBody = some code) (r : Nat) (W : World) (y2 z8 z9 zf b m n nb nm n' za zp k base g la : Nat) (D D' : DataW Unit) (o : Option Addr) (pn pc : Nat) (l : List Int) (t : Td) (K : ByteArray → Option Nat) (B : ByteArray → List UInt8) (bo : Option Addr) (bc : Nat)
    (b2 : Boxed W y2 26 (.pointer (some ⟨b, 0, none⟩))) (bb : W.cell? ⟨b, 0, none⟩ = some (.map (some m))) (ub : b ≠ za) (hm : Mp W m n D)
    (b8 : Boxed W z8 26 (.pointer (some ⟨nb, 0, none⟩))) (hn : W.cell? ⟨nb, 0, none⟩ = some (.map (some nm))) (tn : Ty W nb 67) (hM : Mp W nm n' D') (hn' : n' < maxLen)
    (b9 : Boxed W z9 113 (.func (.func 86) #[] #[.pointer (some ⟨za, 0, none⟩), .pointer (some ⟨zp, 0, none⟩)])) (hP : Pk W za zp k o pn pc l) (hl : ∀ x ∈ l, 0 ≤ x ∧ x < 9223372036854775808) (hpn : pn ≤ 4611686018427387904) (hpo : ∀ a, o = some a → a.block ≠ za ∧ a.block ≠ nm)
    (hf : W.heap[zf]? = some (.cells #[.string t.s, .int .i64 t.sz, .int .i64 t.la, .bool t.th, .bool t.nl] 102)) (hla : t.la = (la : Int)) (hls : la ≤ t.sz) (hsz : t.sz ≤ 16777216) (hts : t.s.size ≤ 32)
    (hat : at? D t.s (some g)) (hF : Fl W g bo t.sz bc t.la t.th t.nl) (hB : Bs W bo t.sz bc (B t.s)) (hbp : ∀ a, bo = some a → ∃ q i, a = ⟨q, i, none⟩) (hbt : ∀ q, blk bo = some q → Ty W q 5)
    (hKp : Kept W base D' K B) (hlt : za < base ∧ nm < base) (hne : za ≠ nm) (hbase : base ≤ W.heap.size) (v0 v1 v3 v4 v5 v6 v7 v11 v12 v13 v14 v15 v16 v17 v18 v19 v20 v21 v22 v23 v24 v25 v26 v27 v28 v29 v30 v31 v32 v33 v34 v35 v36 v37 v38 v39 v40 v41 v42 v43 v44 v45 v46 v47 v48 v49 v50 v51 v52 v53 v54 v55 v56 v57 v58 v59 v60 v61 v62 v63 v64 : Value) :
    code.wpIn (Fence.wide.inRound r) 3 Try.prog (fun e _ V => e = .normal ∧ Rnd W V za zp (crashS l pn (K, k) t).2 o pn pc l nm n' base (crashS l pn (K, k) t).1 B) { tmps := #[v0, v1, .pointer (some ⟨y2, 0, none⟩), v3, v4, v5, v6, v7, .pointer (some ⟨z8, 0, none⟩), .pointer (some ⟨z9, 0, none⟩), .pointer (some ⟨zf, 0, none⟩), v11, v12, v13, v14, v15, v16, v17, v18, v19, v20, v21, v22, v23, v24, v25, v26, v27, v28, v29, v30, v31, v32, v33, v34, v35, v36, v37, v38, v39, v40, v41, v42, v43, v44, v45, v46, v47, v48, v49, v50, v51, v52, v53, v54, v55, v56, v57, v58, v59, v60, v61, v62, v63, v64], defers := [] } W := by
  have hcode2 : ∃ code', Try.f27.body.bind findBody = some code' ∧ code'.wpIn (Fence.wide.inRound r) 3 Try.prog (fun e _ V => e = .normal ∧ Rnd W V za zp (crashS l pn (K, k) t).2 o pn pc l nm n' base (crashS l pn (K, k) t).1 B) { tmps := #[v0, v1, .pointer (some ⟨y2, 0, none⟩), v3, v4, v5, v6, v7, .pointer (some ⟨z8, 0, none⟩), .pointer (some ⟨z9, 0, none⟩), .pointer (some ⟨zf, 0, none⟩), v11, v12, v13, v14, v15, v16, v17, v18, v19, v20, v21, v22, v23, v24, v25, v26, v27, v28, v29, v30, v31, v32, v33, v34, v35, v36, v37, v38, v39, v40, v41, v42, v43, v44, v45, v46, v47, v48, v49, v50, v51, v52, v53, v54, v55, v56, v57, v58, v59, v60, v61, v62, v63, v64], defers := [] } W := by
    refine ⟨_, rfl, ?_⟩
    have hst := stays_any t.s t.sz la t.th t.nl za zp k o pn pc l hP hls hsz hl hpn
    have hrl := staysR_le l pn k t.sz la t.th t.nl hls
    unfold crashS
    rw [hla]
    simp only
    obtain ⟨z, hz⟩ : ∃ z : Nat, (staysR l pn k t.sz la t.th t.nl).1 = z := ⟨_, (Int.toNat_of_nonneg hrl.1).symm⟩
    have hzl : z ≤ t.sz := by have := hrl.2; omega
    rw [hz] at hst ⊢
    clear hz hrl
    generalize (staysR l pn k t.sz la t.th t.nl).2.1 = tt at *
    generalize (staysR l pn k t.sz la t.th t.nl).2.2 = k' at *
    rw [hla] at hf hF
    have x0 := cell_of (i := 0) hf rfl
    have x1 := cell_of (i := 1) hf rfl
    have x2 := cell_of (i := 2) hf rfl
    have x3 := cell_of (i := 3) hf rfl
    have x4 := cell_of (i := 4) hf rfl
    have k9 := b9.cell
    have tza := boxed_ty hP.b0
    have tzf : Ty W zf 102 := ⟨_, _, hf⟩
    have u2 : y2 ≠ za := (boxed_ty b2).ne tza (by decide)
    have u8 : z8 ≠ za := (boxed_ty b8).ne tza (by decide)
    have un : nb ≠ za := tn.ne tza (by decide)
    have uf : zf ≠ za := tzf.ne tza (by decide)
    have ug : g ≠ za := hF.ty.ne tza (by decide)
    have um : m ≠ za := fun e => hm.row tza e.symm
    have ubo : ∀ q, blk bo = some q → q ≠ za := fun q e => (hbt q e).ne tza (by decide)
    have v8' : z8 ≠ nm := hM.row (boxed_ty b8)
    have vn : nb ≠ nm := hM.row tn
    have vf : zf ≠ nm := hM.row tzf
    have hS14 : ∀ V, Chg W V (fun q => q = za) → V.cell? ⟨y2, 0, none⟩ = some (.pointer (some ⟨b, 0, none⟩)) ∧ V.cell? ⟨b, 0, none⟩ = some (.map (some m)) ∧ V.cell? ⟨zf, 0, none⟩ = some (.string t.s) ∧ (Instr.lookup 64 (.map (some m)) (.string t.s) false).run Try.prog V = .ok (.pointer (some ⟨g, 0, none⟩)) V ∧ V.cell? ⟨g, 0, none⟩ = some (.slice bo t.sz bc) := fun V hV => by
      obtain ⟨g', hg', hlk⟩ := look_any (hm.chg hV um) t.s (by unfold maxLen; omega)
      obtain rfl := at_one hat hg'
      exact ⟨hV.cell b2.cell u2, hV.cell bb ub, hV.cell x0 uf, hlk, hV.cell hF.c0 ug⟩
    have hS15 : ∀ V, Chg W V (fun q => q = za) → V.cell? ⟨z8, 0, none⟩ = some (.pointer (some ⟨nb, 0, none⟩)) ∧ V.cell? ⟨nb, 0, none⟩ = some (.map (some nm)) ∧ V.cell? ⟨zf, 0, none⟩ = some (.string t.s) := fun V hV => ⟨hV.cell b8.cell u8, hV.cell hn un, hV.cell x0 uf⟩
    have hS16 : ∀ V, Chg W V (fun q => q = za ∨ q = nm) → V.cell? ⟨z8, 0, none⟩ = some (.pointer (some ⟨nb, 0, none⟩)) ∧ V.cell? ⟨nb, 0, none⟩ = some (.map (some nm)) ∧ V.cell? ⟨zf, 0, none⟩ = some (.string t.s) := fun V hV => ⟨hV.cell b8.cell (by simp [u8, v8']), hV.cell hn (by simp [un, vn]), hV.cell x0 (by simp [uf, vf])⟩
    have hBz : ∀ V, Chg W V (fun q => q = za) → Bs V bo z bc ((B t.s).take z) := fun V hV => (hB.kept hV.row (fun a e h9 => by obtain ⟨q, i, rfl⟩ := hbp a e; exact ubo q (by rw [e]; rfl) (by simpa using h9))).take z hzl
    have hroom := hB.room
    have hnil := hB.nil
    have h14 : Hid _ := hS14
    have h15 : Hid _ := hS15
    have h16 : Hid _ := hS16
    have hBh : Hid _ := hBz
    have hpo' : Hid _ := hpo
    have hnil' : Hid _ := hnil
    clear hS14 hS15 hS16 hBz hpo hnil hbp hbt ubo hl b2 bb b8 hn tn hF hB hat hm
    unfold toldV at hst
    gi_wp2_with fail
    refine ⟨trivial, callsIn_round (hst.mono ?_)⟩
    clear hst
    rintro e w1 ⟨rfl, hP1, hc1⟩
    clear x0 x1 x2 x3 x4 k9
    cases tt with
    | false =>
      have hKq := hKp.chg hc1 (fun k ty e hk _ => by have := hlt.1; omega)
      have hMq := hM.chg hc1 (fun e => hne e.symm)
      have hR : Rnd W w1 za zp k' o pn pc l nm n' base K B := ⟨n', D', hP1, hMq, Nat.le_succ _, hKq, hc1.mono (fun k _ e => Or.inl e)⟩
      gi_wp2
    | true =>
      have hne : za ≠ nm ∧ True := ⟨hne, trivial⟩
      have hS14 := h14.out
      have hS15 := h15.out
      have hS16 := h16.out
      have hpo := hpo'.out
      have hc1d : Chg W w1.drew (fun q => q = za) := hc1.trans (Chg.of_grown (grown_drew w1 none) _)
      have hcl := clone_any w1.drew bo z bc _ (hBh.out _ hc1d) (by omega)
      have s1 : (0 : Int) ≤ (z : Int) := by omega
      have s2 : (z : Int) ≤ (bc : Int) := by omega
      skip
      clear h14 h15 h16 hpo' hBh
      cases bo with
      | none =>
        clear hnil'
        have hSS : ∀ V, Chg W V (fun q => q = za) → (fun w' : World => w'.cell? ⟨y2, 0, none⟩ = some (.pointer (some ⟨b, 0, none⟩)) ∧ w'.cell? ⟨b, 0, none⟩ = some (.map (some m)) ∧ w'.cell? ⟨zf, 0, none⟩ = some (.string t.s) ∧ (Instr.lookup 64 (.map (some m)) (.string t.s) false).run Try.prog w' = .ok (.pointer (some ⟨g, 0, none⟩)) w' ∧ w'.cell? ⟨g, 0, none⟩ = some (.slice none t.sz bc)) V := fun V hV => hS14 V hV
        gi_wp2_with fail
        refine wpIn_region_round (S := fun w' => w'.cell? ⟨y2, 0, none⟩ = some (.pointer (some ⟨b, 0, none⟩)) ∧ w'.cell? ⟨b, 0, none⟩ = some (.map (some m)) ∧ w'.cell? ⟨zf, 0, none⟩ = some (.string t.s) ∧ (Instr.lookup 64 (.map (some m)) (.string t.s) false).run Try.prog w' = .ok (.pointer (some ⟨g, 0, none⟩)) w' ∧ w'.cell? ⟨g, 0, none⟩ = some (.slice none t.sz bc)) (by kernel_rfl) (by kernel_rfl) (by rintro ⟨_, _, h⟩; exact nomatch h.1) (hSS _ (hc1.trans (Chg.of_grown (grown_drew w1 none) _))) (fun hHeld => ?_)
        clear hS14
        refine wpAnyH_take (i := 0) (oi := { dst := some 41, op := Op.load 26 (Operand.tmp 2), type := 26, pos := "disk.go:221", after := #[], guard := none }) (v := ?_) rfl (by kernel_rfl) (by kernel_rfl) (by kernel_rfl) (fun _ _ _ h => nomatch h.1) (Or.inl ⟨by rfl, ?_⟩) (by assumption) ?_
        rotate_left
        · intro w hSw; (try dsimp only at hSw); go_simp
          try with_reducible rfl
        try simp only [Act.put, List.setIfInBounds_toArray, List.set_cons_zero, List.set_cons_succ]
        refine wpAnyH_take (i := 1) (oi := { dst := some 42, op := Op.nilCheck (Operand.tmp 41), type := 0, pos := "disk.go:221", after := #[{ on := 0, ground := Ground.data }], guard := none }) (v := ?_) rfl (by kernel_rfl) (by kernel_rfl) (by kernel_rfl) (fun _ _ _ h => nomatch h.1) (Or.inl ⟨by rfl, ?_⟩) (by assumption) ?_
        rotate_left
        · intro w hSw; (try dsimp only at hSw); go_simp
          try with_reducible rfl
        try simp only [Act.put, List.setIfInBounds_toArray, List.set_cons_zero, List.set_cons_succ]
        refine wpAnyH_take (i := 2) (oi := { dst := some 43, op := Op.fieldAddr 67 (Operand.tmp 42) 0, type := 0, pos := "disk.go:221", after := #[{ on := 1, ground := Ground.data }], guard := none }) (v := ?_) rfl (by kernel_rfl) (by kernel_rfl) (by kernel_rfl) (fun _ _ _ h => nomatch h.1) (Or.inl ⟨by rfl, ?_⟩) (by assumption) ?_
        rotate_left
        · intro w hSw; (try dsimp only at hSw); go_simp
          try with_reducible rfl
        try simp only [Act.put, List.setIfInBounds_toArray, List.set_cons_zero, List.set_cons_succ]
        refine wpAnyH_take (i := 3) (oi := { dst := some 44, op := Op.load 64 (Operand.tmp 43), type := 64, pos := "disk.go:221", after := #[{ on := 2, ground := Ground.data }], guard := none }) (v := ?_) rfl (by kernel_rfl) (by kernel_rfl) (by kernel_rfl) (fun _ _ _ h => nomatch h.1) (Or.inl ⟨by rfl, ?_⟩) (by assumption) ?_
        rotate_left
        · intro w hSw; (try dsimp only at hSw); go_simp
          try with_reducible rfl
        try simp only [Act.put, List.setIfInBounds_toArray, List.set_cons_zero, List.set_cons_succ]
        refine wpAnyH_take (i := 4) (oi := { dst := some 45, op := Op.fieldAddr 102 (Operand.tmp 10) 0, type := 0, pos := "disk.go:221", after := #[], guard := none }) (v := ?_) rfl (by kernel_rfl) (by kernel_rfl) (by kernel_rfl) (fun _ _ _ h => nomatch h.1) (Or.inl ⟨by rfl, ?_⟩) (by assumption) ?_
        rotate_left
        · intro w hSw; (try dsimp only at hSw); go_simp
          try with_reducible rfl
        try simp only [Act.put, List.setIfInBounds_toArray, List.set_cons_zero, List.set_cons_succ]
        refine wpAnyH_take (i := 5) (oi := { dst := some 46, op := Op.load 9 (Operand.tmp 45), type := 9, pos := "disk.go:221", after := #[{ on := 4, ground := Ground.data }], guard := none }) (v := ?_) rfl (by kernel_rfl) (by kernel_rfl) (by kernel_rfl) (fun _ _ _ h => nomatch h.1) (Or.inl ⟨by rfl, ?_⟩) (by assumption) ?_
        rotate_left
        · intro w hSw; (try dsimp only at hSw); go_simp
          try with_reducible rfl
        try simp only [Act.put, List.setIfInBounds_toArray, List.set_cons_zero, List.set_cons_succ]
        refine wpAnyH_take (i := 6) (oi := { dst := some 47, op := Op.lookup 64 (Operand.tmp 44) (Operand.tmp 46) false, type := 106, pos := "disk.go:221", after := #[{ on := 3, ground := Ground.data }, { on := 5, ground := Ground.data }], guard := none }) (v := ?_) rfl (by kernel_rfl) (by kernel_rfl) (by kernel_rfl) (fun _ _ _ h => nomatch h.1) (Or.inl ⟨by rfl, ?_⟩) (by assumption) ?_
        rotate_left
        · intro w hSw; (try dsimp only at hSw); go_simp
          try with_reducible rfl
        try simp only [Act.put, List.setIfInBounds_toArray, List.set_cons_zero, List.set_cons_succ]
        refine wpAnyH_take (i := 7) (oi := { dst := some 48, op := Op.nilCheck (Operand.tmp 47), type := 0, pos := "disk.go:221", after := #[{ on := 6, ground := Ground.data }], guard := none }) (v := ?_) rfl (by kernel_rfl) (by kernel_rfl) (by kernel_rfl) (fun _ _ _ h => nomatch h.1) (Or.inl ⟨by rfl, ?_⟩) (by assumption) ?_
        rotate_left
        · intro w hSw; (try dsimp only at hSw); go_simp
          try with_reducible rfl
        try simp only [Act.put, List.setIfInBounds_toArray, List.set_cons_zero, List.set_cons_succ]
        refine wpAnyH_take (i := 8) (oi := { dst := some 49, op := Op.fieldAddr 112 (Operand.tmp 48) 0, type := 0, pos := "disk.go:221", after := #[{ on := 7, ground := Ground.data }], guard := none }) (v := ?_) rfl (by kernel_rfl) (by kernel_rfl) (by kernel_rfl) (fun _ _ _ h => nomatch h.1) (Or.inl ⟨by rfl, ?_⟩) (by assumption) ?_
        rotate_left
        · intro w hSw; (try dsimp only at hSw); go_simp
          try with_reducible rfl
        try simp only [Act.put, List.setIfInBounds_toArray, List.set_cons_zero, List.set_cons_succ]
        refine wpAnyH_take (i := 9) (oi := { dst := some 50, op := Op.load 56 (Operand.tmp 49), type := 56, pos := "disk.go:221", after := #[{ on := 8, ground := Ground.data }], guard := none }) (v := ?_) rfl (by kernel_rfl) (by kernel_rfl) (by kernel_rfl) (fun _ _ _ h => nomatch h.1) (Or.inl ⟨by rfl, ?_⟩) (by assumption) ?_
        rotate_left
        · intro w hSw; (try dsimp only at hSw); go_simp
          try with_reducible rfl
        try simp only [Act.put, List.setIfInBounds_toArray, List.set_cons_zero, List.set_cons_succ]
        refine wpAnyH_take (i := 10) (oi := { dst := some 51, op := Op.move (Operand.tmp 11), type := 3, pos := "disk.go:221", after := #[], guard := none }) (v := ?_) rfl (by kernel_rfl) (by kernel_rfl) (by kernel_rfl) (fun _ _ _ h => nomatch h.1) (Or.inl ⟨by rfl, ?_⟩) (by assumption) ?_
        rotate_left
        · intro w hSw; (try dsimp only at hSw); go_simp
          try with_reducible rfl
        try simp only [Act.put, List.setIfInBounds_toArray, List.set_cons_zero, List.set_cons_succ]
        refine wpAnyH_take (i := 11) (oi := { dst := some 52, op := Op.slice 56 (Operand.tmp 50) none (some (Operand.tmp 51)) none, type := 56, pos := "disk.go:221", after := #[{ on := 9, ground := Ground.data }, { on := 10, ground := Ground.data }], guard := none }) (v := ?_) rfl (by kernel_rfl) (by kernel_rfl) (by kernel_rfl) (fun _ _ _ h => nomatch h.1) (Or.inl ⟨by rfl, ?_⟩) (by assumption) ?_
        rotate_left
        · intro w hSw; (try dsimp only at hSw); go_simp
          try with_reducible rfl
        try simp only [Act.put, List.setIfInBounds_toArray, List.set_cons_zero, List.set_cons_succ]
        refine wpAnyH_ready (rs := [12]) (by kernel_rfl) (by simp) ?_
        refine AllReadyH.cons (o := { dst := some 53, op := Op.call { callee := Callee.value (Operand.func 65), args := #[Operand.tmp 52], argTypes := #[56] }, type := 56, pos := "disk.go:221", after := #[{ on := 11, ground := Ground.data }], guard := none }) rfl (fun K hK => ?_) AllReadyH.nil
        go_simp
        go_at_call 65
        refine hcl.mono ?_
        rintro e w2 ⟨xo, xc, rfl, hx2, hg2⟩
        have hg2' : w1.grownBy w2 none := grown_trans (grown_drew w1 none) hg2 (by simp)
        have hc2 := hc1.trans (Chg.of_grown hg2' _)
        try go_simp
        refine hK.out _ _ (hSS _ hc2) (fun hHeld => ?_)
        clear hK K
        try simp only [Act.put, List.setIfInBounds_toArray, List.set_cons_zero, List.set_cons_succ]
        refine wpAnyH_take (i := 13) (oi := { dst := some 13, op := Op.assign (Operand.tmp 53), type := 56, pos := "disk.go:221", after := #[{ on := 12, ground := Ground.data }, { on := 12, ground := Ground.chain }, { on := 0, ground := Ground.phase }, { on := 1, ground := Ground.phase }, { on := 2, ground := Ground.phase }, { on := 3, ground := Ground.phase }, { on := 4, ground := Ground.phase }, { on := 5, ground := Ground.phase }, { on := 6, ground := Ground.phase }, { on := 7, ground := Ground.phase }, { on := 8, ground := Ground.phase }, { on := 9, ground := Ground.phase }, { on := 10, ground := Ground.phase }, { on := 11, ground := Ground.phase }, { on := 12, ground := Ground.phase }], guard := none }) (v := ?_) rfl (by kernel_rfl) (by kernel_rfl) (by kernel_rfl) (fun _ _ _ h => nomatch h.1) (Or.inl ⟨by rfl, ?_⟩) (by assumption) ?_
        rotate_left
        · intro w hSw; (try dsimp only at hSw); go_simp
          try with_reducible rfl
        try simp only [Act.put, List.setIfInBounds_toArray, List.set_cons_zero, List.set_cons_succ]
        refine wpAnyH_done (by kernel_rfl) ?_ _
        clear hHeld hSS hcl
        have hP2 := hP1.grown hg2'
        obtain ⟨q8, q9, q10⟩ := hS15 w2 hc2
        have hSS : ∀ V, w2.grownBy V none → (fun w' : World => w'.cell? ⟨z8, 0, none⟩ = some (.pointer (some ⟨nb, 0, none⟩)) ∧ w'.cell? ⟨nb, 0, none⟩ = some (.map (some nm)) ∧ w'.cell? ⟨zf, 0, none⟩ = some (.string t.s)) V := fun V hV => ⟨hV.cell q8 (by simp), hV.cell q9 (by simp), hV.cell q10 (by simp)⟩
        gi_wp2_with fail
        refine wpIn_region_round (S := fun w' => w'.cell? ⟨z8, 0, none⟩ = some (.pointer (some ⟨nb, 0, none⟩)) ∧ w'.cell? ⟨nb, 0, none⟩ = some (.map (some nm)) ∧ w'.cell? ⟨zf, 0, none⟩ = some (.string t.s)) (by kernel_rfl) (by kernel_rfl) (by rintro ⟨_, _, h⟩; exact nomatch h.1) (hSS _ (grown_drew w2 none)) (fun hHeld => ?_)
        have hgd := grown_drew w2 none
        generalize w2.drew = w3 at *
        refine wpAnyH_take (i := 0) (oi := { dst := some 54, op := Op.load 26 (Operand.tmp 8), type := 26, pos := "disk.go:222", after := #[], guard := none }) (v := ?_) rfl (by kernel_rfl) (by kernel_rfl) (by kernel_rfl) (fun _ _ _ h => nomatch h.1) (Or.inl ⟨by rfl, ?_⟩) (by assumption) ?_
        rotate_left
        · intro w hSw; (try dsimp only at hSw); go_simp
          try with_reducible rfl
        try simp only [Act.put, List.setIfInBounds_toArray, List.set_cons_zero, List.set_cons_succ]
        refine wpAnyH_take (i := 1) (oi := { dst := some 55, op := Op.nilCheck (Operand.tmp 54), type := 0, pos := "disk.go:222", after := #[{ on := 0, ground := Ground.data }], guard := none }) (v := ?_) rfl (by kernel_rfl) (by kernel_rfl) (by kernel_rfl) (fun _ _ _ h => nomatch h.1) (Or.inl ⟨by rfl, ?_⟩) (by assumption) ?_
        rotate_left
        · intro w hSw; (try dsimp only at hSw); go_simp
          try with_reducible rfl
        try simp only [Act.put, List.setIfInBounds_toArray, List.set_cons_zero, List.set_cons_succ]
        refine wpAnyH_take (i := 2) (oi := { dst := some 56, op := Op.fieldAddr 67 (Operand.tmp 55) 0, type := 0, pos := "disk.go:222", after := #[{ on := 1, ground := Ground.data }], guard := none }) (v := ?_) rfl (by kernel_rfl) (by kernel_rfl) (by kernel_rfl) (fun _ _ _ h => nomatch h.1) (Or.inl ⟨by rfl, ?_⟩) (by assumption) ?_
        rotate_left
        · intro w hSw; (try dsimp only at hSw); go_simp
          try with_reducible rfl
        try simp only [Act.put, List.setIfInBounds_toArray, List.set_cons_zero, List.set_cons_succ]
        refine wpAnyH_take (i := 3) (oi := { dst := some 57, op := Op.load 64 (Operand.tmp 56), type := 64, pos := "disk.go:222", after := #[{ on := 2, ground := Ground.data }], guard := none }) (v := ?_) rfl (by kernel_rfl) (by kernel_rfl) (by kernel_rfl) (fun _ _ _ h => nomatch h.1) (Or.inl ⟨by rfl, ?_⟩) (by assumption) ?_
        rotate_left
        · intro w hSw; (try dsimp only at hSw); go_simp
          try with_reducible rfl
        try simp only [Act.put, List.setIfInBounds_toArray, List.set_cons_zero, List.set_cons_succ]
        refine wpAnyH_take (i := 4) (oi := { dst := some 58, op := Op.fieldAddr 102 (Operand.tmp 10) 0, type := 0, pos := "disk.go:222", after := #[], guard := none }) (v := ?_) rfl (by kernel_rfl) (by kernel_rfl) (by kernel_rfl) (fun _ _ _ h => nomatch h.1) (Or.inl ⟨by rfl, ?_⟩) (by assumption) ?_
        rotate_left
        · intro w hSw; (try dsimp only at hSw); go_simp
          try with_reducible rfl
        try simp only [Act.put, List.setIfInBounds_toArray, List.set_cons_zero, List.set_cons_succ]
        refine wpAnyH_take (i := 5) (oi := { dst := some 59, op := Op.load 9 (Operand.tmp 58), type := 9, pos := "disk.go:222", after := #[{ on := 4, ground := Ground.data }], guard := none }) (v := ?_) rfl (by kernel_rfl) (by kernel_rfl) (by kernel_rfl) (fun _ _ _ h => nomatch h.1) (Or.inl ⟨by rfl, ?_⟩) (by assumption) ?_
        rotate_left
        · intro w hSw; (try dsimp only at hSw); go_simp
          try with_reducible rfl
        try simp only [Act.put, List.setIfInBounds_toArray, List.set_cons_zero, List.set_cons_succ]
        refine wpAnyH_take (i := 6) (oi := { dst := some 60, op := Op.move (Operand.tmp 13), type := 56, pos := "disk.go:222", after := #[], guard := none }) (v := ?_) rfl (by kernel_rfl) (by kernel_rfl) (by kernel_rfl) (fun _ _ _ h => nomatch h.1) (Or.inl ⟨by rfl, ?_⟩) (by assumption) ?_
        rotate_left
        · intro w hSw; (try dsimp only at hSw); go_simp
          try with_reducible rfl
        try simp only [Act.put, List.setIfInBounds_toArray, List.set_cons_zero, List.set_cons_succ]
        refine wpAnyH_take (i := 7) (oi := { dst := some 61, op := Op.move (Operand.tmp 11), type := 3, pos := "disk.go:222", after := #[], guard := none }) (v := ?_) rfl (by kernel_rfl) (by kernel_rfl) (by kernel_rfl) (fun _ _ _ h => nomatch h.1) (Or.inl ⟨by rfl, ?_⟩) (by assumption) ?_
        rotate_left
        · intro w hSw; (try dsimp only at hSw); go_simp
          try with_reducible rfl
        try simp only [Act.put, List.setIfInBounds_toArray, List.set_cons_zero, List.set_cons_succ]
        refine wpAnyH_take (i := 8) (oi := { dst := some 62, op := Op.build 112 #[(0, Operand.tmp 60), (1, Operand.tmp 61), (2, Operand.const (Value.bool true)), (3, Operand.const (Value.bool true))], type := 112, pos := "disk.go:222", after := #[{ on := 6, ground := Ground.data }, { on := 7, ground := Ground.data }], guard := none }) (v := ?_) rfl (by kernel_rfl) (by kernel_rfl) (by kernel_rfl) (fun _ _ _ h => nomatch h.1) (Or.inl ⟨by rfl, ?_⟩) (by assumption) ?_
        rotate_left
        · intro w hSw; (try dsimp only at hSw); go_simp
          try with_reducible rfl
        try simp only [Act.put, List.setIfInBounds_toArray, List.set_cons_zero, List.set_cons_succ]
        refine wpAnyH_ready (rs := [9]) (by kernel_rfl) (by simp) ?_
        refine AllReadyH.cons (o := { dst := some 63, op := Op.box 112 (Operand.tmp 62), type := 106, pos := "disk.go:222", after := #[{ on := 8, ground := Ground.data }], guard := none }) rfl (fun K hK => ?_) AllReadyH.nil
        go_simp
        have hk4 := World.alloc_heap_new w3 (.cells #[.slice xo z xc, .int .i64 z, .bool true, .bool true] 112)
        have hg4 := grown_trans hgd (alloc_grown w3 (.cells #[.slice xo z xc, .int .i64 z, .bool true, .bool true] 112)) (by simp)
        have hf4 := fl_new hk4
        obtain ⟨g4, hg4e⟩ : ∃ g4, w3.heap.size = g4 := ⟨_, rfl⟩
        have hgl : base ≤ g4 := by have := hgd.size; have := hg2'.size; have := hc1.size; omega
        have hgW : W.heap.size ≤ g4 := by have := hgd.size; have := hg2'.size; have := hc1.size; omega
        rw [hg4e] at hf4 ⊢
        clear hg4e hk4
        generalize w3.alloc (.cells #[.slice xo z xc, .int .i64 z, .bool true, .bool true] 112) = w4 at *
        refine hK.out _ _ (hSS _ hg4) (fun hHeld => ?_)
        clear hK K
        try simp only [Act.put, List.setIfInBounds_toArray, List.set_cons_zero, List.set_cons_succ]
        refine wpAnyH_ready (rs := [10]) (by kernel_rfl) (by simp) ?_
        refine AllReadyH.cons (o := { dst := none, op := Op.mapUpdate 64 (Operand.tmp 57) (Operand.tmp 59) (Operand.tmp 63), type := 0, pos := "disk.go:222", after := #[{ on := 3, ground := Ground.data }, { on := 5, ground := Ground.data }, { on := 9, ground := Ground.data }, { on := 0, ground := Ground.phase }, { on := 1, ground := Ground.phase }, { on := 2, ground := Ground.phase }, { on := 3, ground := Ground.phase }, { on := 4, ground := Ground.phase }, { on := 5, ground := Ground.phase }, { on := 6, ground := Ground.phase }, { on := 7, ground := Ground.phase }, { on := 8, ground := Ground.phase }, { on := 9, ground := Ground.phase }], guard := none }) rfl (fun K hK => ?_) AllReadyH.nil
        have hc4 := hc2.trans (Chg.of_grown hg4 _)
        have hM4 := hM.chg hc4 (fun e => hne.1 e.symm)
        refine step_put (by rfl) (.tmp 57) (.tmp 59) (.tmp 63) (by rfl) nm n' D' (by rfl) hM4 hn' t.s (by unfold maxLen; omega) (by rfl) g4 (by rfl) ?_
        intro w5 hM5 hg5
        have hc5 := chg_row hg5
        have hC5 : Chg W w5 (fun q => q = za ∨ q = nm) := (hc4.mono (fun k _ e => Or.inl e)).trans (hc5.mono (fun k _ e => Or.inr e))
        refine hK.out _ _ (hS16 w5 hC5) (fun hHeld => ?_)
        clear hK K
        try simp only [Act.put]
        refine wpAnyH_done (by kernel_rfl) ?_ _
        have hK4 := hKp.chg hc4 (fun k ty e hk _ => by have := hlt.1; omega)
        have hx4 := (hx2.grown hg4).rebase (base' := base) (by have := hg2'.size; have := hc1.size; have : w1.drew.heap.size = w1.heap.size := rfl; omega)
        have hal4 : Lone w4 D' t.s g4 xo := fun t' g' ht _ => by
          obtain ⟨p1, p2⟩ := hKp.below hc4 (fun k ty e hk _ => by have := hlt.1; omega) t' g' ht
          have l1 : w1.heap.size ≤ w2.heap.size := hg2'.size
          have l2 : w1.drew.heap.size = w1.heap.size := rfl
          have l3 := hc1.size
          exact ⟨by omega, fun bo' n c q hq hb hx => by have := p2 bo' n c q hq hb; have := (hx2.from_base q hx).1; omega⟩
        have hK5 := (hK4.put hM4 t.s g4 z hgl hf4 hx4 hal4).chg hc5 (fun k ty e hk _ => by have := hlt.2; omega)
        have hP5 := (hP2.grown hg4).put hM4 hg5 (fun a e => (hpo a e).2)
        clear hHeld hSS hS15 hS16
        have hR : Rnd W w5 za zp k' o pn pc l nm n' base _ B := ⟨n' + 1, _, hP5, hM5, Nat.le_refl _, hK5, hC5⟩
        clear hP5 hM5 hK5 hC5
        gi_wp2
      | some a =>
        clear hnil'
        have hSS : ∀ V, Chg W V (fun q => q = za) → (fun w' : World => w'.cell? ⟨y2, 0, none⟩ = some (.pointer (some ⟨b, 0, none⟩)) ∧ w'.cell? ⟨b, 0, none⟩ = some (.map (some m)) ∧ w'.cell? ⟨zf, 0, none⟩ = some (.string t.s) ∧ (Instr.lookup 64 (.map (some m)) (.string t.s) false).run Try.prog w' = .ok (.pointer (some ⟨g, 0, none⟩)) w' ∧ w'.cell? ⟨g, 0, none⟩ = some (.slice (some a) t.sz bc)) V := fun V hV => hS14 V hV
        gi_wp2_with fail
        refine wpIn_region_round (S := fun w' => w'.cell? ⟨y2, 0, none⟩ = some (.pointer (some ⟨b, 0, none⟩)) ∧ w'.cell? ⟨b, 0, none⟩ = some (.map (some m)) ∧ w'.cell? ⟨zf, 0, none⟩ = some (.string t.s) ∧ (Instr.lookup 64 (.map (some m)) (.string t.s) false).run Try.prog w' = .ok (.pointer (some ⟨g, 0, none⟩)) w' ∧ w'.cell? ⟨g, 0, none⟩ = some (.slice (some a) t.sz bc)) (by kernel_rfl) (by kernel_rfl) (by rintro ⟨_, _, h⟩; exact nomatch h.1) (hSS _ (hc1.trans (Chg.of_grown (grown_drew w1 none) _))) (fun hHeld => ?_)
        clear hS14
        refine wpAnyH_take (i := 0) (oi := { dst := some 41, op := Op.load 26 (Operand.tmp 2), type := 26, pos := "disk.go:221", after := #[], guard := none }) (v := ?_) rfl (by kernel_rfl) (by kernel_rfl) (by kernel_rfl) (fun _ _ _ h => nomatch h.1) (Or.inl ⟨by rfl, ?_⟩) (by assumption) ?_
        rotate_left
        · intro w hSw; (try dsimp only at hSw); go_simp
          try with_reducible rfl
        try simp only [Act.put, List.setIfInBounds_toArray, List.set_cons_zero, List.set_cons_succ]
        refine wpAnyH_take (i := 1) (oi := { dst := some 42, op := Op.nilCheck (Operand.tmp 41), type := 0, pos := "disk.go:221", after := #[{ on := 0, ground := Ground.data }], guard := none }) (v := ?_) rfl (by kernel_rfl) (by kernel_rfl) (by kernel_rfl) (fun _ _ _ h => nomatch h.1) (Or.inl ⟨by rfl, ?_⟩) (by assumption) ?_
        rotate_left
        · intro w hSw; (try dsimp only at hSw); go_simp
          try with_reducible rfl
        try simp only [Act.put, List.setIfInBounds_toArray, List.set_cons_zero, List.set_cons_succ]
        refine wpAnyH_take (i := 2) (oi := { dst := some 43, op := Op.fieldAddr 67 (Operand.tmp 42) 0, type := 0, pos := "disk.go:221", after := #[{ on := 1, ground := Ground.data }], guard := none }) (v := ?_) rfl (by kernel_rfl) (by kernel_rfl) (by kernel_rfl) (fun _ _ _ h => nomatch h.1) (Or.inl ⟨by rfl, ?_⟩) (by assumption) ?_
        rotate_left
        · intro w hSw; (try dsimp only at hSw); go_simp
          try with_reducible rfl
        try simp only [Act.put, List.setIfInBounds_toArray, List.set_cons_zero, List.set_cons_succ]
        refine wpAnyH_take (i := 3) (oi := { dst := some 44, op := Op.load 64 (Operand.tmp 43), type := 64, pos := "disk.go:221", after := #[{ on := 2, ground := Ground.data }], guard := none }) (v := ?_) rfl (by kernel_rfl) (by kernel_rfl) (by kernel_rfl) (fun _ _ _ h => nomatch h.1) (Or.inl ⟨by rfl, ?_⟩) (by assumption) ?_
        rotate_left
        · intro w hSw; (try dsimp only at hSw); go_simp
          try with_reducible rfl
        try simp only [Act.put, List.setIfInBounds_toArray, List.set_cons_zero, List.set_cons_succ]
        refine wpAnyH_take (i := 4) (oi := { dst := some 45, op := Op.fieldAddr 102 (Operand.tmp 10) 0, type := 0, pos := "disk.go:221", after := #[], guard := none }) (v := ?_) rfl (by kernel_rfl) (by kernel_rfl) (by kernel_rfl) (fun _ _ _ h => nomatch h.1) (Or.inl ⟨by rfl, ?_⟩) (by assumption) ?_
        rotate_left
        · intro w hSw; (try dsimp only at hSw); go_simp
          try with_reducible rfl
        try simp only [Act.put, List.setIfInBounds_toArray, List.set_cons_zero, List.set_cons_succ]
        refine wpAnyH_take (i := 5) (oi := { dst := some 46, op := Op.load 9 (Operand.tmp 45), type := 9, pos := "disk.go:221", after := #[{ on := 4, ground := Ground.data }], guard := none }) (v := ?_) rfl (by kernel_rfl) (by kernel_rfl) (by kernel_rfl) (fun _ _ _ h => nomatch h.1) (Or.inl ⟨by rfl, ?_⟩) (by assumption) ?_
        rotate_left
        · intro w hSw; (try dsimp only at hSw); go_simp
          try with_reducible rfl
        try simp only [Act.put, List.setIfInBounds_toArray, List.set_cons_zero, List.set_cons_succ]
        refine wpAnyH_take (i := 6) (oi := { dst := some 47, op := Op.lookup 64 (Operand.tmp 44) (Operand.tmp 46) false, type := 106, pos := "disk.go:221", after := #[{ on := 3, ground := Ground.data }, { on := 5, ground := Ground.data }], guard := none }) (v := ?_) rfl (by kernel_rfl) (by kernel_rfl) (by kernel_rfl) (fun _ _ _ h => nomatch h.1) (Or.inl ⟨by rfl, ?_⟩) (by assumption) ?_
        rotate_left
        · intro w hSw; (try dsimp only at hSw); go_simp
          try with_reducible rfl
        try simp only [Act.put, List.setIfInBounds_toArray, List.set_cons_zero, List.set_cons_succ]
        refine wpAnyH_take (i := 7) (oi := { dst := some 48, op := Op.nilCheck (Operand.tmp 47), type := 0, pos := "disk.go:221", after := #[{ on := 6, ground := Ground.data }], guard := none }) (v := ?_) rfl (by kernel_rfl) (by kernel_rfl) (by kernel_rfl) (fun _ _ _ h => nomatch h.1) (Or.inl ⟨by rfl, ?_⟩) (by assumption) ?_
        rotate_left
        · intro w hSw; (try dsimp only at hSw); go_simp
          try with_reducible rfl
        try simp only [Act.put, List.setIfInBounds_toArray, List.set_cons_zero, List.set_cons_succ]
        refine wpAnyH_take (i := 8) (oi := { dst := some 49, op := Op.fieldAddr 112 (Operand.tmp 48) 0, type := 0, pos := "disk.go:221", after := #[{ on := 7, ground := Ground.data }], guard := none }) (v := ?_) rfl (by kernel_rfl) (by kernel_rfl) (by kernel_rfl) (fun _ _ _ h => nomatch h.1) (Or.inl ⟨by rfl, ?_⟩) (by assumption) ?_
        rotate_left
        · intro w hSw; (try dsimp only at hSw); go_simp
          try with_reducible rfl
        try simp only [Act.put, List.setIfInBounds_toArray, List.set_cons_zero, List.set_cons_succ]
        refine wpAnyH_take (i := 9) (oi := { dst := some 50, op := Op.load 56 (Operand.tmp 49), type := 56, pos := "disk.go:221", after := #[{ on := 8, ground := Ground.data }], guard := none }) (v := ?_) rfl (by kernel_rfl) (by kernel_rfl) (by kernel_rfl) (fun _ _ _ h => nomatch h.1) (Or.inl ⟨by rfl, ?_⟩) (by assumption) ?_
        rotate_left
        · intro w hSw; (try dsimp only at hSw); go_simp
          try with_reducible rfl
        try simp only [Act.put, List.setIfInBounds_toArray, List.set_cons_zero, List.set_cons_succ]
        refine wpAnyH_take (i := 10) (oi := { dst := some 51, op := Op.move (Operand.tmp 11), type := 3, pos := "disk.go:221", after := #[], guard := none }) (v := ?_) rfl (by kernel_rfl) (by kernel_rfl) (by kernel_rfl) (fun _ _ _ h => nomatch h.1) (Or.inl ⟨by rfl, ?_⟩) (by assumption) ?_
        rotate_left
        · intro w hSw; (try dsimp only at hSw); go_simp
          try with_reducible rfl
        try simp only [Act.put, List.setIfInBounds_toArray, List.set_cons_zero, List.set_cons_succ]
        refine wpAnyH_take (i := 11) (oi := { dst := some 52, op := Op.slice 56 (Operand.tmp 50) none (some (Operand.tmp 51)) none, type := 56, pos := "disk.go:221", after := #[{ on := 9, ground := Ground.data }, { on := 10, ground := Ground.data }], guard := none }) (v := ?_) rfl (by kernel_rfl) (by kernel_rfl) (by kernel_rfl) (fun _ _ _ h => nomatch h.1) (Or.inl ⟨by rfl, ?_⟩) (by assumption) ?_
        rotate_left
        · intro w hSw; (try dsimp only at hSw); go_simp
          try with_reducible rfl
        try simp only [Act.put, List.setIfInBounds_toArray, List.set_cons_zero, List.set_cons_succ]
        refine wpAnyH_ready (rs := [12]) (by kernel_rfl) (by simp) ?_
        refine AllReadyH.cons (o := { dst := some 53, op := Op.call { callee := Callee.value (Operand.func 65), args := #[Operand.tmp 52], argTypes := #[56] }, type := 56, pos := "disk.go:221", after := #[{ on := 11, ground := Ground.data }], guard := none }) rfl (fun K hK => ?_) AllReadyH.nil
        go_simp
        go_at_call 65
        refine hcl.mono ?_
        rintro e w2 ⟨xo, xc, rfl, hx2, hg2⟩
        have hg2' : w1.grownBy w2 none := grown_trans (grown_drew w1 none) hg2 (by simp)
        have hc2 := hc1.trans (Chg.of_grown hg2' _)
        try go_simp
        refine hK.out _ _ (hSS _ hc2) (fun hHeld => ?_)
        clear hK K
        try simp only [Act.put, List.setIfInBounds_toArray, List.set_cons_zero, List.set_cons_succ]
        refine wpAnyH_take (i := 13) (oi := { dst := some 13, op := Op.assign (Operand.tmp 53), type := 56, pos := "disk.go:221", after := #[{ on := 12, ground := Ground.data }, { on := 12, ground := Ground.chain }, { on := 0, ground := Ground.phase }, { on := 1, ground := Ground.phase }, { on := 2, ground := Ground.phase }, { on := 3, ground := Ground.phase }, { on := 4, ground := Ground.phase }, { on := 5, ground := Ground.phase }, { on := 6, ground := Ground.phase }, { on := 7, ground := Ground.phase }, { on := 8, ground := Ground.phase }, { on := 9, ground := Ground.phase }, { on := 10, ground := Ground.phase }, { on := 11, ground := Ground.phase }, { on := 12, ground := Ground.phase }], guard := none }) (v := ?_) rfl (by kernel_rfl) (by kernel_rfl) (by kernel_rfl) (fun _ _ _ h => nomatch h.1) (Or.inl ⟨by rfl, ?_⟩) (by assumption) ?_
        rotate_left
        · intro w hSw; (try dsimp only at hSw); go_simp
          try with_reducible rfl
        try simp only [Act.put, List.setIfInBounds_toArray, List.set_cons_zero, List.set_cons_succ]
        refine wpAnyH_done (by kernel_rfl) ?_ _
        clear hHeld hSS hcl
        have hP2 := hP1.grown hg2'
        obtain ⟨q8, q9, q10⟩ := hS15 w2 hc2
        have hSS : ∀ V, w2.grownBy V none → (fun w' : World => w'.cell? ⟨z8, 0, none⟩ = some (.pointer (some ⟨nb, 0, none⟩)) ∧ w'.cell? ⟨nb, 0, none⟩ = some (.map (some nm)) ∧ w'.cell? ⟨zf, 0, none⟩ = some (.string t.s)) V := fun V hV => ⟨hV.cell q8 (by simp), hV.cell q9 (by simp), hV.cell q10 (by simp)⟩
        gi_wp2_with fail
        refine wpIn_region_round (S := fun w' => w'.cell? ⟨z8, 0, none⟩ = some (.pointer (some ⟨nb, 0, none⟩)) ∧ w'.cell? ⟨nb, 0, none⟩ = some (.map (some nm)) ∧ w'.cell? ⟨zf, 0, none⟩ = some (.string t.s)) (by kernel_rfl) (by kernel_rfl) (by rintro ⟨_, _, h⟩; exact nomatch h.1) (hSS _ (grown_drew w2 none)) (fun hHeld => ?_)
        have hgd := grown_drew w2 none
        generalize w2.drew = w3 at *
        refine wpAnyH_take (i := 0) (oi := { dst := some 54, op := Op.load 26 (Operand.tmp 8), type := 26, pos := "disk.go:222", after := #[], guard := none }) (v := ?_) rfl (by kernel_rfl) (by kernel_rfl) (by kernel_rfl) (fun _ _ _ h => nomatch h.1) (Or.inl ⟨by rfl, ?_⟩) (by assumption) ?_
        rotate_left
        · intro w hSw; (try dsimp only at hSw); go_simp
          try with_reducible rfl
        try simp only [Act.put, List.setIfInBounds_toArray, List.set_cons_zero, List.set_cons_succ]
        refine wpAnyH_take (i := 1) (oi := { dst := some 55, op := Op.nilCheck (Operand.tmp 54), type := 0, pos := "disk.go:222", after := #[{ on := 0, ground := Ground.data }], guard := none }) (v := ?_) rfl (by kernel_rfl) (by kernel_rfl) (by kernel_rfl) (fun _ _ _ h => nomatch h.1) (Or.inl ⟨by rfl, ?_⟩) (by assumption) ?_
        rotate_left
        · intro w hSw; (try dsimp only at hSw); go_simp
          try with_reducible rfl
        try simp only [Act.put, List.setIfInBounds_toArray, List.set_cons_zero, List.set_cons_succ]
        refine wpAnyH_take (i := 2) (oi := { dst := some 56, op := Op.fieldAddr 67 (Operand.tmp 55) 0, type := 0, pos := "disk.go:222", after := #[{ on := 1, ground := Ground.data }], guard := none }) (v := ?_) rfl (by kernel_rfl) (by kernel_rfl) (by kernel_rfl) (fun _ _ _ h => nomatch h.1) (Or.inl ⟨by rfl, ?_⟩) (by assumption) ?_
        rotate_left
        · intro w hSw; (try dsimp only at hSw); go_simp
          try with_reducible rfl
        try simp only [Act.put, List.setIfInBounds_toArray, List.set_cons_zero, List.set_cons_succ]
        refine wpAnyH_take (i := 3) (oi := { dst := some 57, op := Op.load 64 (Operand.tmp 56), type := 64, pos := "disk.go:222", after := #[{ on := 2, ground := Ground.data }], guard := none }) (v := ?_) rfl (by kernel_rfl) (by kernel_rfl) (by kernel_rfl) (fun _ _ _ h => nomatch h.1) (Or.inl ⟨by rfl, ?_⟩) (by assumption) ?_
        rotate_left
        · intro w hSw; (try dsimp only at hSw); go_simp
          try with_reducible rfl
        try simp only [Act.put, List.setIfInBounds_toArray, List.set_cons_zero, List.set_cons_succ]
        refine wpAnyH_take (i := 4) (oi := { dst := some 58, op := Op.fieldAddr 102 (Operand.tmp 10) 0, type := 0, pos := "disk.go:222", after := #[], guard := none }) (v := ?_) rfl (by kernel_rfl) (by kernel_rfl) (by kernel_rfl) (fun _ _ _ h => nomatch h.1) (Or.inl ⟨by rfl, ?_⟩) (by assumption) ?_
        rotate_left
        · intro w hSw; (try dsimp only at hSw); go_simp
          try with_reducible rfl
        try simp only [Act.put, List.setIfInBounds_toArray, List.set_cons_zero, List.set_cons_succ]
        refine wpAnyH_take (i := 5) (oi := { dst := some 59, op := Op.load 9 (Operand.tmp 58), type := 9, pos := "disk.go:222", after := #[{ on := 4, ground := Ground.data }], guard := none }) (v := ?_) rfl (by kernel_rfl) (by kernel_rfl) (by kernel_rfl) (fun _ _ _ h => nomatch h.1) (Or.inl ⟨by rfl, ?_⟩) (by assumption) ?_
        rotate_left
        · intro w hSw; (try dsimp only at hSw); go_simp
          try with_reducible rfl
        try simp only [Act.put, List.setIfInBounds_toArray, List.set_cons_zero, List.set_cons_succ]
        refine wpAnyH_take (i := 6) (oi := { dst := some 60, op := Op.move (Operand.tmp 13), type := 56, pos := "disk.go:222", after := #[], guard := none }) (v := ?_) rfl (by kernel_rfl) (by kernel_rfl) (by kernel_rfl) (fun _ _ _ h => nomatch h.1) (Or.inl ⟨by rfl, ?_⟩) (by assumption) ?_
        rotate_left
        · intro w hSw; (try dsimp only at hSw); go_simp
          try with_reducible rfl
        try simp only [Act.put, List.setIfInBounds_toArray, List.set_cons_zero, List.set_cons_succ]
        refine wpAnyH_take (i := 7) (oi := { dst := some 61, op := Op.move (Operand.tmp 11), type := 3, pos := "disk.go:222", after := #[], guard := none }) (v := ?_) rfl (by kernel_rfl) (by kernel_rfl) (by kernel_rfl) (fun _ _ _ h => nomatch h.1) (Or.inl ⟨by rfl, ?_⟩) (by assumption) ?_
        rotate_left
        · intro w hSw; (try dsimp only at hSw); go_simp
          try with_reducible rfl
        try simp only [Act.put, List.setIfInBounds_toArray, List.set_cons_zero, List.set_cons_succ]
        refine wpAnyH_take (i := 8) (oi := { dst := some 62, op := Op.build 112 #[(0, Operand.tmp 60), (1, Operand.tmp 61), (2, Operand.const (Value.bool true)), (3, Operand.const (Value.bool true))], type := 112, pos := "disk.go:222", after := #[{ on := 6, ground := Ground.data }, { on := 7, ground := Ground.data }], guard := none }) (v := ?_) rfl (by kernel_rfl) (by kernel_rfl) (by kernel_rfl) (fun _ _ _ h => nomatch h.1) (Or.inl ⟨by rfl, ?_⟩) (by assumption) ?_
        rotate_left
        · intro w hSw; (try dsimp only at hSw); go_simp
          try with_reducible rfl
        try simp only [Act.put, List.setIfInBounds_toArray, List.set_cons_zero, List.set_cons_succ]
        refine wpAnyH_ready (rs := [9]) (by kernel_rfl) (by simp) ?_
        refine AllReadyH.cons (o := { dst := some 63, op := Op.box 112 (Operand.tmp 62), type := 106, pos := "disk.go:222", after := #[{ on := 8, ground := Ground.data }], guard := none }) rfl (fun K hK => ?_) AllReadyH.nil
        go_simp
        have hk4 := World.alloc_heap_new w3 (.cells #[.slice xo z xc, .int .i64 z, .bool true, .bool true] 112)
        have hg4 := grown_trans hgd (alloc_grown w3 (.cells #[.slice xo z xc, .int .i64 z, .bool true, .bool true] 112)) (by simp)
        have hf4 := fl_new hk4
        obtain ⟨g4, hg4e⟩ : ∃ g4, w3.heap.size = g4 := ⟨_, rfl⟩
        have hgl : base ≤ g4 := by have := hgd.size; have := hg2'.size; have := hc1.size; omega
        have hgW : W.heap.size ≤ g4 := by have := hgd.size; have := hg2'.size; have := hc1.size; omega
        rw [hg4e] at hf4 ⊢
        clear hg4e hk4
        generalize w3.alloc (.cells #[.slice xo z xc, .int .i64 z, .bool true, .bool true] 112) = w4 at *
        refine hK.out _ _ (hSS _ hg4) (fun hHeld => ?_)
        clear hK K
        try simp only [Act.put, List.setIfInBounds_toArray, List.set_cons_zero, List.set_cons_succ]
        refine wpAnyH_ready (rs := [10]) (by kernel_rfl) (by simp) ?_
        refine AllReadyH.cons (o := { dst := none, op := Op.mapUpdate 64 (Operand.tmp 57) (Operand.tmp 59) (Operand.tmp 63), type := 0, pos := "disk.go:222", after := #[{ on := 3, ground := Ground.data }, { on := 5, ground := Ground.data }, { on := 9, ground := Ground.data }, { on := 0, ground := Ground.phase }, { on := 1, ground := Ground.phase }, { on := 2, ground := Ground.phase }, { on := 3, ground := Ground.phase }, { on := 4, ground := Ground.phase }, { on := 5, ground := Ground.phase }, { on := 6, ground := Ground.phase }, { on := 7, ground := Ground.phase }, { on := 8, ground := Ground.phase }, { on := 9, ground := Ground.phase }], guard := none }) rfl (fun K hK => ?_) AllReadyH.nil
        have hc4 := hc2.trans (Chg.of_grown hg4 _)
        have hM4 := hM.chg hc4 (fun e => hne.1 e.symm)
        refine step_put (by rfl) (.tmp 57) (.tmp 59) (.tmp 63) (by rfl) nm n' D' (by rfl) hM4 hn' t.s (by unfold maxLen; omega) (by rfl) g4 (by rfl) ?_
        intro w5 hM5 hg5
        have hc5 := chg_row hg5
        have hC5 : Chg W w5 (fun q => q = za ∨ q = nm) := (hc4.mono (fun k _ e => Or.inl e)).trans (hc5.mono (fun k _ e => Or.inr e))
        refine hK.out _ _ (hS16 w5 hC5) (fun hHeld => ?_)
        clear hK K
        try simp only [Act.put]
        refine wpAnyH_done (by kernel_rfl) ?_ _
        have hK4 := hKp.chg hc4 (fun k ty e hk _ => by have := hlt.1; omega)
        have hx4 := (hx2.grown hg4).rebase (base' := base) (by have := hg2'.size; have := hc1.size; have : w1.drew.heap.size = w1.heap.size := rfl; omega)
        have hal4 : Lone w4 D' t.s g4 xo := fun t' g' ht _ => by
          obtain ⟨p1, p2⟩ := hKp.below hc4 (fun k ty e hk _ => by have := hlt.1; omega) t' g' ht
          have l1 : w1.heap.size ≤ w2.heap.size := hg2'.size
          have l2 : w1.drew.heap.size = w1.heap.size := rfl
          have l3 := hc1.size
          exact ⟨by omega, fun bo' n c q hq hb hx => by have := p2 bo' n c q hq hb; have := (hx2.from_base q hx).1; omega⟩
        have hK5 := (hK4.put hM4 t.s g4 z hgl hf4 hx4 hal4).chg hc5 (fun k ty e hk _ => by have := hlt.2; omega)
        have hP5 := (hP2.grown hg4).put hM4 hg5 (fun a e => (hpo a e).2)
        clear hHeld hSS hS15 hS16
        have hR : Rnd W w5 za zp k' o pn pc l nm n' base _ B := ⟨n' + 1, _, hP5, hM5, Nat.le_refl _, hK5, hC5⟩
        clear hP5 hM5 hK5 hC5
        gi_wp2
  obtain ⟨code', h1, h2⟩ := hcode2
  rw [hcode] at h1
  cases h1
  exact h2
end Go.Proofs.Ytgkeflgfnagnjaa

/-
  DERIVED: THE SHELF's CONTRACTS AT THIS DUMP, IN PLAIN WORDS (tools/lay-plain.mjs out of 'YtgkeflgfnagnjaaLays.lean', which tools/lay-shelf.mjs wrote): THE SAME DECLARATIONS UNDER THE SAME NAMES: 'import', 'namespace', 'open', 'def', 'theorem' AND NOTHING ELSE: no command of the shelf's: FOR A HAND-IN. Each laying: the table of numbers ('.._ren') and one theorem, a field a fact of the dump's own or the kernel's comparison; each contract: ONE APPLICATION.
-/
namespace Go.Proofs
open Go.Shelf
def Try.keys82_ren : Go.Shelf.Ren := ⟨fun | 7 => 82 | 10 => 93 | n => n, fun | 23 => 64 | 26 => 9 | 3 => 106 | 28 => 142 | 0 => 0 | 27 => 141 | 33 => 124 | 4 => 4 | n => n, fun | n => n⟩
theorem Try.keys82 : Go.Proofs.SlLaysZ.n7 Try.prog Try.keys82_ren := {
  mixed := by kernel_rfl
  f7 := ⟨Try.f82.name, by decide, Try.func82.trans (congrArg some (by kernel_rfl))⟩
  f10 := ⟨Try.f93.name, by decide, Try.func93.trans (congrArg some (by kernel_rfl))⟩
  t0 := Try.underlying0
  a0 := Try.isAgg0
  z0 := Try.sizeOf0
  v0 := Try.zeroValue0
  t4 := Try.underlying4
  a4 := Try.isAgg4
  z4 := Try.sizeOf4
  v4 := Try.zeroValue4
  t23 := Try.underlying64
  a23 := Try.isAgg64
  z23 := Try.sizeOf64
  v23 := Try.zeroValue64
  t26 := Try.underlying9
  a26 := Try.isAgg9
  z26 := Try.sizeOf9
  v26 := Try.zeroValue9
  t27 := Try.underlying141
  a27 := Try.isAgg141
  z27 := Try.sizeOf141
  v27 := Try.zeroValue141
  t28 := Try.underlying142
  a28 := Try.isAgg142
  z28 := Try.sizeOf142
  v28 := Try.zeroValue142
  t33 := Try.underlying124
  a33 := Try.isAgg124
  z33 := Try.sizeOf124
  v33 := Try.zeroValue124 }
def Try.sorted81_ren : Go.Shelf.Ren := ⟨fun | 6 => 81 | 8 => 91 | 9 => 92 | 11 => 94 | 13 => 96 | 12 => 95 | 23 => 106 | 24 => 107 | 14 => 97 | 15 => 98 | 16 => 99 | 17 => 100 | 18 => 101 | 19 => 102 | 20 => 103 | 21 => 104 | 22 => 105 | 25 => 108 | 26 => 109 | 27 => 110 | 28 => 111 | 29 => 112 | 30 => 113 | 31 => 114 | n => n, fun | 26 => 9 | 28 => 142 | 24 => 121 | 0 => 0 | 3 => 3 | 37 => 154 | 48 => 164 | 50 => 166 | 4 => 4 | 40 => 157 | 39 => 156 | 45 => 115 | 5 => 5 | 9 => 9 | 51 => 167 | 55 => 171 | 57 => 173 | 58 => 125 | 33 => 124 | n => n, fun | n => n⟩
theorem Try.sorted81 : Go.Proofs.SlLaysZ.n6 Try.prog Try.sorted81_ren := {
  mixed := by kernel_rfl
  f6 := ⟨Try.f81.name, by decide, Try.func81.trans (congrArg some (by kernel_rfl))⟩
  f8 := ⟨Try.f91.name, by decide, Try.func91.trans (congrArg some (by kernel_rfl))⟩
  f11 := ⟨Try.f94.name, by decide, Try.func94.trans (congrArg some (by kernel_rfl))⟩
  t0 := Try.underlying0
  a0 := Try.isAgg0
  z0 := Try.sizeOf0
  v0 := Try.zeroValue0
  t24 := Try.underlying121
  a24 := Try.isAgg121
  z24 := Try.sizeOf121
  v24 := Try.zeroValue121
  t26 := Try.underlying9
  a26 := Try.isAgg9
  z26 := Try.sizeOf9
  v26 := Try.zeroValue9
  t28 := Try.underlying142
  a28 := Try.isAgg142
  z28 := Try.sizeOf142
  v28 := Try.zeroValue142
  i26 := by kernel_rfl }
def Try.sort92_ren : Go.Shelf.Ren := ⟨fun | 6 => 92 | 8 => 96 | 9 => 95 | 19 => 106 | 20 => 107 | 21 => 97 | 22 => 98 | 23 => 99 | 24 => 100 | 25 => 101 | 26 => 102 | 27 => 103 | 28 => 104 | 29 => 105 | 36 => 108 | 31 => 109 | 32 => 110 | 37 => 111 | 38 => 112 | 39 => 113 | 41 => 114 | n => n, fun | 27 => 121 | 29 => 9 | 3 => 3 | 32 => 154 | 26 => 121 | 0 => 0 | 44 => 164 | 46 => 166 | 4 => 4 | 36 => 157 | 35 => 156 | 41 => 115 | 5 => 5 | 9 => 9 | 53 => 167 | 57 => 171 | 63 => 173 | 64 => 125 | n => n, fun | n => n⟩
theorem Try.sort92 : Go.Proofs.SlLaysM.n6 Try.prog Try.sort92_ren := {
  mixed := by kernel_rfl
  f6 := ⟨Try.f92.name, by decide, Try.func92.trans (congrArg some (by kernel_rfl))⟩
  f8 := Try.func96.trans (congrArg some (by kernel_rfl))
  f9 := ⟨Try.f95.name, by decide, Try.func95.trans (congrArg some (by kernel_rfl))⟩
  f19 := Try.func106.trans (congrArg some (by kernel_rfl))
  f20 := Try.func107.trans (congrArg some (by kernel_rfl))
  f21 := ⟨Try.f97.name, by decide, Try.func97.trans (congrArg some (by kernel_rfl))⟩
  f22 := ⟨Try.f98.name, by decide, Try.func98.trans (congrArg some (by kernel_rfl))⟩
  f23 := ⟨Try.f99.name, by decide, Try.func99.trans (congrArg some (by kernel_rfl))⟩
  f24 := ⟨Try.f100.name, by decide, Try.func100.trans (congrArg some (by kernel_rfl))⟩
  f25 := ⟨Try.f101.name, by decide, Try.func101.trans (congrArg some (by kernel_rfl))⟩
  f26 := ⟨Try.f102.name, by decide, Try.func102.trans (congrArg some (by kernel_rfl))⟩
  f27 := ⟨Try.f103.name, by decide, Try.func103.trans (congrArg some (by kernel_rfl))⟩
  f28 := ⟨Try.f104.name, by decide, Try.func104.trans (congrArg some (by kernel_rfl))⟩
  f29 := ⟨Try.f105.name, by decide, Try.func105.trans (congrArg some (by kernel_rfl))⟩
  f31 := Try.func109.trans (congrArg some (by kernel_rfl))
  f32 := Try.func110.trans (congrArg some (by kernel_rfl))
  f36 := ⟨Try.f108.name, by decide, Try.func108.trans (congrArg some (by kernel_rfl))⟩
  f37 := ⟨Try.f111.name, by decide, Try.func111.trans (congrArg some (by kernel_rfl))⟩
  f38 := ⟨Try.f112.name, by decide, Try.func112.trans (congrArg some (by kernel_rfl))⟩
  f39 := ⟨Try.f113.name, by decide, Try.func113.trans (congrArg some (by kernel_rfl))⟩
  f41 := ⟨Try.f114.name, by decide, Try.func114.trans (congrArg some (by kernel_rfl))⟩
  t0 := Try.underlying0
  a0 := Try.isAgg0
  z0 := Try.sizeOf0
  v0 := Try.zeroValue0
  t3 := Try.underlying3
  a3 := Try.isAgg3
  z3 := Try.sizeOf3
  v3 := Try.zeroValue3
  t4 := Try.underlying4
  a4 := Try.isAgg4
  z4 := Try.sizeOf4
  v4 := Try.zeroValue4
  t5 := Try.underlying5
  a5 := Try.isAgg5
  z5 := Try.sizeOf5
  v5 := Try.zeroValue5
  t9 := Try.underlying9
  a9 := Try.isAgg9
  z9 := Try.sizeOf9
  v9 := Try.zeroValue9
  t26 := Try.underlying121
  a26 := Try.isAgg121
  z26 := Try.sizeOf121
  v26 := Try.zeroValue121
  t27 := Try.underlying121
  a27 := Try.isAgg121
  z27 := Try.sizeOf121
  v27 := Try.zeroValue121
  t29 := Try.underlying9
  a29 := Try.isAgg9
  z29 := Try.sizeOf9
  v29 := Try.zeroValue9
  t32 := Try.underlying154
  a32 := Try.isAgg154
  z32 := Try.sizeOf154
  v32 := Try.zeroValue154
  t35 := Try.underlying156
  a35 := Try.isAgg156
  z35 := Try.sizeOf156
  v35 := Try.zeroValue156
  t36 := Try.underlying157
  a36 := Try.isAgg157
  z36 := Try.sizeOf157
  v36 := Try.zeroValue157
  t41 := Try.underlying115
  a41 := Try.isAgg115
  z41 := Try.sizeOf115
  v41 := Try.zeroValue115
  t44 := Try.underlying164
  a44 := Try.isAgg164
  z44 := Try.sizeOf164
  v44 := Try.zeroValue164
  t46 := Try.underlying166
  a46 := Try.isAgg166
  z46 := Try.sizeOf166
  v46 := Try.zeroValue166
  t53 := Try.underlying167
  a53 := Try.isAgg167
  z53 := Try.sizeOf167
  v53 := Try.zeroValue167
  t57 := Try.underlying171
  a57 := Try.isAgg171
  z57 := Try.sizeOf171
  v57 := Try.zeroValue171
  t63 := Try.underlying173
  a63 := Try.isAgg173
  z63 := Try.sizeOf173
  v63 := Try.zeroValue173
  t64 := Try.underlying125
  a64 := Try.isAgg125
  z64 := Try.sizeOf125
  v64 := Try.zeroValue125 }
end Go.Proofs
