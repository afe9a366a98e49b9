import Derived.Test.YtlghcboenkglnaaGreatDoorZau
/-
  All's closure as an iterator over copies of the whole batches.
-/
namespace Go.Proofs.YtlghcboenkglnaaGreatDoor.Rec
open Go.Proofs.YtlghcboenkglnaaGreatDoor
open Go.RowKit Go.Shelf
set_option linter.unusedVariables false
attribute [local go_sem] Oper.semAt_some

/-- All cells stay. -/
structure Cs (W W' : World) : Prop where
  size : W.heap.size ≤ W'.heap.size
  cell : ∀ a v, W.cell? a = some v → W'.cell? a = some v
theorem Cs.of_row {W W' : World} {row : Option Nat} (hg : W.grownBy W' row) (hr : ∀ r, row = some r → ∃ o : Obj, W.heap[r]? = some o ∧ o.isCells = false) : Cs W W' := ⟨hg.size, fun a v h => by
  refine hg.cell h (fun e => ?_)
  obtain ⟨o, ho, hc⟩ := hr a.block e.symm
  cases o <;> simp_all [World.cell?, Obj.isCells]⟩
theorem Cs.of {W W' : World} (hg : W.grownBy W' none) : Cs W W' := Cs.of_row hg (fun r e => by cases e)
theorem Bs.cs {W W' : World} {ao : Option Addr} {n cap : Nat} {l : List UInt8} (h : Bs W ao n cap l) (hc : Cs W W') : Bs W' ao n cap l := ⟨h.len, h.room, h.top, h.nil, fun a ha j u hu => hc.cell _ _ (h.cells a ha j u hu)⟩
theorem Rk.cs {W W' : World} {r : Rc} (h : Rk W r) (hc : Cs W W') : Rk W' r := ⟨h.low, h.high, Bs.cs h.key hc, Bs.cs h.value hc, h.kb, h.vb⟩
theorem Rs.cs {W W' : World} {ao : Option Addr} {n cap : Nat} {l : List Rc} (h : Rs W ao n cap l) (hc : Cs W W') : Rs W' ao n cap l :=
  ⟨h.len, h.room, h.top, h.nil, fun a ha hn => by obtain ⟨b, o, e, hb⟩ := h.place a ha hn; exact ⟨b, o, e, Nat.lt_of_lt_of_le hb hc.size⟩, fun b o ha j r hj => by
    obtain ⟨h1, h2, h3⟩ := h.cells b o ha j r hj
    exact ⟨hc.cell _ _ h1, hc.cell _ _ h2, hc.cell _ _ h3⟩, fun r hr => (h.shows r hr).cs hc⟩
theorem Ytold.cs {L : List UInt8} {n : Nat} {pre : List Wy} {x : Wy} {W W' : World} (h : Ytold L n pre x W) (hc : Cs W W') : Ytold L n pre x W' := ⟨h.1, h.2.1, h.2.2.1.cs hc, h.2.2.2⟩
/-- What All hands on: a place, and a copy of the batch that stands there. -/
structure Px where
  p : Nat
  b : Int
  g : Nat
  c : Nat
  rs : List Rc
def penc (x : Px) : Array Value := #[.int .i64 x.p, .agg #[.int .i64 x.b, .slice (some ⟨x.g, 0, none⟩) x.c x.c]]
def Px.q (x : Px) : Nat × Int × List Dr := (x.p, x.b, ds x.rs)
/-- What is told of it. -/
def Ptold (L : List UInt8) (n : Nat) (pre : List Px) (x : Px) (W : World) : Prop :=
  Pl L n (pre.map Px.q) x.p ∧ (∃ s, RK L n x.p x.b x.c s 0 (ds x.rs)) ∧ Rs W (some ⟨x.g, 0, none⟩) x.c x.c x.rs
end Go.Proofs.YtlghcboenkglnaaGreatDoor.Rec

/-
  wholes' closure, and All's, as iterators whose rounds may write one box and rows of records.
-/
namespace Go.Proofs.YtlghcboenkglnaaGreatDoor.Rec
open Go.Proofs.YtlghcboenkglnaaGreatDoor
open Go.RowKit Go.Shelf
set_option linter.unusedVariables false
attribute [local go_sem] Oper.semAt_some

/-- The bytes of records lie in no row of records. -/
def NR (W : World) (rs : List Rc) : Prop := ∀ r ∈ rs, (∀ a, r.ko = some a → ByR W a.block) ∧ ∀ a, r.vo = some a → ByR W a.block
theorem NR.of {W : World} {base : Nat} {rs : List Rc} (h : ∀ r ∈ rs, Own W base r) : NR W rs := fun r hr => ⟨(h r hr).knr, (h r hr).vnr⟩
theorem NR.kept {W V : World} {rs : List Rc} {row : Option Nat} (h : NR W rs) (hg : W.grownBy V row) (hr : ∀ k, row = some k → ¬ ByR W k) : NR V rs := fun r hx => ⟨fun a ha => ((h r hx).1 a ha).kept hg (fun e => hr _ e ((h r hx).1 a ha)), fun a ha => ((h r hx).2 a ha).kept hg (fun e => hr _ e ((h r hx).2 a ha))⟩
theorem NR.grown {W V : World} {rs : List Rc} (h : NR W rs) (hg : W.grownBy V none) : NR V rs := h.kept hg (fun k e => by cases e)
/-- What is told of what All hands on. -/
def Rtold (L : List UInt8) (n : Nat) (pre : List Px) (x : Px) (W : World) : Prop := Ptold L n pre x W ∧ NR W x.rs ∧ x.rs.length ≤ 65536
/-- All blocks of cells, and all that lie ahead of B, are kept, but one, and but rows of records behind B. -/
structure Kr (B q : Nat) (W W' : World) : Prop where
  os : W'.os = W.os
  tape : W'.tape = W.tape
  output : W'.output = W.output
  size : W.heap.size ≤ W'.heap.size
  same : ∀ (k : Nat) (o : Obj), W.heap[k]? = some o → (o.isCells = true ∨ k < B) → k ≠ q → (B ≤ k → isRowR o = false) → W'.heap[k]? = some o
theorem Kr.refl (B q : Nat) (W : World) : Kr B q W W := ⟨rfl, rfl, rfl, Nat.le_refl _, fun _ _ h _ _ _ => h⟩
theorem Kr.trans {B q : Nat} {X Y Z : World} (h : Kr B q X Y) (h' : Kr B q Y Z) : Kr B q X Z := ⟨h'.os.trans h.os, h'.tape.trans h.tape, h'.output.trans h.output, Nat.le_trans h.size h'.size, fun k o h1 h2 h3 h4 => h'.same k o (h.same k o h1 h2 h3 h4) h2 h3 h4⟩
theorem Kr.heap {B q : Nat} {W W' : World} (h : Kr B q W W') {k : Nat} {cs : Array Value} {t : TypeId} (hk : W.heap[k]? = some (.cells cs t)) (hq : k ≠ q) (ht : isRowR (.cells cs t) = false := by rfl) : W'.heap[k]? = some (.cells cs t) := h.same k _ hk (.inl rfl) hq (fun _ => ht)
theorem Kr.cell {B q : Nat} {W W' : World} (h : Kr B q W W') {a : Addr} {v : Value} (hc : W.cell? a = some v) (hq : a.block ≠ q) (hn : NoRow W a.block) : W'.cell? a = some v := by
  cases ho : W.heap[a.block]? with
  | none => simp [World.cell?, ho] at hc
  | some o =>
    by_cases hi : o.isCells = true
    · rw [World.cell?_of_block ((h.same _ o ho (.inl hi) hq (fun _ => hn o ho)).trans ho.symm)]
      exact hc
    · exfalso
      cases o <;> simp_all [World.cell?, Obj.isCells]
theorem Kr.of {B q : Nat} {W W' : World} (h : W.grownBy W' none) : Kr B q W W' := ⟨h.os, h.tape, h.output, h.size, fun k o hk _ _ _ => heap_kept h hk (by simp)⟩
/-- What lies ahead of B, and is not the one: that stands. -/
theorem Kr.chg {B q : Nat} {W W' : World} (h : Kr B q W W') : Chg W W' (fun k => ¬ (k < B ∧ k ≠ q)) :=
  ⟨h.os, h.tape, h.output, h.size, fun k hk hn => by
    have hn := Classical.not_not.1 hn
    cases ho : W.heap[k]? with
    | none => rw [Array.getElem?_eq_none_iff] at ho; omega
    | some o => exact h.same k o ho (.inr hn.1) hn.2 (fun h8 => absurd h8 (by omega))⟩
theorem Bs.kr {B q : Nat} {W W' : World} {ao : Option Addr} {n cap : Nat} {L : List UInt8} (h : Bs W ao n cap L) (hk : Kr B q W W') (hne : ∀ a, ao = some a → a.block ≠ q) (hnr : ∀ a, ao = some a → NoRow W a.block) : Bs W' ao n cap L :=
  ⟨h.len, h.room, h.top, h.nil, fun a ha j u hu => hk.cell (h.cells a ha j u hu) (by rw [add_block]; exact hne a ha) (by rw [add_block]; exact hnr a ha)⟩
set_option maxRecDepth 100000 in
set_option maxHeartbeats 2000000 in
theorem wholes1_rows (Bk l ca cb q : Nat) (ao : Option Addr) (n cap : Nat) (L : List UInt8) (hn : n ≤ 16777216) (J Jx : List Wy → World → Prop) (m : Nat) (hm : 1 ≤ m)
    (hJ : ∀ s W W', J s W → W.grownBy W' none → J s W') (hJx : ∀ s W W', Jx s W → W.grownBy W' none → Jx s W')
    (hY : ∀ pre x W1, J pre W1 → Ytold L n pre x W1 → YieldAt Fence.wide (m - 1) Tryz.prog l (yenc x) W1 (Said J Jx (Kr Bk q) (pre ++ [x]) W1))
    (W : World) (hca : W.cell? ⟨ca, 0, none⟩ = some (.int .i64 (0 : Nat))) (hcb : W.heap[cb]? = some (.cells #[.slice ao n cap] 48)) (hcq : cb ≠ q) (hql : q < W.heap.size) (hB : ∀ W', Kr Bk q W W' → Bp W' ao n cap L) (h0 : J [] W) :
    CallsIn Fence.wide m Tryz.prog 150 #[.func (.yield l) #[] #[], .pointer (some ⟨ca, 0, none⟩), .pointer (some ⟨cb, 0, none⟩)] W fun e W' => (∃ v, e = .returned v) ∧
      ((∃ ys, Yend L n (ys.map Wy.q) ∧ J ys W') ∨ (∃ pre, Jx pre W')) := by
  refine callsIn_of_wp Tryz.func150 rfl trivial ?_
  simp only [Tryz.ntmps150, List.size_toArray, List.length_cons, List.length_nil, Nat.reduceAdd, Nat.reduceSub, Array.replicate_succ, Array.replicate_zero, List.push_toArray, List.append_toArray, List.nil_append, List.cons_append]
  gi_wp2
  gi_loopw [4, 5, 6] (fun pl _ _ wr => ∃ (ys : List Wy) (Z : Nat), Pl L n (ys.map Wy.q) Z ∧ Z ≤ n ∧ pl = .int .i64 Z ∧ Kr Bk q W wr ∧ J ys wr) (fun pl _ _ _ => n - (intOf pl).toNat)
  case atStart => exact ⟨[], 0, Pl.nil, by omega, rfl, Kr.refl _ _ _, h0⟩
  case round =>
    obtain ⟨ys, Z, hrun, hZ, rfl, hK, hJy⟩ := hrel
    have hcw := hK.heap hcb hcq
    have c0 := cell_of (i := 0) (v := .slice ao n cap) hcw rfl
    have hfa := find_told wr ao n cap Z L (hB _ hK) hZ
    gi_wp2_with fail
    refine ⟨trivial, callsIn_wide.2 (hfa.mono ?_)⟩
    clear hfa c0 hcw
    rintro e w1 ⟨hg1, ⟨C, hC0, hNo, rfl⟩ | ⟨S, BA, CA, ro, rc, rs, hs32, hS, hCA, hRK, hRs, hkn, rfl⟩⟩
    · have hC : (C != 0) = true := by simpa using hC0
      have ga := alloc_grown w1 (.cells #[.int .i64 0, .slice none 0 0, .int .i64 0] 226)
      have hJe := hJ _ _ _ (hJ _ _ _ hJy hg1) ga
      gi_wp2
      refine ⟨(fun f hf => nomatch hf), ?_⟩
      gi_wp2
      refine bodyPost_ret (results_none rfl _ _ _) rfl ?_
      exact ⟨⟨_, rfl⟩, .inl ⟨ys, ⟨Z, C, hrun, hNo, hC0⟩, hJe⟩⟩
    · have hrunx : Pl L n ((ys ++ [(⟨Z, BA, ro, CA, rc, S, rs⟩ : Wy)]).map Wy.q) (Z + S) := by
        rw [List.map_append]
        exact Pl.snoc hrun hRK
      have ga := alloc_grown w1 (.cells #[.int .i64 BA, .slice ro CA rc, .int .i64 (S : Int)] 226)
      have k3 := heap_alloc_new w1 (.cells #[.int .i64 BA, .slice ro CA rc, .int .i64 (S : Int)] 226)
      have hJe := hJ _ _ _ (hJ _ _ _ hJy hg1) ga
      have hK2 := (hK.trans (Kr.of hg1)).trans (Kr.of ga)
      have hzq : w1.heap.size ≠ q := by have h1 := hK.size; have h2 := hg1.size; omega
      obtain ⟨fn, tmps, assign, body, hy, hR⟩ := hY ys ⟨Z, BA, ro, CA, rc, S, rs⟩ _ hJe ⟨hrun, hRK, hRs.grown ga, hkn, hCA⟩
      simp only [yenc] at hy
      gi_wp2_with fail
      refine hR.mono ?_
      clear hR hy
      generalize w1.alloc (.cells #[.int .i64 BA, .slice ro CA rc, .int .i64 (S : Int)] 226) = w2 at *
      generalize w1.heap.size = z5 at *
      rintro e W3 (⟨rfl, hJ3, hk3⟩ | ⟨rfl, hJx3⟩)
      · have k5 := hk3.heap k3 hzq
        have c2 := cell_of (i := 2) (v := .int .i64 (S : Int)) k5 rfl
        obtain ⟨T2, hT2⟩ : ∃ T2 : Nat, Z + S = T2 := ⟨_, rfl⟩
        have hTs : ((Z : Int) + (S : Int)) = (T2 : Int) := by omega
        have hK3 := hK2.trans hk3
        rw [hT2] at hrunx hS
        have HT : Hid (Z + S = T2) := hT2
        clear hT2
        gi_wp2
        go_roundw
        case rel => exact ⟨ys ++ [⟨Z, BA, ro, CA, rc, S, rs⟩], T2, hrunx, hS, rfl, hK3, hJ3⟩
        case measure => have := HT.out; simp [intOf]; omega
      · gi_wp2
        refine bodyPost_ret (results_none rfl _ _ _) rfl ?_
        exact ⟨⟨_, rfl⟩, .inr ⟨_, hJx3⟩⟩
theorem wholes_rows (Bk m : Nat) (hm : 1 ≤ m) (ca cb q : Nat) (ao : Option Addr) (n cap : Nat) (L : List UInt8) (w : World) (hB : Bp w ao n cap L) (hca : w.cell? ⟨ca, 0, none⟩ = some (.int .i64 (0 : Nat))) (hcb : w.heap[cb]? = some (.cells #[.slice ao n cap] 48)) (hcq : cb ≠ q) (hql : q < w.heap.size) (hne : ∀ a, ao = some a → a.block ≠ q) (hlt : ∀ a, ao = some a → a.block < w.heap.size) (hnr : ∀ a, ao = some a → NoRow w a.block) :
    SeqTold Fence.wide m Tryz.prog 150 #[.pointer (some ⟨ca, 0, none⟩), .pointer (some ⟨cb, 0, none⟩)] yenc (fun _ => Ytold L n) (Kr Bk q) (fun ys => Yend L n (ys.map Wy.q)) (fun _ => True) w := by
  intro l J Jx W hW hJ hJx hY h0
  have hcl : ca < w.heap.size := World.block_lt_of_cell? w _ hca
  refine (wholes1_rows Bk l ca cb q ao n cap L hB.top J Jx m hm (fun s A B hs hg => hJ s A B none hs hg (fun r e => by cases e)) (fun s A B hs hg => hJx s A B none hs hg (fun r e => by cases e)) hY W ((hW.cell (p := ⟨ca, 0, none⟩) hcl).trans hca) ((hW.block cb (lt_of_heap hcb)).trans hcb) hcq (Nat.lt_of_lt_of_le hql hW.size) (fun W' hk => ⟨Bs.kr (Bs.below hB.bs hW hlt) hk hne (fun a ha o ho => hnr a ha o ((hW.block _ (hlt a ha)).symm.trans ho)), hB.at_, hB.top, hB.cap⟩) h0).mono ?_
  rintro e W' ⟨h1, h2 | ⟨pre, h2⟩⟩
  · exact ⟨h1, .inl h2⟩
  · exact ⟨h1, .inr ⟨pre, trivial, h2⟩⟩
set_option maxRecDepth 100000 in
set_option maxHeartbeats 4000000 in
theorem all_rows (Bk m : Nat) (hm : 3 ≤ m) (z g q n : Nat) (L : List UInt8) (w : World) (hz : w.heap[z]? = some (.cells #[.slice (some ⟨g, 0, none⟩) n n] 48)) (hB : Bp w (some ⟨g, 0, none⟩) n n L) (hzq : z ≠ q) (hgq : g ≠ q) (hgl : g < w.heap.size) (hql : q < w.heap.size) (hnr : NoRow w g) (hBk : Bk ≤ w.heap.size) :
    SeqOwn Fence.wide m Tryz.prog 122 #[.pointer (some ⟨z, 0, none⟩)] penc (fun _ => Rtold L n) (Kr Bk q) (fun ys => Yend L n (ys.map Px.q)) (fun _ => True) w := by
  intro l J Jx W hW hJ hJx hY h0
  have hzl := lt_of_heap hz
  have hzW := (hW.block z hzl).trans hz
  have hsW := hW.size
  have hBW : Bp W (some ⟨g, 0, none⟩) n n L := ⟨Bs.below hB.bs hW (fun a ha => by cases ha; exact hgl), hB.at_, hB.top, hB.cap⟩
  have g1 := alloc_grown W (.cells #[.func (.yield l) #[] #[]] 221)
  have k1 := heap_alloc_new W (.cells #[.func (.yield l) #[] #[]] 221)
  have hs1 : (W.alloc (.cells #[.func (.yield l) #[] #[]] 221)).heap.size = W.heap.size + 1 := by simp
  have cz := cell_of (i := 0) (v := .slice (some ⟨g, 0, none⟩) n n) (heap_kept g1 hzW (by simp)) rfl
  have hwh := wholes_any (W.alloc (.cells #[.func (.yield l) #[] #[]] 221)) (some ⟨g, 0, none⟩) n n 0
  rw [hs1] at hwh
  refine callsIn_of_wp_marks Tryz.func122 rfl trivial ?_
  simp only [Tryz.ntmps122, List.size_toArray, List.length_cons, List.length_nil, Nat.reduceAdd, Nat.reduceSub, Array.replicate_succ, Array.replicate_zero, List.push_toArray, List.append_toArray, List.nil_append, List.cons_append]
  gi_wp2_with fail
  refine ⟨trivial, fun e => (Bool.false_ne_true e).elim, callsIn_wide.2 (hwh.mono ?_)⟩
  clear hwh
  rintro e w3 ⟨rfl, kb, ka, hg3⟩
  have ky := heap_kept hg3 k1 (by simp)
  have hG3 := grown_trans g1 hg3 (by simp)
  have hsz3 : W.heap.size + 3 ≤ w3.heap.size := lt_of_heap ka
  have hca := cell_of (i := 0) (v := .int .i64 ((0 : Nat) : Int)) ka rfl
  have hB3 := hBW.grown hG3
  have hnr3 : NoRow w3 g := fun o ho => hnr o (((hG3.block g (by omega) (by simp)).trans (hW.block g hgl)).symm.trans ho)
  clear cz k1
  gi_wp2_with fail
  apply wpIn_rangeFunc_told (encs := yenc) (Tx := fun _ => Ytold L n) (Kp := Kr Bk q) (S := fun ys => Yend L n (ys.map Wy.q)) (Sp := fun _ => True) (w0 := w3) rfl (by omega) (gf := 150) (lb := #[.pointer (some ⟨W.heap.size + 1 + 1, 0, none⟩), .pointer (some ⟨W.heap.size + 1, 0, none⟩)]) rfl trivial (enters_of Tryz.func150 (by kernel_rfl) rfl)
    (wholes_rows Bk (m - 1) (by omega) (W.heap.size + 1 + 1) (W.heap.size + 1) q (some ⟨g, 0, none⟩) n n L w3 hB3 hca kb (by omega) (by omega) (fun a ha => by cases ha; exact hgq) (fun a ha => by cases ha; show g < _; omega) (fun a ha => by cases ha; exact hnr3)) (fun h h' => h.trans h')
    (fun W l o o' hl ho hc _ => ⟨rfl, rfl, rfl, by simp, fun k x hk hx hq _ => heap_kept (grownBy_putObj' W l o') hk (fun e => by
      obtain rfl : k = l := by simpa using e
      rw [ho] at hk
      cases hk
      rcases hx with hx | hx
      · rw [hc] at hx
        cases hx
      · omega)⟩) (Below.refl _ _) (fun _ => rfl)
    (fun pre W' => (∃ pxs : List Px, pxs.map Px.q = pre.map Wy.q ∧ J pxs W') ∧ W'.heap[W.heap.size]? = some (.cells #[.func (.yield l) #[] #[]] 221) ∧ w3.heap.size ≤ W'.heap.size)
    (fun cd pre W' => cd = .ret ∧ ∃ pxs : List Px, Jx pxs W')
    (fun s A B row hs hg hr => ⟨by
        obtain ⟨pxs, e, h⟩ := hs.1
        exact ⟨pxs, e, hJ pxs A B row h hg (fun r e => ⟨by have := (hr r e).1; omega, (hr r e).2⟩)⟩, heap_kept hg hs.2.1 (fun e => by have := (hr _ e.symm).1; omega), Nat.le_trans hs.2.2 hg.size⟩)
    (fun cd s A B row hs hg hr => ⟨hs.1, by
        obtain ⟨pxs, h⟩ := hs.2
        exact ⟨pxs, hJx pxs A B row h hg (fun r e => ⟨by have := (hr r e).1; omega, (hr r e).2⟩)⟩⟩)
    ⟨⟨[], rfl, hJ [] W w3 none h0 hG3 (fun r e => by cases e)⟩, ky, Nat.le_refl _⟩
    (fun pre x a' W' => ∃ gx, W'.heap[gx]? = some (.cells #[.int .i64 x.b, .slice x.ro x.c x.rc, .int .i64 (x.s : Int)] 226) ∧ Ytold L n pre x W' ∧ a' = { tmps := #[.func (.yield l) #[] #[], .pointer (some ⟨z, 0, none⟩), .pointer (some ⟨W.heap.size, 0, none⟩), .int .i64 x.p, .pointer (some ⟨gx, 0, none⟩), .slice (some ⟨g, 0, none⟩) n n, .func (.func 150) #[] #[.pointer (some ⟨W.heap.size + 1 + 1, 0, none⟩), .pointer (some ⟨W.heap.size + 1, 0, none⟩)], .int .i64 x.p, .agg #[.int .i64 x.b, .slice x.ro x.c x.rc, .int .i64 x.s], undef, undef, undef, undef, undef, undef], defers := [] })
  case hAx =>
    rintro pre x a' ⟨⟩ A B row ⟨gx, h1, h2, h3⟩ hg hr
    exact ⟨gx, heap_kept hg h1 (fun e => by
      obtain ⟨_, o, ho, hoc⟩ := hr _ e.symm
      rw [h1] at ho
      cases ho
      cases hoc), h2.cs (Cs.of_row hg (fun r e => (hr r e).2)), h3⟩
  case hassign =>
    intro pre x W' K hI hT hK
    simp only [yenc]
    have ga := alloc_grown W' (.cells #[.int .i64 x.b, .slice x.ro x.c x.rc, .int .i64 (x.s : Int)] 226)
    have k9 := heap_alloc_new W' (.cells #[.int .i64 x.b, .slice x.ro x.c x.rc, .int .i64 (x.s : Int)] 226)
    obtain ⟨⟨pxs, epx, hJp⟩, hy0, hsz⟩ := hI
    have hJ9 := hJ pxs W' _ none hJp ga (fun r e => by cases e)
    have hT9 := hT.cs (Cs.of ga)
    gi_wp2
    exact hK _ _ ((KeepsOthers.alloc W' _).from _) (Kr.of ga) ⟨⟨pxs, epx, hJ9⟩, heap_kept ga hy0 (by simp), Nat.le_trans hsz ga.size⟩ ⟨W'.heap.size, k9, hT9, rfl⟩
  case hbody =>
    rintro pre x a' W' ⟨qq, hqq⟩ ⟨⟨pxs, epx, hJp⟩, hy0, hsz⟩ ⟨gx, hgx, hT, rfl⟩
    obtain ⟨t1, t2, t3, t4, t5⟩ := hT
    have hgd := grown_drew W' none
    have hkd := heap_kept hgd hgx (by simp)
    have hcp := copied_any W'.drew x.b (x.s : Int) x.ro x.c x.rc x.rs (t3.grown hgd) (by omega) t4
    gi_wp2_with fail
    refine wpIn_region_any (by kernel_rfl) ?_
    refine reg53 (hops := by rfl) (w0 := W'.drew) (ly := l) (y0 := W.heap.size) (gx := gx) (pl := .int .i64 x.p) (b := x.b) (ro := x.ro) (c := x.c) (rc := x.rc) (s := (x.s : Int))
      (Bt := fun v Wb => ∃ (gg : Nat) (rs' : List Rc), v = .agg #[.int .i64 x.b, .slice (some ⟨gg, 0, none⟩) x.c x.c] ∧ W'.drew.grownBy Wb none ∧ Rs Wb (some ⟨gg, 0, none⟩) x.c x.c rs' ∧ ds rs' = ds x.rs ∧ NR Wb rs')
      (Out := fun bb Wo => (bb = true ∧ (∃ pxs' : List Px, pxs'.map Px.q = (pre ++ [x]).map Wy.q ∧ J pxs' Wo) ∧ Kr Bk q W' Wo ∧ KeepsFrom w3.heap.size W' Wo) ∨ (bb = false ∧ (∃ pxs' : List Px, Jx pxs' Wo) ∧ KeepsFrom w3.heap.size W' Wo))
      rfl rfl rfl rfl (cell_of (i := 0) (heap_kept hgd hy0 (by simp)) rfl) (fun v Wb h => by obtain ⟨gg, rs', _, h9, _⟩ := h; exact h9)
      (cell_of (i := 0) hkd rfl) (cell_of (i := 1) hkd rfl) (cell_of (i := 2) hkd rfl) (hcp.mono ?_) ?_ ?_ ?_
    · rintro e Wb ⟨gg, base, rs', rfl, h1, h2, h3, h4, h5, h6, h7⟩
      exact ⟨_, rfl, gg, rs', rfl, h7, h3.shows (fun r hr => (h5 r hr).rk), h4, NR.of h5⟩
    · rintro v Wb ⟨gg, rs', rfl, h7, h3, h4, h6⟩
      have hgb : W'.grownBy Wb none := grown_trans hgd h7 (by simp)
      have hJb := hJ pxs W' Wb none hJp hgb (fun r e => by cases e)
      refine YieldAt.mono (yield_deep rfl _ (hY pxs ⟨x.p, x.b, gg, x.c, rs'⟩ Wb hJb ⟨⟨by rw [epx]; exact t1, ⟨x.s, by rw [h4]; exact t2⟩, h3⟩, h6, by have := h3.len; show rs'.length ≤ _; omega⟩)) ?_
      have kf1 : KeepsFrom w3.heap.size W' Wb := KeepsFrom.of_grownBy hgb (fun j e => by cases e)
      rintro e Wo (⟨rfl, hj, hk, hf⟩ | ⟨rfl, hj, hf⟩)
      · refine ⟨true, rfl, Or.inl ⟨rfl, ⟨_, ?_, hj⟩, (Kr.of hgb).trans hk, kf1.trans (keeps_up hf (by omega))⟩⟩
        rw [List.map_append, List.map_append, epx]
        simp [Px.q, Wy.q, h4]
      · exact ⟨false, rfl, Or.inr ⟨rfl, ⟨_, hj⟩, kf1.trans (keeps_up hf (by omega))⟩⟩
    · rintro ⟨_, _, h⟩
      exact h
    · intro a9 W9 bb r1 r2 r3 r4 hout
      obtain ⟨T, Dd⟩ := a9
      obtain rfl : Dd = [] := r2
      have e14 : T.getD 14 undef = .bool (!bb) := by
        have h9 : T[14]? = some (.bool (!bb)) := r4
        simp only [Array.getD_eq_getD_getElem?, h9, Option.getD_some]
      have hfb := frame_but [9, 10, 11, 12, 13, 14] (B := T) r1 r3
      simp only [List.foldl_cons, List.foldl_nil, e14] at hfb
      generalize T.getD 9 undef = v9 at hfb
      generalize T.getD 10 undef = v10 at hfb
      generalize T.getD 11 undef = v11 at hfb
      generalize T.getD 12 undef = v12 at hfb
      generalize T.getD 13 undef = v13 at hfb
      clear r1 r3 r4 e14 hcp
      subst hfb
      simp only [List.setIfInBounds_toArray, List.set_cons_zero, List.set_cons_succ]
      rcases hout with ⟨rfl, ⟨pxs', e1, hj⟩, hk, hf⟩ | ⟨rfl, ⟨pxs', hj⟩, hf⟩
      · have hy9 := hk.heap hy0 (by omega)
        have hs9 := Nat.le_trans hsz hk.size
        gi_wp2
        exact ⟨hf, hk, ⟨pxs', e1, hj⟩, hy9, hs9⟩
      · gi_wp2
        exact ⟨hf, rfl, pxs', hj⟩
  case hdone =>
    rintro D ys W' hD hS ⟨⟨pxs, epx, hJp⟩, hy0, hsz⟩ hK
    gi_wp2_with fail
    refine ⟨by simp, .inl ⟨_, _, rfl, run_takeDeferred hK, ?_⟩⟩
    exact ⟨_, results_none rfl _ _ _, ⟨_, rfl⟩, .inl ⟨pxs, by rw [epx]; exact hS, hJ pxs W' _ (some D) hJp (grownBy_putObj' W' D (.deferred none)) (fun r e => by cases e; exact ⟨by omega, _, hK, rfl⟩)⟩⟩
  case hstop =>
    rintro D cd pre W' hD _ ⟨rfl, pxs, hJp⟩ hK
    gi_wp2_with fail
    refine ⟨by simp, .inl ⟨_, _, rfl, run_takeDeferred hK, ?_⟩⟩
    exact ⟨_, results_none rfl _ _ _, ⟨_, rfl⟩, .inr ⟨pxs, trivial, hJx pxs W' _ (some D) hJp (grownBy_putObj' W' D (.deferred none)) (fun r e => by cases e; exact ⟨by omega, _, hK, rfl⟩)⟩⟩
end Go.Proofs.YtlghcboenkglnaaGreatDoor.Rec
