/-
  lent: lists in memory of their own, each with a mark behind it.
-/
import Derived.Test.YtkcgpjmjaedlbaaM2
namespace Go.Proofs.Ytkcgpjmjaedlbaa
open Go.RowKit
set_option linter.unusedVariables false

section
variable {P : Program} (w : World)

theorem run_append_blk (base : Nat) (t ty e : TypeId) (i : TypeInfo) (z : Value) (bytes : Nat) (ht : P.underlying t = some (.slice e)) (hi : P.info? e = some i) (hz : i.zero = some z)
    (hsize : i.size = 1) (hby : i.bytes = bytes) (hzs : z.cells.size = 1)
    (v : Value) (n : Nat) (xs : List Value) (hown : w.ownsRow base e 1 v n xs)
    (a : Addr) (m c : Nat) (news : List Value) (hl : news.length = m * 1) (hnews : ∀ j u, news[j]? = some u → w.cell? (a.add j) = some u) (h1 : ∀ u ∈ news, u.oneCell' = true)
    (h63 : n + m ≤ maxLen) (hbytes : (n + m) * bytes ≤ 140737488355328) (hm : 0 < m)
    (v' : Value) (w' : World) (hrun : (Builtin.append_ #[t, t] ty #[v, .slice (some a) m c]).run P w = .ok v' w') :
    v'.ownBlock = v.ownBlock ∨ v'.ownBlock = some w.heap.size := by
  subst hby
  have hsmall : n + m ≤ 9223372036854775807 := by simp only [maxLen] at h63; omega
  rcases hown.2 with ⟨rfl, rfl⟩ | ⟨g, cap, cur, rfl, hbg, hg, hnc, hcm, hcs, htake⟩
  · have hr := run_append_nil (P := P) w t ty e i z ht hi hz a m c news (by rw [hsize]; exact hl) hnews (by omega) (by omega) (by have hb := hbytes; simp only [Nat.zero_add] at hb; omega)
    rw [hr] at hrun
    simp only [Result.ok.injEq] at hrun
    obtain ⟨rfl, _⟩ := hrun
    exact Or.inr rfl
  · by_cases hroom : n + m ≤ cap
    · have hfit : n * i.size + news.length ≤ cur.size := by rw [hl, hcs, hsize, ← Nat.add_mul]; exact Nat.mul_le_mul_right _ hroom
      have hr := run_append_room (P := P) w t ty e i ht hi g n cap cur hg a m c news (by rw [hsize]; exact hl) hnews h1 hroom hfit
      rw [hr] at hrun
      simp only [Result.ok.injEq] at hrun
      obtain ⟨rfl, _⟩ := hrun
      exact Or.inl rfl
    · have holds : ∀ j u, xs[j]? = some u → w.cell? ((⟨g, 0, none⟩ : Addr).add j) = some u := hown.cells (g := g) rfl
      have hr := run_append_grow (P := P) w t ty e i z ht hi hz ⟨g, 0, none⟩ n cap xs (by rw [hsize]; exact hown.1) holds a m c news (by rw [hsize]; exact hl) hnews (by omega) (by omega) (growslice_fits (by omega) hbytes)
      rw [hr] at hrun
      simp only [Result.ok.injEq] at hrun
      obtain ⟨rfl, _⟩ := hrun
      exact Or.inr rfl

/-- 'append(s, x...)', s the call's own, x one value or more. -/
theorem wpList_append_blk {ops : Array Oper} {rest : List Oper} {o : Oper} {a : Act} {Q : Exit → Act → World → Prop} (hgd : o.guard = none) (s x : Operand) (t : TypeId)
    (ho : o.op = .call { callee := .builtin .append, args := #[s, x], argTypes := #[t, t] })
    (base : Nat) (e : TypeId) (z : Value) (bs : Nat) (ht : P.underlying t = some (.slice e)) (hinfo : (P.info? e).map (fun i => (i.zero, i.size, i.bytes)) = some (some z, 1, bs)) (hz1 : z.cells.size = 1) (hzm : bs ≤ 32)
    {ao : Option Addr} {n cap : Nat} {l : List Value} (hs : a.eval s = .slice ao n cap) (hown : Vo w base e ao n cap l)
    {ad : Addr} {m c : Nat} {k : List Value} (hx : a.eval x = .slice (some ad) m c) (hb : Vs w (some ad) m c k) (hm : 0 < m)
    (hsum : n + m ≤ 100000) (hbase : base ≤ w.heap.size)
    (h : ∀ ao' cap' w', Vo w' base e ao' (n + m) cap' (l ++ k) → w.grownBy w' (blk ao) → (blk ao' = blk ao ∨ blk ao' = some w.heap.size) → wpList P ops Q rest (a.put o.dst (.slice ao' (n + m) cap')) w') : wpList P ops Q (o :: rest) a w := by
  obtain ⟨i, hi, hz, hzs, hz2⟩ := info_parts hinfo
  have hone : ∀ u ∈ l ++ k, u.oneCell' = true := fun u hu => by
    rcases List.mem_append.1 hu with h9 | h9
    · exact hown.one u h9
    · exact hb.one u h9
  have h63 : n + m ≤ maxLen := by unfold maxLen; omega
  have hby : (n + m) * bs ≤ 140737488355328 := by have := Nat.mul_le_mul hsum hzm; omega
  refine wpList_plain hgd fun _ hK => ?_
  obtain ⟨v', w', hr, h2, h3, h4⟩ := run_append_own (P := P) w base t o.type e i z 1 bs ht hi hz hzs hz2 hz1 (by decide) _ n _ hown.row ad m c k (by simp [hb.len]) (hb.cells ad rfl) hb.one h63 hby hbase
  have h5 := run_append_blk (P := P) w base t o.type e i z bs ht hi hz hzs hz2 hz1 _ n _ hown.row ad m c k (by simp [hb.len]) (hb.cells ad rfl) hb.one h63 hby hm v' w' hr
  obtain ⟨ao', cap', rfl, h6⟩ := Vo.of (l := l ++ k) (by simp [hown.len, hb.len]) hone h2
  unfold Oper.wp execOp
  simp only [ho, resolve, invoke, builtin, Sem.run_bind, Sem.run_pure, Result.andThen_ok, List.map_toArray, List.map_cons, List.map_nil, hs, hx, hr]
  rw [blk_own] at h3
  rw [blk_own, blk_own] at h5
  exact hK _ _ (h ao' cap' w' h6 h3 h5)
end

/-- The same in a list of operations. -/
theorem wpList_append_lying {ops : Array Oper} {rest : List Oper} {o : Oper} {a : Act} {w : World} {Q : Exit → Act → World → Prop}
    (hg : o.guard = none) (ht : o.type = 32) (s x : Operand) (hop : o.op = Op.call { callee := Callee.builtin Builtin.append, args := #[s, x], argTypes := #[32, 32] })
    (base : Nat) (ro : Option Addr) (n rc : Nat) (rs : List Rc) (hs : a.eval s = .slice ro n rc) (h : Rw w base ro n rc rs) (r : Rc) (sb : Nat) (hx : a.eval x = .slice (some ⟨sb, 0, none⟩) 1 1)
    (c0 : w.cell? ⟨sb, 0, none⟩ = some (.int .i64 r.t)) (c1 : w.cell? ⟨sb, 1, none⟩ = some (.slice r.ko r.kn r.kc)) (c2 : w.cell? ⟨sb, 2, none⟩ = some (.slice r.vo r.vn r.vc)) (hn : n ≤ 100000) (hbase : base ≤ w.heap.size)
    (hK : ∀ g rc' w', Rw w' base (some ⟨g, 0, none⟩) (n + 1) rc' (rs ++ [r]) → w.grownBy w' (blk ro) → (some g = blk ro ∨ some g = some w.heap.size) → wpList Try.prog ops Q rest (a.put o.dst (.slice (some ⟨g, 0, none⟩) (n + 1) rc')) w') :
    wpList Try.prog ops Q (o :: rest) a w := by
  refine wpList_plain hg fun _ hK2 => ?_
  obtain ⟨g, rc', w', hr, h2, h3, h4⟩ := append_rec_lies w base ro n rc rs h r sb c0 c1 c2 hn hbase
  unfold Oper.wp execOp
  simp only [hop, ht, resolve, invoke, builtin, Sem.run_bind, Sem.run_pure, Result.andThen_ok, List.map_toArray, List.map_cons, List.map_nil, hs, hx, hr]
  exact hK2 _ _ (hK g rc' w' h2 h3 h4)

theorem Try.info32 : (Try.prog.info? 32).map (fun i => (i.zero, i.size, i.bytes)) = some (some (.slice none 0 0), 1, 24) := by kernel_rfl
/-- The mark. -/
def mark : Rc := ⟨77, none, 0, 0, [], none, 0, 0, []⟩

theorem Rw.rebase {w : World} {base base' : Nat} {ao : Option Addr} {n cap : Nat} {rs : List Rc} (h : Rw w base ao n cap rs) (hb : base' ≤ base) : Rw w base' ao n cap rs := by
  refine ⟨h.len, h.row.1, ?_⟩
  rcases h.row.2 with h2 | ⟨g, c, cur, hv, hg, r⟩
  · exact Or.inl h2
  · exact Or.inr ⟨g, c, cur, hv, Nat.le_trans hb hg, r⟩

/-- A list that was lent: within the blocks from lo on, below hi, the mark behind it. -/
structure Lt (w : World) (lo hi g n c : Nat) (rs : List Rc) : Prop where
  gin : lo ≤ g ∧ g < hi
  top : hi ≤ w.heap.size
  row : Rw w lo (some ⟨g, 0, none⟩) (n + 1) c (rs ++ [mark])
  rk : ∀ r ∈ rs, Rk w r
  kin : ∀ r ∈ rs, ∀ a, r.ko = some a → lo ≤ a.block ∧ a.block < hi
  vin : ∀ r ∈ rs, ∀ a, r.vo = some a → lo ≤ a.block ∧ a.block < hi
  kfz : ∀ r ∈ rs, ∀ a, r.ko = some a → a.block ≠ g ∧ ∀ i, w.frozen? ⟨a.block, i, none⟩ = false
  vfz : ∀ r ∈ rs, ∀ a, r.vo = some a → a.block ≠ g ∧ ∀ i, w.frozen? ⟨a.block, i, none⟩ = false

theorem Lt.kept {w w' : World} {lo hi g n c : Nat} {rs : List Rc} {row : Option Nat} (h : Lt w lo hi g n c rs) (hg : w.grownBy w' row) (hr : ∀ k, row = some k → k < lo ∨ hi ≤ k) : Lt w' lo hi g n c rs := by
  have hne : ∀ b, lo ≤ b → b < hi → some b ≠ row := fun b h1 h2 e => by have := hr b e.symm; omega
  refine ⟨h.gin, Nat.le_trans h.top hg.size, h.row.kept hg (Or.inr (hne g h.gin.1 h.gin.2)), fun r hr => ?_, h.kin, h.vin, fun r hr a ha => ⟨(h.kfz r hr a ha).1, fun i => ?_⟩, fun r hr a ha => ⟨(h.vfz r hr a ha).1, fun i => ?_⟩⟩
  rotate_left
  · obtain ⟨q1, q2⟩ := h.kin r hr a ha
    rw [World.frozen?_of_block (a := ⟨a.block, i, none⟩) (hg.block a.block (Nat.lt_of_lt_of_le q2 h.top) (hne _ q1 q2))]
    exact (h.kfz r hr a ha).2 i
  · obtain ⟨q1, q2⟩ := h.vin r hr a ha
    rw [World.frozen?_of_block (a := ⟨a.block, i, none⟩) (hg.block a.block (Nat.lt_of_lt_of_le q2 h.top) (hne _ q1 q2))]
    exact (h.vfz r hr a ha).2 i
  have hk := h.rk r hr
  exact ⟨hk.low, hk.high, hk.key.kept hg (fun a ha => hne _ (h.kin r hr a ha).1 (h.kin r hr a ha).2), hk.value.kept hg (fun a ha => hne _ (h.vin r hr a ha).1 (h.vin r hr a ha).2), hk.kb, hk.vb⟩
theorem Lt.grown {w w' : World} {lo hi g n c : Nat} {rs : List Rc} (h : Lt w lo hi g n c rs) (hg : w.grownBy w' none) : Lt w' lo hi g n c rs := h.kept hg (by simp)
theorem Lt.len {w : World} {lo hi g n c : Nat} {rs : List Rc} (h : Lt w lo hi g n c rs) : rs.length = n := by have := h.row.len; simp at this; exact this
theorem Lt.shows {w : World} {lo hi g n c : Nat} {rs : List Rc} (h : Lt w lo hi g n c rs) : Rs w (some ⟨g, 0, none⟩) n c rs := by
  have hl := h.len
  obtain ⟨h1, h2⟩ := h.row.room
  refine ⟨hl, by omega, h2, by simp, fun a ha hn => ?_, fun b o hb j r hr => ?_, h.rk⟩
  · obtain rfl := Option.some.inj ha
    exact ⟨g, 0, rfl, (h.row.from_base g rfl).2⟩
  · simp only [Option.some.injEq, Addr.mk.injEq] at hb
    obtain ⟨rfl, rfl, _⟩ := hb
    have hj : j < rs.length := (List.getElem?_eq_some_iff.1 hr).1
    have hj2 : j < (rs ++ [mark]).length := by simp; omega
    obtain ⟨c0, c1, c2⟩ := h.row.cells hj2
    have e : (rs ++ [mark])[j] = r := by
      rw [List.getElem_append_left hj]
      exact (List.getElem?_eq_some_iff.1 hr).2
    rw [e] at c0 c1 c2
    simp only [Nat.zero_add]
    exact ⟨c0, c1, c2⟩
theorem Lt.mark {w : World} {lo hi g n c : Nat} {rs : List Rc} (h : Lt w lo hi g n c rs) : w.cell? ⟨g, n * 3, none⟩ = some (.int .i64 77) ∧ n + 1 ≤ c ∧ c ≤ 9223372036854775807 := by
  have hl := h.len
  obtain ⟨c0, _, _⟩ := h.row.cells (j := n) (by simp; omega)
  refine ⟨?_, h.row.room⟩
  rw [c0]
  have e : (rs ++ [Go.Proofs.Ytkcgpjmjaedlbaa.mark])[n]'(by simp; omega) = Go.Proofs.Ytkcgpjmjaedlbaa.mark := by
    rw [List.getElem_append_right (by omega)]
    simp [hl]
  rw [e]
  rfl

/-- What a list is. -/
def Rl.d (x : Rl) : Nat × List Dr := (x.n, ds x.l)
/-- Lists that were lent. -/
structure Lend (w : World) (base : Nat) (mo : Option Addr) (n mc : Nat) (M : List Rl) : Prop where
  row : Vo w base 32 mo n mc (M.map Rl.head)
  each : ∀ m ∈ M, ∃ lo hi g, m.o = some ⟨g, 0, none⟩ ∧ Lt w lo hi g m.n m.c m.l ∧ base ≤ lo ∧ ∀ k, blk mo = some k → k < lo ∨ hi ≤ k
theorem Lend.grown {w w' : World} {base : Nat} {mo : Option Addr} {n mc : Nat} {M : List Rl} (h : Lend w base mo n mc M) (hg : w.grownBy w' none) : Lend w' base mo n mc M :=
  ⟨h.row.grown hg, fun m hm => by obtain ⟨lo, hi, g, h1, h2, h3, h4⟩ := h.each m hm; exact ⟨lo, hi, g, h1, h2.grown hg, h3, h4⟩⟩
theorem Lend.shows {w : World} {base : Nat} {mo : Option Addr} {n mc : Nat} {M : List Rl} (h : Lend w base mo n mc M) : Ls w mo n mc M :=
  ⟨h.row.shows, h.row.plain, fun m hm => by obtain ⟨lo, hi, g, h1, h2, _⟩ := h.each m hm; rw [h1]; exact h2.shows⟩

set_option maxRecDepth 100000 in
set_option maxHeartbeats 4000000 in
theorem lent_any (w : World) (ao : Option Addr) (n cap : Nat) (L : List Rl) (ha : Ls w ao n cap L) (hn3 : n ≤ 300) (hs : ∀ x ∈ L, x.n ≤ 4096) :
    Calls Try.prog 10 #[.slice ao n cap] w fun e w' => ∃ mo mc M, e = .returned (.slice mo n mc) ∧ Lend w' w.heap.size mo n mc M ∧ M.map Rl.d = L.map Rl.d ∧ w.grownBy w' none := by
  have hlen := ha.len
  go_enter Try.func10, Try.ntmps10
  go_wp2_with fail
  go_loopw [3, 4, 5] (fun o' i' _ wr => ∃ (i : Nat) (oo : Option Addr) (oc : Nat) (M : List Rl), i ≤ n ∧ i' = .int .i64 i ∧ o' = .slice oo i oc ∧ Lend wr w.heap.size oo i oc M ∧ Hid (M.map Rl.d = (L.take i).map Rl.d) ∧ w.grownBy wr none) (fun _ i' _ _ => n - (intOf i').toNat)
  case atStart => exact ⟨0, none, 0, [], Nat.zero_le _, rfl, rfl, ⟨Vo.nil _ _ _, fun m hm => (by cases hm)⟩, (by simp : _ = _), grown_refl _ _⟩
  case round =>
    obtain ⟨i, oo, oc, M, hi, rfl, rfl, hM, hD, hg⟩ := hrel
    by_cases hlt : i < n
    · have h1 : i < L.length := by omega
      obtain ⟨b, o, rfl, hbl⟩ := ha.vs.addr (by omega)
      have hd : decide ((i : Int) < (n : Int)) = true := by simp; omega
      have hcell : ∀ W, w.grownBy W none → W.cell? ⟨b, o + i, none⟩ = some (.slice (L[i]).o (L[i]).n (L[i]).c) := fun W hW => ((ha.grown hW).at h1).1
      have ak := ((ha.grown hg).at h1).2
      have hx4 := hs _ (List.getElem_mem h1)
      have hDn : Hid ((L.take (i + 1)).map Rl.d = (L.take i).map Rl.d ++ [(L[i]).d]) := by show _ = _; rw [List.take_succ_eq_append_getElem h1, List.map_append]; rfl
      generalize L[i] = x at *
      have a1 := hcell _ hg
      have i1 : (0 : Int) ≤ (i : Int) := by omega
      have i2 : (i : Int) < (n : Int) := by omega
      go_wp2_with fail
      refine (rcopy_any _ x.o x.n x.c x.l ak (by omega) (fun r hr => ⟨(ak.shows r hr).kb, (ak.shows r hr).vb⟩)).mono ?_
      rintro e w1 ⟨ro, rc, rs, rfl, hR, hDs, hA, hg1⟩
      have ga := alloc_grown w1 (.cells #[.int .i64 77, .slice none 0 0, .slice none 0 0] 81)
      have c0 := cell_of (i := 0) (v := .int .i64 77) (heap_alloc_new w1 (.cells #[.int .i64 77, .slice none 0 0, .slice none 0 0] 81)) rfl
      have c1 := cell_of (i := 1) (v := .slice none 0 0) (heap_alloc_new w1 (.cells #[.int .i64 77, .slice none 0 0, .slice none 0 0] 81)) rfl
      have c2 := cell_of (i := 2) (v := .slice none 0 0) (heap_alloc_new w1 (.cells #[.int .i64 77, .slice none 0 0, .slice none 0 0] 81)) rfl
      have hR1 := hR.kept ga (by cases ro <;> simp [blk])
      have hS := Nat.le_trans hg1.size ga.size
      clear a1
      go_wp2_with (at_builtin; refine wpList_append_lying rfl rfl _ _ rfl wr.heap.size ro x.n rc rs rfl hR1 mark w1.heap.size rfl c0 c1 c2 (by omega) hS ?_)
      intro g c w2 hR2 hg2 hlie
      have hrow := hR2.room
      have hgr2 : wr.grownBy w2 none := grown_trans (grown_trans hg1 ga (by simp)) hg2 (fun k hk => Or.inr (hR.from_base k hk).1)
      have hgw2 := grown_trans hg hgr2 (by simp)
      have hLt : Lt w2 wr.heap.size w2.heap.size g x.n c rs := by
        have hA2 : ∀ r ∈ rs, Aw w2 wr.heap.size (some g) r := fun r hr => ((hA r hr).grown ga).append hg2 (by simpa using hlie)
        exact ⟨hR2.from_base g rfl, Nat.le_refl _, hR2, fun r hr => (hA2 r hr).rk, fun r hr a ha => ⟨((hA2 r hr).kin a ha).1, ((hA2 r hr).kin a ha).2.1⟩, fun r hr a ha => ⟨((hA2 r hr).vin a ha).1, ((hA2 r hr).vin a ha).2.1⟩, fun r hr a ha => ⟨fun e => ((hA2 r hr).kin a ha).2.2 (by rw [e]), (hA2 r hr).kfz a ha⟩, fun r hr a ha => ⟨fun e => ((hA2 r hr).vin a ha).2.2 (by rw [e]), (hA2 r hr).vfz a ha⟩⟩
      have hM2 := hM.grown hgr2
      have hbo : ∀ k, blk oo = some k → k < wr.heap.size := fun k hk => (hM.row.from_base k hk).2
      have a2 := hcell _ hgw2
      have r1 : (x.n : Int) ≤ (c : Int) := by omega
      clear hR hR1 hR2 hA c0 c1 c2 ga hg1 hg2 hlie hM hS ak
      have gb := alloc_grown w2 (.cells #[.slice (some ⟨g, 0, none⟩) x.n c] 32)
      have hvx := Vs.one1 w2 (.slice (some ⟨g, 0, none⟩) x.n c) 32 rfl
      go_wp2_with (at_builtin; refine wpList_append_blk _ rfl (.tmp 20) (.tmp 28) 22 rfl w.heap.size 32 (.slice none 0 0) 24 Try.underlying22 Try.info32 rfl (by decide) rfl (hM2.row.grown gb) rfl hvx (by decide) (by omega) (Nat.le_trans hgw2.size gb.size) ?_)
      intro oo3 oc3 w3 hv3 hg3 hb3
      have hG3 : w.grownBy w3 none := grown_trans (grown_trans hgw2 gb (by simp)) hg3 (fun k hk => Or.inr (hM2.row.from_base k hk).1)
      have hM3 : Lend w3 w.heap.size oo3 (i + 1) oc3 (M ++ [⟨some ⟨g, 0, none⟩, x.n, c, rs⟩]) := by
        refine ⟨by rw [List.map_append]; exact hv3, fun m hm => ?_⟩
        rcases List.mem_append.1 hm with hm | hm
        · obtain ⟨lo, hi, g', e1, e2, e3, e4⟩ := hM2.each m hm
          refine ⟨lo, hi, g', e1, (e2.grown gb).kept hg3 e4, e3, fun k hk => ?_⟩
          rcases hb3 with hb3 | hb3
          · exact e4 k (by rw [← hb3]; exact hk)
          · rw [hk] at hb3
            have h9 := e2.top
            have h8 := gb.size
            have h7 := Option.some.inj hb3
            right
            omega
        · obtain rfl : m = _ := by simpa using hm
          refine ⟨wr.heap.size, w2.heap.size, g, rfl, (hLt.grown gb).kept hg3 (fun k hk => Or.inl (hbo k hk)), hg.size, fun k hk => ?_⟩
          rcases hb3 with hb3 | hb3
          · exact Or.inl (hbo k (by rw [← hb3]; exact hk))
          · rw [hk] at hb3
            have h8 := gb.size
            have h7 := Option.some.inj hb3
            right
            omega
      have hD3 : Hid ((M ++ [(⟨some ⟨g, 0, none⟩, x.n, c, rs⟩ : Rl)]).map Rl.d = (L.take (i + 1)).map Rl.d) := by
        show _ = _
        rw [hDn.out, List.map_append, hD.out]
        show _ ++ [(x.n, ds rs)] = _
        rw [hDs]
        rfl
      clear hM2 hLt gb hvx hv3 hg3 hb3 hbo hDs a2
      go_wp2
      go_roundw
      case rel => exact ⟨i + 1, oo3, oc3, _, by omega, by go_num, rfl, hM3, hD3, hG3⟩
      case measure => simp [intOf]; omega
    · obtain rfl : i = n := by omega
      have hd : decide ((i : Int) < (i : Int)) = false := by simp
      go_wp2
      go_ret
      exact ⟨oo, oc, M, rfl, hM, by rw [hD.out, List.take_of_length_le (by omega)], hg⟩
end Go.Proofs.Ytkcgpjmjaedlbaa
