/-
  Rows of rises: a block of which a slice shows the beginning (its room may be less than the block); append.
-/
import Derived.Test.YtmnfdiffneobpaaA1
namespace Go.Proofs.Ytmnfdiffneobpaa
open Go.RowKit
set_option linter.unusedVariables false

/-- A rise. -/
structure Sd where
  o : Int
  p : Int
def Sd.cells (t : Sd) : List Value := [.int .i64 t.o, .int .i64 t.p]
def Sd.val (t : Sd) : Value := .agg #[.int .i64 t.o, .int .i64 t.p]
def tcells (l : List Sd) : List Value := (l.map Sd.cells).flatten
theorem tcells_len (l : List Sd) : (tcells l).length = l.length * 2 := by
  unfold tcells
  induction l with
  | nil => rfl
  | cons q t ih =>
    simp only [List.map_cons, List.flatten_cons, List.length_append, List.length_cons]
    rw [ih]
    simp [Sd.cells]
    omega
theorem tcells_get {l : List Sd} {j : Nat} {r : Sd} (h : l[j]? = some r) (i : Nat) (hi : i < 2) : (tcells l)[j * 2 + i]? = r.cells[i]? := by
  induction l generalizing j with
  | nil => simp at h
  | cons q t ih =>
    have hc : tcells (q :: t) = q.cells ++ tcells t := by simp [tcells]
    have hq : q.cells.length = 2 := rfl
    rw [hc]
    cases j with
    | zero =>
      simp at h
      subst h
      rw [List.getElem?_append_left (by omega)]
      simp
    | succ j =>
      have h2 := ih (j := j) (by simpa using h)
      rw [List.getElem?_append_right (by omega), hq, show (j + 1) * 2 + i - 2 = j * 2 + i by omega]
      exact h2
theorem tcells_one (l : List Sd) : ∀ u ∈ tcells l, u.oneCell' = true := by
  intro u hu
  unfold tcells at hu
  obtain ⟨l, hl, hm⟩ := List.mem_flatten.1 hu
  obtain ⟨r, _, rfl⟩ := List.mem_map.1 hl
  simp [Sd.cells] at hm
  rcases hm with rfl | rfl <;> rfl
theorem tcells_snoc (l : List Sd) (r : Sd) : tcells (l ++ [r]) = tcells l ++ r.cells := by simp [tcells]

/-- What lies at the beginning of a block from base on: as the kit's 'ownsRow', but that the room may be less than the block. -/
def rowR (w : World) (base : Nat) (e : TypeId) (size : Nat) (v : Value) (n : Nat) (xs : List Value) : Prop :=
  xs.length = n * size ∧
  ((v = .slice none 0 0 ∧ n = 0) ∨
   ∃ g cap cur, v = .slice (some ⟨g, 0, none⟩) n cap ∧ base ≤ g ∧ w.heap[g]? = some (.cells cur e (0, 0)) ∧ n ≤ cap ∧ cap ≤ maxLen ∧ cap * size ≤ cur.size ∧ cur.toList.take (n * size) = xs)
section
variable {w : World} {base : Nat} {e : TypeId} {size : Nat} {v : Value} {n : Nat} {xs : List Value}
theorem rowR_nil (w : World) (base : Nat) (e : TypeId) (size : Nat) : rowR w base e size (.slice none 0 0) 0 [] := ⟨by simp, .inl ⟨rfl, rfl⟩⟩
theorem rowR.of (h : w.ownsRow base e size v n xs) : rowR w base e size v n xs := by
  refine ⟨h.1, ?_⟩
  rcases h.2 with h2 | ⟨g, cap, cur, h3, h4, h5, h6, h7, h8, h9⟩
  · exact .inl h2
  · exact .inr ⟨g, cap, cur, h3, h4, h5, h6, h7, Nat.le_of_eq h8.symm, h9⟩
theorem rowR.lt (h : rowR w base e size v n xs) : ∀ k, v.ownBlock = some k → base ≤ k ∧ k < w.heap.size := by
  intro k hk
  rcases h.2 with ⟨rfl, _⟩ | ⟨g, cap, cur, rfl, hb, hg, _⟩
  · simp [Value.ownBlock] at hk
  · simp [Value.ownBlock] at hk
    subst hk
    exact ⟨hb, (Array.getElem?_eq_some_iff.1 hg).1⟩
theorem rowR.kept {w' : World} {row : Option Nat} (h : rowR w base e size v n xs) (hg : w.grownBy w' row) (hne : v.ownBlock = none ∨ v.ownBlock ≠ row) : rowR w' base e size v n xs := by
  refine ⟨h.1, ?_⟩
  rcases h.2 with hn | ⟨g, cap, cur, rfl, hb, hgg, rest⟩
  · exact .inl hn
  · refine .inr ⟨g, cap, cur, rfl, hb, ?_, rest⟩
    rw [hg.block g (Array.getElem?_eq_some_iff.1 hgg).1 (by simpa [Value.ownBlock] using hne)]
    exact hgg
theorem rowR.cells (h : rowR w base e size v n xs) {g : Nat} (hg : v.ownBlock = some g) : ∀ j u, xs[j]? = some u → w.cell? ((⟨g, 0, none⟩ : Addr).add j) = some u := by
  intro j u hu
  rcases h.2 with ⟨rfl, _⟩ | ⟨g', cap, cur, rfl, _, hgg, _, _, _, htake⟩
  · simp [Value.ownBlock] at hg
  · simp [Value.ownBlock] at hg
    subst hg
    rw [Addr.add_lit, Nat.zero_add, cell_of_row w g' j cur e (0, 0) hgg]
    rw [← htake, List.getElem?_take] at hu
    split at hu
    · simpa using hu
    · cases hu
/-- The beginning of a row, with no room behind it: 'x[:k:k]'. -/
theorem rowR.cut {g cap : Nat} (h : rowR w base e size (.slice (some ⟨g, 0, none⟩) n cap) n xs) (k : Nat) (hk : k ≤ n) : rowR w base e size (.slice (some ⟨g, 0, none⟩) k k) k (xs.take (k * size)) := by
  have hl := h.1
  have hks : k * size ≤ n * size := Nat.mul_le_mul_right _ hk
  refine ⟨by rw [List.length_take, hl]; omega, ?_⟩
  rcases h.2 with ⟨hv, _⟩ | ⟨g', c, cur, hv, hb, hgg, h3, h4, h5, h6⟩
  · cases hv
  · cases hv
    refine .inr ⟨g, k, cur, rfl, hb, hgg, Nat.le_refl _, by omega, Nat.le_trans (Nat.mul_le_mul_right _ (by omega)) h5, ?_⟩
    rw [← h6, List.take_take, Nat.min_eq_left hks]
end
section
variable {P : Program} (w : World)
theorem run_append_row (base : Nat) (t ty e : TypeId) (i : TypeInfo) (z : Value) (size bytes : Nat) (ht : P.underlying t = some (.slice e)) (hi : P.info? e = some i) (hz : i.zero = some z)
    (hsize : i.size = size) (hby : i.bytes = bytes) (hzs : z.cells.size = size) (hsz : 0 < size)
    (v : Value) (n : Nat) (xs : List Value) (hown : rowR w base e size v n xs)
    (a : Addr) (m c : Nat) (news : List Value) (hl : news.length = m * size) (hnews : ∀ j u, news[j]? = some u → w.cell? (a.add j) = some u) (h1 : ∀ u ∈ news, u.oneCell' = true)
    (h63 : n + m ≤ maxLen) (hbytes : (n + m) * bytes ≤ 140737488355328) (hbase : base ≤ w.heap.size) :
    ∃ v' w', (Builtin.append_ #[t, t] ty #[v, .slice (some a) m c]).run P w = .ok v' w' ∧ rowR w' base e size v' (n + m) (xs ++ news) ∧ w.grownBy w' v.ownBlock ∧
      ((∀ x k c', v = .slice x k c' → v' = .slice x (n + m) c') ∨ v'.ownBlock = some w.heap.size) ∧ rowR w' base e size v n xs := by
  subst hsize
  subst hby
  have hsmall : n + m ≤ 9223372036854775807 := by simp only [maxLen] at h63; omega
  have hlen : (xs ++ news).length = (n + m) * i.size := by rw [List.length_append, hown.1, hl, Nat.add_mul]
  have grown : ∀ (old : Nat), old < n + m → ∀ (row : Option Nat),
      rowR (w.drew.alloc (.cells (xs.toArray ++ news.toArray ++ Builtin.zeroCells z.cells (grownCap w (n + m) old e - (n + m))) e)) base e i.size
        (.slice (some ⟨w.heap.size, 0, none⟩) (n + m) (grownCap w (n + m) old e)) (n + m) (xs ++ news) ∧
      w.grownBy (w.drew.alloc (.cells (xs.toArray ++ news.toArray ++ Builtin.zeroCells z.cells (grownCap w (n + m) old e - (n + m))) e)) row := by
    intro old ho row
    have hge := grownCap_ge w (n + m) old e
    have hcm : grownCap w (n + m) old e ≤ maxLen := grownCap_le_maxLen w (n + m) old e h63
    refine ⟨⟨hlen, .inr ⟨w.heap.size, _, _, rfl, hbase, Go.heap_alloc_new w.drew _, hge, hcm, Nat.le_of_eq ?_, ?_⟩⟩, ⟨rfl, rfl, rfl, by simp, fun k hk _ => Below.heap_alloc w.drew _ k hk⟩⟩
    · simp only [Array.size_append, List.size_toArray, size_zeroCells, hzs, hown.1, hl, ← Nat.add_mul]
      congr 1
      omega
    · simp only [Array.toList_append, List.append_assoc]
      rw [← List.append_assoc, ← hlen]
      exact List.take_left
  rcases hown.2 with ⟨rfl, rfl⟩ | ⟨g, cap, cur, rfl, hbg, hg, hnc, hcm, hcs, htake⟩
  · have hx : xs = [] := List.eq_nil_of_length_eq_zero (by simpa using hown.1)
    subst hx
    by_cases hm : m = 0
    · subst hm
      have hn : news = [] := List.eq_nil_of_length_eq_zero (by simpa using hl)
      subst hn
      refine ⟨.slice none 0 0, w, ?_, rowR_nil w base e i.size, ⟨rfl, rfl, rfl, Nat.le_refl _, fun _ _ _ => rfl⟩, .inl (fun x k c' e => by cases e; rfl), rowR_nil w base e i.size⟩
      simp [Builtin.append_, run_underlying ht, sizeOf, typeInfo, hi, Builtin.lenOf, Builtin.firstCells, loadCells, loadCellsFrom]
    · have hr := run_append_nil (P := P) w t ty e i z ht hi hz a m c news hl hnews (by omega) (by omega) (by have hb := hbytes; simp only [Nat.zero_add] at hb; omega)
      have hgr := grown 0 (by omega) (Value.ownBlock (.slice none 0 0))
      simp only [Nat.zero_add, List.nil_append, Array.empty_append] at hgr ⊢
      exact ⟨_, _, hr, hgr.1, hgr.2, .inr rfl, rowR_nil _ base e i.size⟩
  · by_cases hroom : n + m ≤ cap
    · have hfit : n * i.size + news.length ≤ cur.size := by rw [hl, ← Nat.add_mul]; exact Nat.le_trans (Nat.mul_le_mul_right _ hroom) hcs
      have hr := run_append_room (P := P) w t ty e i ht hi g n cap cur hg a m c news hl hnews h1 hroom hfit
      refine ⟨_, _, hr, ⟨hlen, .inr ⟨g, cap, _, rfl, hbg, setRow_heap w g cur _ e _ hg, hroom, hcm, ?_, ?_⟩⟩, ⟨rfl, rfl, rfl, by simp, fun k _ hk => setRow_other w g k _ (fun e => hk (by simp [Value.ownBlock, e]))⟩, .inl (fun x k c' e => by cases e; rfl), ⟨hown.1, .inr ⟨g, cap, _, rfl, hbg, setRow_heap w g cur _ e _ hg, hnc, hcm, ?_, ?_⟩⟩⟩
      · simp only [List.size_toArray, List.length_append, List.length_take, List.length_drop, Array.length_toList]
        omega
      · rw [htake, ← hlen]
        exact List.take_left
      · simp only [List.size_toArray, List.length_append, List.length_take, List.length_drop, Array.length_toList]
        omega
      · simp only [List.append_assoc]
        rw [htake, ← hown.1]
        exact List.take_left
    · have holds : ∀ j u, xs[j]? = some u → w.cell? ((⟨g, 0, none⟩ : Addr).add j) = some u := hown.cells (g := g) rfl
      have hr := run_append_grow (P := P) w t ty e i z ht hi hz ⟨g, 0, none⟩ n cap xs hown.1 holds a m c news hl hnews (by omega) (by omega) (growslice_fits (by omega) hbytes)
      have hgr := grown cap (by omega) (Value.ownBlock (.slice (some ⟨g, 0, none⟩) n cap))
      exact ⟨_, _, hr, hgr.1, hgr.2, .inr rfl, hown.kept (grown cap (by omega) none).2 (.inr (by simp [Value.ownBlock]))⟩
end

/-- A row of rises, in a block from base on. -/
structure Sw (w : World) (base : Nat) (ao : Option Addr) (n cap : Nat) (l : List Sd) : Prop where
  len : l.length = n
  row : rowR w base 64 2 (.slice ao n cap) n (tcells l)
theorem Sw.nil (w : World) (base : Nat) : Sw w base none 0 0 [] := ⟨rfl, rowR_nil w base 64 2⟩
theorem Sw.kept {w w' : World} {base : Nat} {ao : Option Addr} {n cap : Nat} {l : List Sd} {row : Option Nat} (h : Sw w base ao n cap l) (hg : w.grownBy w' row) (hne : blk ao = none ∨ blk ao ≠ row) : Sw w' base ao n cap l :=
  ⟨h.len, h.row.kept hg (by rw [blk_own]; exact hne)⟩
theorem Sw.from_base {w : World} {base : Nat} {ao : Option Addr} {n cap : Nat} {l : List Sd} (h : Sw w base ao n cap l) : ∀ k, blk ao = some k → base ≤ k ∧ k < w.heap.size := by
  intro k hk
  exact h.row.lt k (by rw [blk_own]; exact hk)
theorem Sw.addr {w : World} {base : Nat} {ao : Option Addr} {n cap : Nat} {l : List Sd} (h : Sw w base ao n cap l) (hn : 0 < n) : ∃ g, ao = some ⟨g, 0, none⟩ ∧ base ≤ g ∧ g < w.heap.size := by
  rcases h.row.2 with ⟨hv, h0⟩ | ⟨g, c, cur, hv, hb, hg, _⟩
  · omega
  · cases hv
    exact ⟨g, rfl, hb, (Array.getElem?_eq_some_iff.1 hg).1⟩
theorem Sw.at {w : World} {base g n cap : Nat} {l : List Sd} (h : Sw w base (some ⟨g, 0, none⟩) n cap l) {j : Nat} {r : Sd} (hr : l[j]? = some r) (i : Nat) (hi : i < 2) : w.cell? ⟨g, j * 2 + i, none⟩ = r.cells[i]? := by
  have h1 := tcells_get hr i hi
  obtain ⟨u, hu⟩ : ∃ u, r.cells[i]? = some u := ⟨_, List.getElem?_eq_getElem (show i < r.cells.length from hi)⟩
  rw [hu] at h1 ⊢
  have h9 := h.row.cells (g := g) rfl _ _ h1
  rwa [Addr.add_lit, Nat.zero_add] at h9

theorem info64 : (Try.prog.info? 64).map (fun i => (i.zero, i.size, i.bytes)) = some (some (.agg #[.int .i64 0, .int .i64 0]), 2, 16) := by kernel_rfl

theorem Sw.chg {w w' : World} {base : Nat} {ao : Option Addr} {n cap : Nat} {l : List Sd} {S : Nat → Prop} (h : Sw w base ao n cap l) (hc : Chg w w' S) (hb : ∀ k, blk ao = some k → ¬ S k) : Sw w' base ao n cap l := by
  refine ⟨h.len, h.row.1, ?_⟩
  rcases h.row.2 with h2 | ⟨g, c, cur, hv, hg, r, r2⟩
  · exact Or.inl h2
  · cases hv
    exact Or.inr ⟨g, cap, cur, rfl, hg, (hc.block g (lt_of_heap r) (hb g rfl)).trans r, r2⟩
theorem Sw.not64 {w : World} {base b : Nat} {ao : Option Addr} {n cap : Nat} {l : List Sd} (h : Sw w base ao n cap l) {cs : Array Value} {t : TypeId} {fr : Nat × Nat} (hb : w.heap[b]? = some (.cells cs t fr)) (ht : t ≠ 64) : blk ao ≠ some b := by
  rcases h.row.2 with ⟨hv, _⟩ | ⟨g, c, cur, hv, hg, r, r2⟩
  · cases hv; simp [blk]
  · cases hv
    intro e
    cases e
    rw [hb] at r
    cases r
    exact ht rfl

theorem Sw.src {w : World} {base : Nat} {ad : Addr} {n cap : Nat} {l : List Sd} (h : Sw w base (some ad) n cap l) : ∀ j u, (tcells l)[j]? = some u → w.cell? (ad.add j) = some u := by
  intro j u hu
  rcases h.row.2 with ⟨hv, _⟩ | ⟨g, c, cur, hv, _⟩
  · cases hv
  · cases hv
    exact h.row.cells (g := g) rfl j u hu
theorem Sw.rebase {w : World} {base base' : Nat} {ao : Option Addr} {n cap : Nat} {l : List Sd} (h : Sw w base ao n cap l) (hb : base' ≤ base) : Sw w base' ao n cap l := by
  refine ⟨h.len, h.row.1, ?_⟩
  rcases h.row.2 with h2 | ⟨g, c, cur, hv, hg, r⟩
  · exact Or.inl h2
  · exact Or.inr ⟨g, c, cur, hv, Nat.le_trans hb hg, r⟩

theorem tcells_append (l k : List Sd) : tcells (l ++ k) = tcells l ++ tcells k := by simp [tcells]
/-- What a slice of rises shows, wherever it lies. -/
structure Ss (w : World) (xo : Option Addr) (m : Nat) (k : List Sd) : Prop where
  len : k.length = m
  src : ∀ ad, xo = some ad → ∀ j u, (tcells k)[j]? = some u → w.cell? (ad.add j) = some u
  nil : xo = none → m = 0
theorem Sw.shows {w : World} {base : Nat} {ao : Option Addr} {n cap : Nat} {l : List Sd} (h : Sw w base ao n cap l) : Ss w ao n l := by
  refine ⟨h.len, fun ad e => by subst e; exact h.src, fun e => ?_⟩
  rcases h.row.2 with ⟨_, h0⟩ | ⟨g, c, cur, hv, _⟩
  · exact h0
  · cases hv; cases e
/-- append of some rises: the row is the old one, or fresh. -/
theorem run_append_sds (w : World) (base : Nat) {ao : Option Addr} {n cap : Nat} {l : List Sd} (hown : Sw w base ao n cap l) {xo : Option Addr} {m c : Nat} {k : List Sd} (hb : Ss w xo m k) (hc : xo = none → c = 0)
    (hsum : n + m ≤ 200000) (hbase : base ≤ w.heap.size) :
    ∃ ao' cap' w', (Builtin.append_ #[33, 33] 33 #[.slice ao n cap, .slice xo m c]).run Try.prog w = .ok (.slice ao' (n + m) cap') w' ∧ Sw w' base ao' (n + m) cap' (l ++ k) ∧ w.grownBy w' (blk ao) ∧ ((ao' = ao ∧ cap' = cap) ∨ blk ao' = some w.heap.size) ∧ Sw w' base ao n cap l := by
  obtain ⟨i, hi, hz, hzs, hz2⟩ := info_parts info64
  have hlen := hb.len
  cases xo with
  | none =>
    obtain rfl := hb.nil rfl
    obtain rfl := hc rfl
    obtain rfl : k = [] := List.eq_nil_of_length_eq_zero hlen
    refine ⟨ao, cap, w, ?_, by simpa using hown, grown_refl _ _, .inl ⟨rfl, rfl⟩, hown⟩
    rcases hown.row.2 with ⟨hv, h0⟩ | ⟨g, c, cur, hv, _, hgg, hnc, _⟩
    · cases hv; simp [Builtin.append_, run_underlying Try.underlying33, sizeOf, typeInfo, hi, Builtin.lenOf, Builtin.firstCells]
    · cases hv; simp [Builtin.append_, run_underlying Try.underlying33, sizeOf, typeInfo, hi, Builtin.lenOf, Builtin.firstCells, loadCells, storeCells, hnc]
  | some ad =>
    obtain ⟨v', w', hr, hown', hgrow, hat, hold⟩ := run_append_row (P := Try.prog) w base 33 33 64 i _ 2 16 Try.underlying33 hi hz hzs hz2 rfl (by decide) _ n _ hown.row ad m c (tcells k) (by rw [tcells_len, hlen]) (hb.src ad rfl) (tcells_one k) (by unfold maxLen; omega) (by omega) hbase
    rw [← tcells_append] at hown'
    rw [blk_own] at hgrow
    have hll : (l ++ k).length = n + m := by simp [hown.len, hlen]
    rcases hown'.2 with ⟨hv, h0⟩ | ⟨g, c', cur, hv, _⟩
    · subst hv
      rw [h0] at hown' hat ⊢
      rw [h0] at hll
      exact ⟨none, 0, w', hr, ⟨hll, hown'⟩, hgrow, by rcases hat with hat | hat; exact .inl (by cases hat _ _ _ rfl; exact ⟨rfl, rfl⟩); exact .inr (by rw [blk_own] at hat; exact hat), ⟨hown.len, hold⟩⟩
    · subst hv
      exact ⟨_, _, w', hr, ⟨hll, hown'⟩, hgrow, by rcases hat with hat | hat; exact .inl (by cases hat _ _ _ rfl; exact ⟨rfl, rfl⟩); exact .inr (by rw [blk_own] at hat; exact hat), ⟨hown.len, hold⟩⟩
theorem wpList_append_sds {w : World} {ops : Array Oper} {rest : List Oper} {o : Oper} {a : Act} {Q : Exit → Act → World → Prop} (hgd : o.guard = none) (hty : o.type = 33) (s x : Operand)
    (ho : o.op = .call { callee := .builtin .append, args := #[s, x], argTypes := #[33, 33] })
    (base : Nat) {ao : Option Addr} {n cap : Nat} {l : List Sd} (hs : a.eval s = .slice ao n cap) (hown : Sw w base ao n cap l)
    {xo : Option Addr} {m c : Nat} {k : List Sd} (hx : a.eval x = .slice xo m c) (hb : Ss w xo m k) (hc : xo = none → c = 0)
    (hsum : n + m ≤ 200000) (hbase : base ≤ w.heap.size)
    (h : ∀ ao' cap' w', Sw w' base ao' (n + m) cap' (l ++ k) → w.grownBy w' (blk ao) → ((ao' = ao ∧ cap' = cap) ∨ blk ao' = some w.heap.size) → Sw w' base ao n cap l → wpList Try.prog ops Q rest (a.put o.dst (.slice ao' (n + m) cap')) w') : wpList Try.prog ops Q (o :: rest) a w := by
  obtain ⟨ao', cap', w', hr, h2, h3, h4, h5⟩ := run_append_sds w base hown hb hc hsum hbase
  refine wpList_plain hgd fun K hK => ?_
  unfold Oper.wp
  simp only [execOp, ho, resolve, invoke, builtin, Sem.run_bind, Sem.run_pure, Result.andThen_ok, List.map_toArray, List.map_cons, List.map_nil, hs, hx, hty, hr]
  exact hK _ _ (h _ _ _ h2 h3 h4 h5)
/-- The same, as one step of a region that draws. -/
theorem step_append_sds {ops : Array Oper} {o : Oper} {a : Act} {w : World} {K : Act → World → Prop} {Q : Exit → Act → World → Prop} {E : Prop}
    (hg : o.guard = none) (hty : o.type = 33) (s x : Operand) (ho : o.op = Op.call { callee := Callee.builtin Builtin.append, args := #[s, x], argTypes := #[33, 33] })
    (base : Nat) {ao : Option Addr} {n cap : Nat} {l : List Sd} (hs : a.eval s = .slice ao n cap) (hown : Sw w base ao n cap l)
    {xo : Option Addr} {m c : Nat} {k : List Sd} (hx : a.eval x = .slice xo m c) (hb : Ss w xo m k) (hc : xo = none → c = 0)
    (hsum : n + m ≤ 200000) (hbase : base ≤ w.heap.size)
    (h : ∀ ao' cap' w', Sw w' base ao' (n + m) cap' (l ++ k) → w.grownBy w' (blk ao) → ((ao' = ao ∧ cap' = cap) ∨ blk ao' = some w.heap.size) → Sw w' base ao n cap l → K (a.put o.dst (.slice ao' (n + m) cap')) w') :
    if Region.wanted o (yielded ops a.tmps) = true then Oper.wp Try.prog o a w K Q else E := by
  have hw : Region.wanted o (yielded ops a.tmps) = true := by simp [Region.wanted, hg]
  rw [if_pos hw]
  obtain ⟨ao', cap', w', hr, h2, h3, h4, h5⟩ := run_append_sds w base hown hb hc hsum hbase
  unfold Oper.wp
  simp only [execOp, ho, resolve, invoke, builtin, Sem.run_bind, Sem.run_pure, Result.andThen_ok, List.map_toArray, List.map_cons, List.map_nil, hs, hx, hty, hr]
  exact h _ _ _ h2 h3 h4 h5
/-- A rise in its box, as a slice of one. -/
theorem Sb.shows {w : World} {g : Nat} {x y : Int} (h : Sb w g x y) : Ss w (some ⟨g, 0, none⟩) 1 [⟨x, y⟩] := by
  refine ⟨rfl, fun ad e j u hu => ?_, fun e => by cases e⟩
  cases e
  rw [Addr.add_lit, Nat.zero_add]
  match j, hu with
  | 0, hu => cases hu; exact h.c0
  | 1, hu => cases hu; exact h.c1

theorem Sw.pre {w : World} {base : Nat} {ao : Option Addr} {n cap : Nat} {l k : List Sd} (h : Sw w base ao n cap (l ++ k)) : Sw w base ao l.length cap l := by
  have hl := h.len
  simp only [List.length_append] at hl
  refine ⟨rfl, by rw [tcells_len], ?_⟩
  rcases h.row.2 with ⟨hv, h0⟩ | ⟨g, c, cur, hv, hb, r, h3, h4, h5, h6⟩
  · cases hv
    exact .inl ⟨by rw [show l.length = 0 by omega], by omega⟩
  · cases hv
    refine .inr ⟨g, cap, cur, rfl, hb, r, by omega, h4, h5, ?_⟩
    have h7 := congrArg (List.take (l.length * 2)) h6
    rw [List.take_take, Nat.min_eq_left (by omega), tcells_append, ← tcells_len l, List.take_left] at h7
    rw [← tcells_len l]
    exact h7
theorem Sw.below {w W : World} {base hi : Nat} {ao : Option Addr} {n cap : Nat} {l : List Sd} (h : Sw w base ao n cap l) (hB : Below hi w W) (hb : ∀ k, blk ao = some k → k < hi) : Sw W base ao n cap l := by
  refine ⟨h.len, h.row.1, ?_⟩
  rcases h.row.2 with h2 | ⟨g, c, cur, hv, hg, r, r2⟩
  · exact Or.inl h2
  · cases hv
    exact Or.inr ⟨g, cap, cur, rfl, hg, (hB.block g (hb g rfl)).trans r, r2⟩

/-- Some blocks stay as they are. -/
def Stay (K : Nat → Prop) (A B : World) : Prop := A.heap.size ≤ B.heap.size ∧ ∀ k, K k → B.heap[k]? = A.heap[k]?
theorem Stay.refl (K : Nat → Prop) (A : World) : Stay K A A := ⟨Nat.le_refl _, fun _ _ => rfl⟩
theorem Stay.trans {K : Nat → Prop} {A B C : World} (h : Stay K A B) (h2 : Stay K B C) : Stay K A C := ⟨Nat.le_trans h.1 h2.1, fun k hk => (h2.2 k hk).trans (h.2 k hk)⟩
theorem Stay.chg {K S : Nat → Prop} {A B : World} (h : Chg A B S) (hK : ∀ k, K k → k < A.heap.size) (hS : ∀ k, K k → ¬ S k) : Stay K A B := ⟨h.size, fun k hk => h.block k (hK k hk) (hS k hk)⟩
theorem Stay.grown {K : Nat → Prop} {A B : World} (h : A.grownBy B none) (hK : ∀ k, K k → k < A.heap.size) : Stay K A B := ⟨h.size, fun k hk => h.block k (hK k hk) (by simp)⟩
theorem Sw.stay {w W : World} {K : Nat → Prop} {base : Nat} {ao : Option Addr} {n cap : Nat} {l : List Sd} (h : Sw w base ao n cap l) (hB : Stay K w W) (hb : ∀ k, blk ao = some k → K k) : Sw W base ao n cap l := by
  refine ⟨h.len, h.row.1, ?_⟩
  rcases h.row.2 with h2 | ⟨g, c, cur, hv, hg, r, r2⟩
  · exact Or.inl h2
  · cases hv
    exact Or.inr ⟨g, cap, cur, rfl, hg, (hB.2 g (hb g rfl)).trans r, r2⟩


end Go.Proofs.Ytmnfdiffneobpaa
