import Derived.Test.YtlghcboenkglnaaGreatDoorZac
import Derived.Test.YtlghcboenkglnaaGreatDoorZad
import Derived.Deep.QuietTactic
import Derived.BigQuiet
import Derived.Deep.RegionHeld3
/-
  Records in memory, and the walks of the small functions on them: May, Size, Same, SameAll, the document's too.
-/
namespace Go.Proofs.YtlghcboenkglnaaGreatDoor.Rec
open Go.Proofs.YtlghcboenkglnaaGreatDoor
open Go.RowKit
set_option linter.unusedVariables false

/-- What a record is: time, key, value. -/
abbrev Dr := Int × List UInt8 × List UInt8
/-- A record as it lies: its time, the heads of key and value, and the bytes that these show. -/
structure Rc where
  t : Int
  ko : Option Addr
  kn : Nat
  kc : Nat
  k : List UInt8
  vo : Option Addr
  vn : Nat
  vc : Nat
  v : List UInt8
def Rc.d (r : Rc) : Dr := (r.t, r.k, r.v)
structure Rk (w : World) (r : Rc) : Prop where
  low : -9223372036854775808 ≤ r.t
  high : r.t < 9223372036854775808
  key : Bs w r.ko r.kn r.kc r.k
  value : Bs w r.vo r.vn r.vc r.v
  kb : r.kn ≤ 140737488355328
  vb : r.vn ≤ 140737488355328
theorem Rk.grown {w w' : World} {r : Rc} (h : Rk w r) (hg : w.grownBy w' none) : Rk w' r := ⟨h.low, h.high, h.key.grown hg, h.value.grown hg, h.kb, h.vb⟩
/-- A slice of records. -/
structure Rs (w : World) (ao : Option Addr) (n cap : Nat) (l : List Rc) : Prop where
  len : l.length = n
  room : n ≤ cap
  top : cap ≤ 9223372036854775807
  nil : ao = none → cap = 0
  place : ∀ a, ao = some a → 0 < n → ∃ b o, a = ⟨b, o, none⟩ ∧ b < w.heap.size
  cells : ∀ b o, ao = some ⟨b, o, none⟩ → ∀ j r, l[j]? = some r → w.cell? ⟨b, o + j * 3, none⟩ = some (.int .i64 r.t) ∧ w.cell? ⟨b, o + j * 3 + 1, none⟩ = some (.slice r.ko r.kn r.kc) ∧ w.cell? ⟨b, o + j * 3 + 2, none⟩ = some (.slice r.vo r.vn r.vc)
  shows : ∀ r ∈ l, Rk w r
theorem Rs.grown {w w' : World} {ao : Option Addr} {n cap : Nat} {l : List Rc} (h : Rs w ao n cap l) (hg : w.grownBy w' none) : Rs w' ao n cap l :=
  ⟨h.len, h.room, h.top, h.nil, fun a ha hn => by obtain ⟨b, o, e, hb⟩ := h.place a ha hn; exact ⟨b, o, e, Nat.lt_of_lt_of_le hb hg.size⟩,
    fun b o ha j r hr => by obtain ⟨h1, h2, h3⟩ := h.cells b o ha j r hr; exact ⟨hg.cell h1 (by simp), hg.cell h2 (by simp), hg.cell h3 (by simp)⟩, fun r hr => (h.shows r hr).grown hg⟩
theorem Rs.addr {w : World} {ao : Option Addr} {n cap : Nat} {l : List Rc} (h : Rs w ao n cap l) (hn : 0 < n) : ∃ b o, ao = some ⟨b, o, none⟩ ∧ b < w.heap.size := by
  cases ao with
  | none => have := h.nil rfl; have := h.room; omega
  | some a => obtain ⟨b, o, rfl, hb⟩ := h.place a rfl hn; exact ⟨b, o, rfl, hb⟩
/-- May the record be? -/
def mayB (t : Int) (kn vn : Nat) : Bool := decide (0 ≤ t) && (decide (t ≤ 9007199254740992) && (decide (kn ≤ 256) && decide (vn ≤ 4096)))
theorem ret_bool {a b : Bool} (h : a = b) : Ending.returned (.bool a) = .returned (.bool b) := by rw [h]
set_option maxRecDepth 100000 in
set_option maxHeartbeats 1000000 in
theorem may_any (w : World) (r : Rc) (hk : Rk w r) :
    Calls Tryz.prog 156 #[.agg #[.int .i64 r.t, .slice r.ko r.kn r.kc, .slice r.vo r.vn r.vc]] w fun e w' => e = .returned (.bool (mayB r.t r.kn r.vn)) ∧ w.grownBy w' none := by
  by_cases h1 : 0 ≤ r.t
  · by_cases h2 : r.t ≤ 9007199254740992
    · by_cases h3 : r.kn ≤ 256
      · have hM : Hid (mayB r.t r.kn r.vn = decide (r.vn ≤ 4096)) := by show _ = _; simp [mayB, h1, h2, h3]
        go_enter Tryz.func156, Tryz.ntmps156
        go_wp2
        go_ret
        exact ⟨ret_bool (by rw [hM.out]; exact decide_eq_decide.2 (by omega)), alloc_grown _ _⟩
      · have hM : Hid (mayB r.t r.kn r.vn = false) := by show _ = _; simp [mayB, h3]
        go_enter Tryz.func156, Tryz.ntmps156
        go_wp2
        go_ret
        exact ⟨ret_bool (by rw [hM.out]), alloc_grown _ _⟩
    · have hM : Hid (mayB r.t r.kn r.vn = false) := by show _ = _; simp [mayB, h2]
      go_enter Tryz.func156, Tryz.ntmps156
      go_wp2
      go_ret
      exact ⟨ret_bool (by rw [hM.out]), alloc_grown _ _⟩
  · have hM : Hid (mayB r.t r.kn r.vn = false) := by show _ = _; simp [mayB, h1]
    go_enter Tryz.func156, Tryz.ntmps156
    go_wp2
    go_ret
    exact ⟨ret_bool (by rw [hM.out]), alloc_grown _ _⟩
set_option maxHeartbeats 1000000 in
theorem size_any (w : World) (r : Rc) (hk : Rk w r) :
    Calls Tryz.prog 155 #[.agg #[.int .i64 r.t, .slice r.ko r.kn r.kc, .slice r.vo r.vn r.vc]] w fun e w' => e = .returned (.int .i64 (12 + r.kn + r.vn : Nat)) ∧ w.grownBy w' none := by
  have h1 := hk.key.room
  have h2 := hk.kb
  have h3 := hk.value.room
  have h4 := hk.vb
  go_enter Tryz.func155, Tryz.ntmps155
  go_wp2
  go_ret
  exact ⟨ret_int (by push_cast; rfl), alloc_grown _ _⟩
set_option maxHeartbeats 400000 in
theorem equal_any (w : World) (ao bo : Option Addr) (n m c d : Nat) (l k : List UInt8) (ha : Bs w ao n c l) (hb : Bs w bo m d k) :
    Calls Tryz.prog 125 #[.slice ao n c, .slice bo m d] w fun e w' => e = .returned (.bool (l == k)) ∧ w' = w := by
  have h1 := run_string_bs (P := Tryz.prog) w 48 9 5 Tryz.underlying48 Tryz.underlying5 Tryz.underlying9 ha
  have h2 := run_string_bs (P := Tryz.prog) w 48 9 5 Tryz.underlying48 Tryz.underlying5 Tryz.underlying9 hb
  go_enter Tryz.func125, Tryz.ntmps125
  go_wp2
  go_ret
  exact ⟨rfl, rfl⟩
/-- Are two records the same? -/
def sameB (a b : Rc) : Bool := decide (a.t = b.t) && ((a.k == b.k) && (a.v == b.v))
/-- The same, by their parts. -/
def sameL (t u : Int) (k k2 v v2 : List UInt8) : Bool := decide (t = u) && ((k == k2) && (v == v2))
set_option maxRecDepth 100000 in
set_option maxHeartbeats 2000000 in
theorem same_any_raw (w : World) (t u : Int) (ko vo lo xo : Option Addr) (kn kc vn vc ln lc xn xc : Nat) (k v k2 v2 : List UInt8) (h1 : Bs w ko kn kc k) (h2 : Bs w vo vn vc v) (h3 : Bs w lo ln lc k2) (h4 : Bs w xo xn xc v2) :
    Calls Tryz.prog 93 #[.agg #[.int .i64 t, .slice ko kn kc, .slice vo vn vc], .agg #[.int .i64 u, .slice lo ln lc, .slice xo xn xc]] w fun e w' => e = .returned (.bool (sameL t u k k2 v v2)) ∧ w.grownBy w' none := by
  have hK : ∀ W, w.grownBy W none → Calls Tryz.prog 125 #[.slice ko kn kc, .slice lo ln lc] W fun e w' => e = .returned (.bool (k == k2)) ∧ w' = W := fun W hg => equal_any W _ _ _ _ _ _ _ _ (h1.grown hg) (h3.grown hg)
  have hV : ∀ W, w.grownBy W none → Calls Tryz.prog 125 #[.slice vo vn vc, .slice xo xn xc] W fun e w' => e = .returned (.bool (v == v2)) ∧ w' = W := fun W hg => equal_any W _ _ _ _ _ _ _ _ (h2.grown hg) (h4.grown hg)
  have hM : Hid (sameL t u k k2 v v2 = (decide (t = u) && ((k == k2) && (v == v2)))) := rfl
  clear h1 h2 h3 h4
  generalize (k == k2) = A at *
  generalize (v == v2) = B at *
  have hg2 : ∀ x y, w.grownBy ((w.alloc x).alloc y) none := fun x y => grown_trans (alloc_grown _ _) (alloc_grown _ _) (by simp)
  by_cases ht : t = u
  · subst ht
    cases A
    · go_enter Tryz.func93, Tryz.ntmps93
      go_wp2_with fail
      refine (hK _ (hg2 _ _)).mono ?_
      rintro e w' ⟨rfl, rfl⟩
      go_wp2
      go_ret
      exact ⟨ret_bool (by rw [hM.out]; simp), hg2 _ _⟩
    · go_enter Tryz.func93, Tryz.ntmps93
      go_wp2_with fail
      refine (hK _ (hg2 _ _)).mono ?_
      rintro e w' ⟨rfl, rfl⟩
      go_wp2_with fail
      refine (hV _ (hg2 _ _)).mono ?_
      rintro e w' ⟨rfl, rfl⟩
      go_wp2
      go_ret
      exact ⟨ret_bool (by rw [hM.out]; simp), hg2 _ _⟩
  · go_enter Tryz.func93, Tryz.ntmps93
    go_wp2
    go_ret
    exact ⟨ret_bool (by rw [hM.out]; simp [ht]), hg2 _ _⟩
theorem same_any (w : World) (r q : Rc) (hr : Rk w r) (hq : Rk w q) :
    Calls Tryz.prog 93 #[.agg #[.int .i64 r.t, .slice r.ko r.kn r.kc, .slice r.vo r.vn r.vc], .agg #[.int .i64 q.t, .slice q.ko q.kn q.kc, .slice q.vo q.vn q.vc]] w fun e w' => e = .returned (.bool (sameB r q)) ∧ w.grownBy w' none :=
  same_any_raw w _ _ _ _ _ _ _ _ _ _ _ _ _ _ _ _ _ _ hr.key hr.value hq.key hq.value
end Go.Proofs.YtlghcboenkglnaaGreatDoor.Rec

/-
  Lists of records: SameAll, the document's, Large: the walks.
-/
namespace Go.Proofs.YtlghcboenkglnaaGreatDoor.Rec
open Go.Proofs.YtlghcboenkglnaaGreatDoor
open Go.RowKit
set_option linter.unusedVariables false

/-- What the records of a list are. -/
def ds (l : List Rc) : List Dr := l.map Rc.d
theorem sameB_iff (r q : Rc) : sameB r q = true ↔ r.d = q.d := by
  unfold sameB Rc.d
  simp
/-- Are they the same, one by one? -/
def sameAllB (l k : List Rc) : Bool := decide (ds l = ds k)
theorem ds_len (l : List Rc) : (ds l).length = l.length := by simp [ds]
theorem same_not {l k : List Rc} {i : Nat} (h1 : i < l.length) (h2 : i < k.length) (h : sameB l[i] k[i] = false) : sameAllB l k = false := by
  unfold sameAllB
  rw [decide_eq_false_iff_not]
  intro e
  have h3 : (ds l)[i]? = (ds k)[i]? := by rw [e]
  simp only [ds, List.getElem?_map, List.getElem?_eq_getElem h1, List.getElem?_eq_getElem h2, Option.map_some, Option.some.injEq] at h3
  rw [(sameB_iff _ _).2 h3] at h
  cases h
theorem same_step {l k : List Rc} {i : Nat} (h1 : i < l.length) (h2 : i < k.length) (h : sameB l[i] k[i] = true) (hp : ds (l.take i) = ds (k.take i)) : ds (l.take (i + 1)) = ds (k.take (i + 1)) := by
  rw [List.take_succ_eq_append_getElem h1, List.take_succ_eq_append_getElem h2]
  unfold ds at *
  rw [List.map_append, List.map_append, hp]
  simp [(sameB_iff _ _).1 h]
theorem same_len {l k : List Rc} (h : l.length ≠ k.length) : sameAllB l k = false := by
  unfold sameAllB
  rw [decide_eq_false_iff_not]
  intro e
  exact h (by rw [← ds_len l, ← ds_len k, e])
theorem Rs.at {w : World} {b o n cap : Nat} {l : List Rc} (h : Rs w (some ⟨b, o, none⟩) n cap l) {j : Nat} (hj : j < l.length) :
    w.cell? ⟨b, o + j * 3, none⟩ = some (.int .i64 (l[j]).t) ∧ w.cell? ⟨b, o + j * 3 + 1, none⟩ = some (.slice (l[j]).ko (l[j]).kn (l[j]).kc) ∧ w.cell? ⟨b, o + j * 3 + 2, none⟩ = some (.slice (l[j]).vo (l[j]).vn (l[j]).vc) ∧ Rk w l[j] := by
  obtain ⟨h1, h2, h3⟩ := h.cells b o rfl j l[j] (by simp [hj])
  exact ⟨h1, h2, h3, h.shows _ (List.getElem_mem hj)⟩
set_option maxRecDepth 100000 in
set_option maxHeartbeats 4000000 in
theorem sameAll_any (w : World) (ao bo : Option Addr) (n m cap cap2 : Nat) (l k : List Rc) (ha : Rs w ao n cap l) (hb : Rs w bo m cap2 k) :
    Calls Tryz.prog 43 #[.slice ao n cap, .slice bo m cap2] w fun e w' => e = .returned (.bool (sameAllB l k)) ∧ w.grownBy w' none := by
  have hl1 := ha.len
  have hl2 := hb.len
  have ht1 := Nat.le_trans ha.room ha.top
  by_cases hnm : n = m
  · subst hnm
    have hne : ((n : Int) != (n : Int)) = false := by simp
    go_enter Tryz.func43, Tryz.ntmps43
    go_wp2_with fail
    go_loopw [5, 13] (fun _ i' wr => ∃ i : Nat, i ≤ n ∧ i' = .int .i64 i ∧ Hid (ds (l.take i) = ds (k.take i)) ∧ w.grownBy wr none) (fun _ i' _ => n - (intOf i').toNat)
    case atStart => exact ⟨0, Nat.zero_le _, rfl, (by simp : ds (l.take 0) = ds (k.take 0)), grown_refl _ _⟩
    case round =>
      obtain ⟨i, hi, rfl, hp, hg⟩ := hrel
      by_cases hlt : i < n
      · obtain ⟨b, o, rfl, hbl⟩ := ha.addr (by omega)
        obtain ⟨c, q, rfl, hcl⟩ := hb.addr (by omega)
        have h1 : i < l.length := by omega
        have h2 : i < k.length := by omega
        obtain ⟨a1, a2, a3, ak⟩ := (ha.grown hg).at h1
        obtain ⟨b1, b2, b3, bk⟩ := (hb.grown hg).at h2
        have hN : Hid (sameB l[i] k[i] = false → sameAllB l k = false) := same_not h1 h2
        have hS : Hid (sameB l[i] k[i] = true → ds (l.take (i + 1)) = ds (k.take (i + 1))) := fun h => same_step h1 h2 h hp.out
        have hd : decide ((i : Int) < (n : Int)) = true := by simp; omega
        generalize l[i] = x at *
        generalize k[i] = y at *
        have hcall : ∀ W, wr.grownBy W none → Calls Tryz.prog 93 #[.agg #[.int .i64 x.t, .slice x.ko x.kn x.kc, .slice x.vo x.vn x.vc], .agg #[.int .i64 y.t, .slice y.ko y.kn y.kc, .slice y.vo y.vn y.vc]] W fun e w' => e = .returned (.bool (sameB x y)) ∧ W.grownBy w' none := fun W hW => same_any W x y (ak.grown hW) (bk.grown hW)
        clear hp ak bk
        generalize sameB x y = B at *
        go_wp2_with fail
        go_region_held3 (fun w' => w'.cell? ⟨b, o + i * 3, none⟩ = some (.int .i64 x.t) ∧ w'.cell? ⟨b, o + i * 3 + 1, none⟩ = some (.slice x.ko x.kn x.kc) ∧ w'.cell? ⟨b, o + i * 3 + 2, none⟩ = some (.slice x.vo x.vn x.vc) ∧ w'.cell? ⟨c, q + i * 3, none⟩ = some (.int .i64 y.t) ∧ w'.cell? ⟨c, q + i * 3 + 1, none⟩ = some (.slice y.ko y.kn y.kc) ∧ w'.cell? ⟨c, q + i * 3 + 2, none⟩ = some (.slice y.vo y.vn y.vc)) (first | exact ⟨a1, a2, a3, b1, b2, b3⟩ | exact ⟨m1, m2, m3, n1, n2, n3⟩)
          ((go_at_call 93; refine (hcall _ (grown_drewN wr 1 none)).mono ?_; rintro e w2 ⟨rfl, hg2⟩; have hgd : wr.grownBy w2 none := grown_trans (grown_drewN wr 1 none) hg2 (by simp); have m1 := hgd.cell a1 (by simp); have m2 := hgd.cell a2 (by simp); have m3 := hgd.cell a3 (by simp); have n1 := hgd.cell b1 (by simp); have n2 := hgd.cell b2 (by simp); have n3 := hgd.cell b3 (by simp)))
        have hG := grown_trans hg hgd (by simp)
        clear a1 a2 a3 b1 b2 b3 m1 m2 m3 n1 n2 n3 hg2 hgd hcall
        cases B
        · go_wp2
          go_ret
          exact ⟨ret_bool (by rw [hN.out (by simp)]), hG⟩
        · go_wp2
          go_roundw
          case rel => exact ⟨i + 1, by omega, by go_num, hS.out (by simp), hG⟩
          case measure => simp [intOf]; omega
      · obtain rfl : i = n := by omega
        have hd : decide ((i : Int) < (i : Int)) = false := by simp
        have hE : Hid (sameAllB l k = true) := by
          have h9 := hp.out
          rw [List.take_of_length_le (by omega), List.take_of_length_le (by omega)] at h9
          exact (decide_eq_true h9 : _)
        go_wp2
        go_ret
        exact ⟨ret_bool (by rw [hE.out]), hg⟩
  · have hne : ((n : Int) != (m : Int)) = true := by simp; omega
    have hE : Hid (sameAllB l k = false) := same_len (by omega)
    go_enter Tryz.func43, Tryz.ntmps43
    go_wp2
    go_ret
    exact ⟨ret_bool (by rw [hE.out]), grown_refl _ _⟩
/-- More than is worked out in a statement. -/
def largeB (most : Nat) (l : List Rc) : Bool := decide (most < l.length) || l.any fun r => decide (9000 < r.kn) || decide (9000 < r.vn)
set_option maxRecDepth 100000 in
set_option maxHeartbeats 2000000 in
theorem large_any (w : World) (most : Nat) (ao : Option Addr) (n cap : Nat) (l : List Rc) (ha : Rs w ao n cap l) :
    Calls Tryz.prog 38 #[.int .i64 most, .slice ao n cap] w fun e w' => e = .returned (.bool (largeB most l)) ∧ w' = w := by
  have hl1 := ha.len
  have ht1 := Nat.le_trans ha.room ha.top
  by_cases hbig : most < n
  · have hE : Hid (largeB most l = true) := by show _ = _; unfold largeB; simp [hl1, hbig]
    go_enter Tryz.func38, Tryz.ntmps38
    go_wp2
    go_ret
    exact ⟨ret_bool (by rw [hE.out]), rfl⟩
  · go_enter Tryz.func38, Tryz.ntmps38
    go_wp2_with fail
    go_loop [5] (fun i' => ∃ i : Nat, i ≤ n ∧ i' = .int .i64 i ∧ Hid (((l.take i).any fun r => decide (9000 < r.kn) || decide (9000 < r.vn)) = false)) (fun i' => n - (intOf i').toNat)
    case atStart => exact ⟨0, Nat.zero_le _, rfl, (by simp : ((l.take 0).any fun r => decide (9000 < r.kn) || decide (9000 < r.vn)) = false)⟩
    case round =>
      obtain ⟨i, hi, rfl, hp⟩ := hrel
      by_cases hlt : i < n
      · obtain ⟨b, o, rfl, hbl⟩ := ha.addr (by omega)
        have h1 : i < l.length := by omega
        obtain ⟨a1, a2, a3, ak⟩ := ha.at h1
        have hd : decide ((i : Int) < (n : Int)) = true := by simp; omega
        have hY : Hid (9000 < (l[i]).kn ∨ 9000 < (l[i]).vn → largeB most l = true) := fun h => by
          unfold largeB
          rw [Bool.or_eq_true]
          right
          rw [List.any_eq_true]
          exact ⟨l[i], List.getElem_mem h1, by rcases h with h | h <;> simp [h]⟩
        have hS : Hid (¬ 9000 < (l[i]).kn → ¬ 9000 < (l[i]).vn → ((l.take (i + 1)).any fun r => decide (9000 < r.kn) || decide (9000 < r.vn)) = false) := fun g1 g2 => by
          rw [List.take_succ_eq_append_getElem h1, List.any_append, hp.out]
          simp; omega
        have hkr := ak.key.room
        have hvr := ak.value.room
        have hkb := ak.kb
        have hvb := ak.vb
        clear hp ak a1
        generalize l[i] = x at *
        by_cases hk : 9000 < x.kn
        · have hkd : decide (9000 < x.kn) = true := by simpa using hk
          go_wp2
          go_ret
          exact ⟨ret_bool (by rw [hY.out (Or.inl hk)]), rfl⟩
        · have hkd : decide (9000 < x.kn) = false := by simpa using hk
          by_cases hv : 9000 < x.vn
          · have hvd : decide (9000 < x.vn) = true := by simpa using hv
            go_wp2
            go_ret
            exact ⟨ret_bool (by rw [hY.out (Or.inr hv)]), rfl⟩
          · have hvd : decide (9000 < x.vn) = false := by simpa using hv
            go_wp2
            go_round
            case rel => exact ⟨i + 1, by omega, by go_num, hS.out hk hv⟩
            case measure => simp [intOf]; omega
      · obtain rfl : i = n := by omega
        have hd : decide ((i : Int) < (i : Int)) = false := by simp
        have hE : Hid (largeB most l = false) := by
          have h9 := hp.out
          rw [List.take_of_length_le (by omega)] at h9
          show _ = _
          unfold largeB
          rw [h9]
          simp; omega
        go_wp2
        go_ret
        exact ⟨ret_bool (by rw [hE.out]), rfl⟩
end Go.Proofs.YtlghcboenkglnaaGreatDoor.Rec
