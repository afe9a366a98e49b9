/-
  Records in memory, and the walks of the small functions on them: May, Size, Same, SameAll, the document's too.
-/
import Derived.Test.YtlfgikhjcimppabA2
import Derived.Test.YtlfgikhjcimppabC1
import Derived.Deep.QuietTactic
import Derived.BigQuiet
namespace Go.Proofs.Ytlfgikhjcimppab
open Go.RowKit
set_option linter.unusedVariables false

/-- What a record is: time, key, value. -/
abbrev Dr := Int × List UInt8 × List UInt8
/-- A record as it lies: its time, the heads of key and value, and the bytes that these show. -/
structure Rc where
  t : Int
  ko : Option Addr
  kn : Nat
  kc : Nat
  k : List UInt8
  vo : Option Addr
  vn : Nat
  vc : Nat
  v : List UInt8
def Rc.d (r : Rc) : Dr := (r.t, r.k, r.v)
structure Rk (w : World) (r : Rc) : Prop where
  low : -9223372036854775808 ≤ r.t
  high : r.t < 9223372036854775808
  key : Bs w r.ko r.kn r.kc r.k
  value : Bs w r.vo r.vn r.vc r.v
  kb : r.kn ≤ 140737488355328
  vb : r.vn ≤ 140737488355328
theorem Rk.grown {w w' : World} {r : Rc} (h : Rk w r) (hg : w.grownBy w' none) : Rk w' r := ⟨h.low, h.high, h.key.grown hg, h.value.grown hg, h.kb, h.vb⟩
/-- A slice of records. -/
structure Rs (w : World) (ao : Option Addr) (n cap : Nat) (l : List Rc) : Prop where
  len : l.length = n
  room : n ≤ cap
  top : cap ≤ 9223372036854775807
  nil : ao = none → cap = 0
  place : ∀ a, ao = some a → 0 < n → ∃ b o, a = ⟨b, o, none⟩ ∧ b < w.heap.size
  cells : ∀ b o, ao = some ⟨b, o, none⟩ → ∀ j r, l[j]? = some r → w.cell? ⟨b, o + j * 3, none⟩ = some (.int .i64 r.t) ∧ w.cell? ⟨b, o + j * 3 + 1, none⟩ = some (.slice r.ko r.kn r.kc) ∧ w.cell? ⟨b, o + j * 3 + 2, none⟩ = some (.slice r.vo r.vn r.vc)
  shows : ∀ r ∈ l, Rk w r
theorem Rs.grown {w w' : World} {ao : Option Addr} {n cap : Nat} {l : List Rc} (h : Rs w ao n cap l) (hg : w.grownBy w' none) : Rs w' ao n cap l :=
  ⟨h.len, h.room, h.top, h.nil, fun a ha hn => by obtain ⟨b, o, e, hb⟩ := h.place a ha hn; exact ⟨b, o, e, Nat.lt_of_lt_of_le hb hg.size⟩,
    fun b o ha j r hr => by obtain ⟨h1, h2, h3⟩ := h.cells b o ha j r hr; exact ⟨hg.cell h1 (by simp), hg.cell h2 (by simp), hg.cell h3 (by simp)⟩, fun r hr => (h.shows r hr).grown hg⟩
theorem Rs.addr {w : World} {ao : Option Addr} {n cap : Nat} {l : List Rc} (h : Rs w ao n cap l) (hn : 0 < n) : ∃ b o, ao = some ⟨b, o, none⟩ ∧ b < w.heap.size := by
  cases ao with
  | none => have := h.nil rfl; have := h.room; omega
  | some a => obtain ⟨b, o, rfl, hb⟩ := h.place a rfl hn; exact ⟨b, o, rfl, hb⟩
/-- May the record be? -/
def mayB (t : Int) (kn vn : Nat) : Bool := decide (0 ≤ t) && (decide (t ≤ 9007199254740992) && (decide (kn ≤ 256) && decide (vn ≤ 4096)))
theorem ret_bool {a b : Bool} (h : a = b) : Ending.returned (.bool a) = .returned (.bool b) := by rw [h]
set_option maxRecDepth 100000 in
set_option maxHeartbeats 1000000 in
theorem may_any (w : World) (r : Rc) (hk : Rk w r) :
    Calls Try.prog 14 #[.agg #[.int .i64 r.t, .slice r.ko r.kn r.kc, .slice r.vo r.vn r.vc]] w fun e w' => e = .returned (.bool (mayB r.t r.kn r.vn)) ∧ w.grownBy w' none := by
  by_cases h1 : 0 ≤ r.t
  · by_cases h2 : r.t ≤ 9007199254740992
    · by_cases h3 : r.kn ≤ 256
      · have hM : Hid (mayB r.t r.kn r.vn = decide (r.vn ≤ 4096)) := by show _ = _; simp [mayB, h1, h2, h3]
        go_enter Try.func14, Try.ntmps14
        go_wp2
        go_ret
        exact ⟨ret_bool (by rw [hM.out]; exact decide_eq_decide.2 (by omega)), alloc_grown _ _⟩
      · have hM : Hid (mayB r.t r.kn r.vn = false) := by show _ = _; simp [mayB, h3]
        go_enter Try.func14, Try.ntmps14
        go_wp2
        go_ret
        exact ⟨ret_bool (by rw [hM.out]), alloc_grown _ _⟩
    · have hM : Hid (mayB r.t r.kn r.vn = false) := by show _ = _; simp [mayB, h2]
      go_enter Try.func14, Try.ntmps14
      go_wp2
      go_ret
      exact ⟨ret_bool (by rw [hM.out]), alloc_grown _ _⟩
  · have hM : Hid (mayB r.t r.kn r.vn = false) := by show _ = _; simp [mayB, h1]
    go_enter Try.func14, Try.ntmps14
    go_wp2
    go_ret
    exact ⟨ret_bool (by rw [hM.out]), alloc_grown _ _⟩
set_option maxHeartbeats 1000000 in
theorem size_any (w : World) (r : Rc) (hk : Rk w r) :
    Calls Try.prog 8 #[.agg #[.int .i64 r.t, .slice r.ko r.kn r.kc, .slice r.vo r.vn r.vc]] w fun e w' => e = .returned (.int .i64 (12 + r.kn + r.vn : Nat)) ∧ w.grownBy w' none := by
  have h1 := hk.key.room
  have h2 := hk.kb
  have h3 := hk.value.room
  have h4 := hk.vb
  go_enter Try.func8, Try.ntmps8
  go_wp2
  go_ret
  exact ⟨ret_int (by push_cast; rfl), alloc_grown _ _⟩
/-- Are two records the same? -/
def sameB (a b : Rc) : Bool := decide (a.t = b.t) && ((a.k == b.k) && (a.v == b.v))
/-- The same, by their parts. -/
def sameL (t u : Int) (k k2 v v2 : List UInt8) : Bool := decide (t = u) && ((k == k2) && (v == v2))
set_option maxRecDepth 100000 in
set_option maxHeartbeats 2000000 in
theorem rsame_any_raw (w : World) (t u : Int) (ko vo lo xo : Option Addr) (kn kc vn vc ln lc xn xc : Nat) (k v k2 v2 : List UInt8) (h1 : Bs w ko kn kc k) (h2 : Bs w vo vn vc v) (h3 : Bs w lo ln lc k2) (h4 : Bs w xo xn xc v2) :
    Calls Try.prog 35 #[.agg #[.int .i64 t, .slice ko kn kc, .slice vo vn vc], .agg #[.int .i64 u, .slice lo ln lc, .slice xo xn xc]] w fun e w' => e = .returned (.bool (sameL t u k k2 v v2)) ∧ w.grownBy w' none := by
  have hK : ∀ W, w.grownBy W none → Calls Try.prog 49 #[.slice ko kn kc, .slice lo ln lc] W fun e w' => e = .returned (.bool (k == k2)) ∧ w' = W := fun W hg => bytes_any W _ _ _ _ _ _ _ _ (h1.grown hg) (h3.grown hg)
  have hV : ∀ W, w.grownBy W none → Calls Try.prog 49 #[.slice vo vn vc, .slice xo xn xc] W fun e w' => e = .returned (.bool (v == v2)) ∧ w' = W := fun W hg => bytes_any W _ _ _ _ _ _ _ _ (h2.grown hg) (h4.grown hg)
  have hM : Hid (sameL t u k k2 v v2 = (decide (t = u) && ((k == k2) && (v == v2)))) := rfl
  clear h1 h2 h3 h4
  generalize (k == k2) = A at *
  generalize (v == v2) = B at *
  have hg2 : ∀ x y, w.grownBy ((w.alloc x).alloc y) none := fun x y => grown_trans (alloc_grown _ _) (alloc_grown _ _) (by simp)
  cases A <;> cases B
  all_goals
    go_enter Try.func35, Try.ntmps35
    go_wp2_with fail
    refine (hK _ (hg2 _ _)).mono ?_
    rintro e w' ⟨rfl, rfl⟩
    go_wp2_with fail
    refine (hV _ (hg2 _ _)).mono ?_
    rintro e w' ⟨rfl, rfl⟩
    go_wp2
    go_ret
    exact ⟨ret_bool (by rw [hM.out]; by_cases h9 : t = u <;> simp [h9]), hg2 _ _⟩
theorem rsame_any (w : World) (r q : Rc) (hr : Rk w r) (hq : Rk w q) :
    Calls Try.prog 35 #[.agg #[.int .i64 r.t, .slice r.ko r.kn r.kc, .slice r.vo r.vn r.vc], .agg #[.int .i64 q.t, .slice q.ko q.kn q.kc, .slice q.vo q.vn q.vc]] w fun e w' => e = .returned (.bool (sameB r q)) ∧ w.grownBy w' none :=
  rsame_any_raw w _ _ _ _ _ _ _ _ _ _ _ _ _ _ _ _ _ _ hr.key hr.value hq.key hq.value
end Go.Proofs.Ytlfgikhjcimppab
