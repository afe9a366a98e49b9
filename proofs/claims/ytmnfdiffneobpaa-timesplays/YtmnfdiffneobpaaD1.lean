/-
  Put: records, what they leave of rises; record.May, Put.
-/
import Derived.Test.YtmnfdiffneobpaaE3
import Derived.Deep.RegionHeld3
namespace Go.Proofs.Ytmnfdiffneobpaa
open Go.RowKit Go.Shelf
set_option linter.unusedVariables false


/-- A record as it lies: its time, the heads of key and value. -/
structure Rc where
  t : Int
  ko : Option Addr
  kn : Nat
  kc : Nat
  vo : Option Addr
  vn : Nat
  vc : Nat
def Rc.val (r : Rc) : Value := .agg #[.int .i64 r.t, .slice r.ko r.kn r.kc, .slice r.vo r.vn r.vc]
/-- A slice of records. -/
structure Rs (w : World) (so : Option Addr) (n : Nat) (l : List Rc) : Prop where
  len : l.length = n
  pl : 0 < n → ∃ g o, so = some ⟨g, o, none⟩ ∧ ∀ j r, l[j]? = some r → w.cell? ⟨g, o + j * 3, none⟩ = some (.int .i64 r.t) ∧ w.cell? ⟨g, o + j * 3 + 1, none⟩ = some (.slice r.ko r.kn r.kc) ∧ w.cell? ⟨g, o + j * 3 + 2, none⟩ = some (.slice r.vo r.vn r.vc)
/-- The block of a slice. -/
theorem Rs.chg {w w' : World} {so : Option Addr} {n : Nat} {l : List Rc} {S : Nat → Prop} (h : Rs w so n l) (hc : Chg w w' S) (hs : ∀ k, blk so = some k → ¬ S k) : Rs w' so n l :=
  ⟨h.len, fun hn => by
    obtain ⟨g, o, rfl, h2⟩ := h.pl hn
    exact ⟨g, o, rfl, fun j r hr => by
      obtain ⟨h3, h4, h5⟩ := h2 j r hr
      exact ⟨hc.cell h3 (hs g rfl), hc.cell h4 (hs g rfl), hc.cell h5 (hs g rfl)⟩⟩⟩
theorem Rs.grown {w w' : World} {so : Option Addr} {n : Nat} {l : List Rc} (h : Rs w so n l) (hg : w.grownBy w' none) : Rs w' so n l := h.chg (Chg.of_grown hg (fun _ => False)) (fun _ _ e => e)
/-- May the record be? -/
def Rc.may (r : Rc) : Bool := decide (0 ≤ r.t) && (decide (r.t ≤ 9007199254740992) && (decide (r.kn ≤ 256) && decide (r.vn ≤ 4096)))
theorem ret_bool {a b : Bool} (h : a = b) : Ending.returned (.bool a) = .returned (.bool b) := by rw [h]

set_option maxRecDepth 100000 in
set_option maxHeartbeats 1000000 in
theorem may_any (w : World) (r : Rc) : Calls Try.prog 54 #[r.val] w fun e w' => e = .returned (.bool r.may) ∧ w.grownBy w' none := by
  unfold Rc.val
  by_cases h1 : 0 ≤ r.t
  · by_cases h2 : r.t ≤ 9007199254740992
    · by_cases h3 : r.kn ≤ 256
      · have hM : Hid (r.may = decide (r.vn ≤ 4096)) := by show _ = _; simp [Rc.may, h1, h2, h3]
        go_enter Try.func54, Try.ntmps54
        go_wp2
        go_ret
        exact ⟨ret_bool (by rw [hM.out]; exact decide_eq_decide.2 (by omega)), alloc_grown _ _⟩
      · have hM : Hid (r.may = false) := by show _ = _; simp [Rc.may, h3]
        go_enter Try.func54, Try.ntmps54
        go_wp2
        go_ret
        exact ⟨ret_bool (by rw [hM.out]), alloc_grown _ _⟩
    · have hM : Hid (r.may = false) := by show _ = _; simp [Rc.may, h2]
      go_enter Try.func54, Try.ntmps54
      go_wp2
      go_ret
      exact ⟨ret_bool (by rw [hM.out]), alloc_grown _ _⟩
  · have hM : Hid (r.may = false) := by show _ = _; simp [Rc.may, h1]
    go_enter Try.func54, Try.ntmps54
    go_wp2
    go_ret
    exact ⟨ret_bool (by rw [hM.out]), alloc_grown _ _⟩

set_option maxRecDepth 100000 in
set_option maxHeartbeats 1000000 in
theorem rmay_any (w : World) (r : Rc) : Calls Try.prog 53 #[r.val] w fun e w' => e = .returned (.bool r.may) ∧ w.grownBy w' none := by
  unfold Rc.val
  by_cases h1 : 0 ≤ r.t
  · by_cases h2 : r.t ≤ 9007199254740992
    · by_cases h3 : r.kn ≤ 256
      · have hM : Hid (r.may = decide (r.vn ≤ 4096)) := by show _ = _; simp [Rc.may, h1, h2, h3]
        go_enter Try.func53, Try.ntmps53
        go_wp2
        go_ret
        exact ⟨ret_bool (by rw [hM.out]; exact decide_eq_decide.2 (by omega)), alloc_grown _ _⟩
      · have hM : Hid (r.may = false) := by show _ = _; simp [Rc.may, h3]
        go_enter Try.func53, Try.ntmps53
        go_wp2
        go_ret
        exact ⟨ret_bool (by rw [hM.out]), alloc_grown _ _⟩
    · have hM : Hid (r.may = false) := by show _ = _; simp [Rc.may, h2]
      go_enter Try.func53, Try.ntmps53
      go_wp2
      go_ret
      exact ⟨ret_bool (by rw [hM.out]), alloc_grown _ _⟩
  · have hM : Hid (r.may = false) := by show _ = _; simp [Rc.may, h1]
    go_enter Try.func53, Try.ntmps53
    go_wp2
    go_ret
    exact ⟨ret_bool (by rw [hM.out]), alloc_grown _ _⟩

/-- The greatest of a number and of times. -/
def topT : Int → List Int → Int
  | m, [] => m
  | m, t :: r => topT (if m < t then t else m) r
theorem topT_snoc (m : Int) (l : List Int) (t : Int) : topT m (l ++ [t]) = if topT m l < t then t else topT m l := by
  induction l generalizing m with
  | nil => rfl
  | cons a r ih => exact ih _
/-- The rises of times behind a greatest one, from an offset on. -/
def riseL : Int → Int → List Int → List Sd
  | _, _, [] => []
  | m, a, t :: r => if m < t then ⟨a, t⟩ :: riseL t (a + 1) r else riseL m (a + 1) r
theorem riseL_snoc (m a : Int) (l : List Int) (t : Int) : riseL m a (l ++ [t]) = riseL m a l ++ if topT m l < t then [⟨a + (l.length : Int), t⟩] else [] := by
  induction l generalizing m a with
  | nil => simp [riseL, topT]
  | cons b r ih =>
    have e1 : a + 1 + (r.length : Int) = a + ((r.length + 1 : Nat) : Int) := by omega
    by_cases h : m < b
    · simp only [List.cons_append, riseL, if_pos h, topT, ih, List.length_cons, e1]
    · simp only [List.cons_append, riseL, if_neg h, topT, ih, List.length_cons, e1]
theorem riseL_len (m a : Int) (l : List Int) : (riseL m a l).length ≤ l.length := by
  induction l generalizing m a with
  | nil => simp [riseL]
  | cons b r ih =>
    simp only [riseL]
    split
    · have := ih b (a + 1); simp; omega
    · have := ih m (a + 1); simp; omega
/-- What Put answers, and leaves: its end, its rises. -/
def putR (en : Int) (l : List Sd) (ts : List Int) : Int × Int × List Sd :=
  if 65536 < (l ++ riseL (topR l) en ts).length ∨ 9007199254740993 < en + (ts.length : Int) then (3, en, l) else (0, en + (ts.length : Int), l ++ riseL (topR l) en ts)
/-- A row is the old one, or fresh. -/
def Near (w : World) (ro : Option Addr) (rc : Nat) (ro' : Option Addr) (rc' : Nat) : Prop := (ro' = ro ∧ rc' = rc) ∨ ∀ k, blk ro' = some k → w.heap.size ≤ k

section
variable {w w' : World} {b : Nat} {bs en : Int} {ro : Option Addr} {rc : Nat} {l : List Sd}
theorem Sw.grown {base n cap : Nat} {ao : Option Addr} (h : Sw w base ao n cap l) (hg : w.grownBy w' none) : Sw w' base ao n cap l := h.chg (Chg.of_grown hg (fun _ => False)) (fun _ _ e => e)

set_option maxRecDepth 100000 in
set_option maxHeartbeats 4000000 in
theorem put_any (h : Xd w b ro rc bs en l) (he0 : 0 ≤ en) (he1 : en ≤ 9007199254740993) (so : Option Addr) (n sc : Nat) (rl : List Rc) (hR : Rs w so n rl) (hap : ∀ k, blk so = some k → blk ro ≠ some k) (hn : n ≤ 100000) (hmay : ∀ r ∈ rl, r.may = true) :
    Calls Try.prog 21 #[.pointer (some ⟨b, 0, none⟩), .slice so n sc] w fun e w' => ∃ ro' rc', e = .returned (.int .i64 (putR en l (rl.map Rc.t)).1) ∧ Xd w' b ro' rc' bs (putR en l (rl.map Rc.t)).2.1 (putR en l (rl.map Rc.t)).2.2 ∧ Near w ro rc ro' rc' ∧ Chg w w' (fun k => k = b ∨ blk ro = some k) := by
  have hlen := hR.len
  have hfew := h.few
  have hbl := h.lt
  have hrb := h.rb
  have hgb : Calls Try.prog 30 #[.pointer (some ⟨b, 0, none⟩)] w fun e w' => e = .returned (.bool true) ∧ w' = w := there_yes h.ix.c3
  go_enter Try.func21, Try.ntmps21
  go_wp2_with fail
  refine hgb.mono ?_
  rintro e w1 ⟨rfl, rfl⟩
  clear hgb
  go_wp2_with fail
  go_loopw [6, 16] (fun _ v16 wr => ∃ k : Nat, v16 = .int .i64 k ∧ k ≤ n ∧ w1.grownBy wr none) (fun _ v16 _ => n - (intOf v16).toNat)
  case atStart => exact ⟨0, rfl, Nat.zero_le _, grown_refl _ _⟩
  case round =>
    obtain ⟨k, rfl, hk, hg⟩ := hrel
    by_cases hlt : k < n
    · have d1 : decide ((k : Int) < (n : Int)) = true := by simp; omega
      have hRr := hR.grown hg
      obtain ⟨g, o, rfl, hcs⟩ := hRr.pl (by omega)
      obtain ⟨r, hr⟩ : ∃ r, rl[k]? = some r := ⟨_, List.getElem?_eq_getElem (by omega)⟩
      obtain ⟨c0, c1, c2⟩ := hcs k r hr
      have i1 : (0 : Int) ≤ (k : Int) := by omega
      have i2 : (k : Int) < (n : Int) := by omega
      have hm := hmay r (List.mem_of_getElem? hr)
      have ga := alloc_grown wr (.cells #[.int .i64 r.t, .slice r.ko r.kn r.kc, .slice r.vo r.vn r.vc] 57)
      have hma := may_any (wr.alloc (.cells #[.int .i64 r.t, .slice r.ko r.kn r.kc, .slice r.vo r.vn r.vc] 57)) r
      rw [hm] at hma
      unfold Rc.val at hma
      clear hcs hr hRr hm
      go_wp2_with fail
      refine hma.mono ?_
      rintro e w2 ⟨rfl, hg2⟩
      have hG := grown_trans (grown_trans hg ga (by simp)) hg2 (by simp)
      clear hma
      go_wp2
      go_roundw
      case rel => exact ⟨k + 1, by go_num, by omega, hG⟩
      case measure => simp [intOf]; omega
    · have d1 : decide ((k : Int) < (n : Int)) = false := by simp; omega
      have hXr := h.grown hg
      have c2 := hXr.ix.c2
      have hgr := greatest_any hXr
      have hgr' : Calls Try.prog 55 #[.pointer (some ⟨b, 0, none⟩)] wr.drew fun e w' => e = .returned (.int .i64 (topR l)) ∧ wr.drew.grownBy w' none := greatest_any (hXr.grown (grown_drew wr none))
      go_wp2_with fail
      have hS9 : ∀ V, wr.grownBy V none → (fun w' : World => w'.cell? ⟨b, 2, none⟩ = some (.slice ro l.length rc)) V := fun V hV => hV.cell c2 (by simp)
      refine wp_region_held_drew (S := fun w' : World => w'.cell? ⟨b, 2, none⟩ = some (.slice ro l.length rc)) (by kernel_rfl) (hS9 _ (grown_drew wr none)) (fun hHeld => ?_)
      refine wpAnyH_take (i := 0) (oi := { dst := some 24, op := Op.move (Operand.tmp 0), type := 27, pos := "times.go:47", after := #[], guard := none }) (v := ?_) rfl (by kernel_rfl) (by kernel_rfl) (by kernel_rfl) (fun _ _ _ h => h) (Or.inl ⟨by rfl, ?_⟩) (by assumption) ?_
      rotate_left
      · intro w hSw; (try dsimp only at hSw); go_simp
        try with_reducible rfl
      try simp only [Act.put, List.setIfInBounds_toArray, List.set_cons_zero, List.set_cons_succ]
      refine wpAnyH_take (i := 1) (oi := { dst := some 25, op := Op.nilCheck (Operand.tmp 24), type := 0, pos := "times.go:47", after := #[{ on := 0, ground := Ground.data }], guard := none }) (v := ?_) rfl (by kernel_rfl) (by kernel_rfl) (by kernel_rfl) (fun _ _ _ h => h) (Or.inl ⟨by rfl, ?_⟩) (by assumption) ?_
      rotate_left
      · intro w hSw; (try dsimp only at hSw); go_simp
        try with_reducible rfl
      try simp only [Act.put, List.setIfInBounds_toArray, List.set_cons_zero, List.set_cons_succ]
      refine wpAnyH_take (i := 2) (oi := { dst := some 26, op := Op.fieldAddr 70 (Operand.tmp 25) 2, type := 0, pos := "times.go:47", after := #[{ on := 1, ground := Ground.data }], guard := none }) (v := ?_) rfl (by kernel_rfl) (by kernel_rfl) (by kernel_rfl) (fun _ _ _ h => h) (Or.inl ⟨by rfl, ?_⟩) (by assumption) ?_
      rotate_left
      · intro w hSw; (try dsimp only at hSw); go_simp
        try with_reducible rfl
      try simp only [Act.put, List.setIfInBounds_toArray, List.set_cons_zero, List.set_cons_succ]
      refine wpAnyH_take (i := 3) (oi := { dst := some 27, op := Op.load 33 (Operand.tmp 26), type := 33, pos := "times.go:47", after := #[{ on := 2, ground := Ground.data }], guard := none }) (v := ?_) rfl (by kernel_rfl) (by kernel_rfl) (by kernel_rfl) (fun _ _ _ h => h) (Or.inl ⟨by rfl, ?_⟩) (by assumption) ?_
      rotate_left
      · intro w hSw; (try dsimp only at hSw); go_simp
        try with_reducible rfl
      try simp only [Act.put, List.setIfInBounds_toArray, List.set_cons_zero, List.set_cons_succ]
      refine wpAnyH_take (i := 4) (oi := { dst := some 28, op := Op.move (Operand.tmp 0), type := 27, pos := "times.go:47", after := #[], guard := none }) (v := ?_) rfl (by kernel_rfl) (by kernel_rfl) (by kernel_rfl) (fun _ _ _ h => h) (Or.inl ⟨by rfl, ?_⟩) (by assumption) ?_
      rotate_left
      · intro w hSw; (try dsimp only at hSw); go_simp
        try with_reducible rfl
      try simp only [Act.put, List.setIfInBounds_toArray, List.set_cons_zero, List.set_cons_succ]
      refine wpAnyH_ready (rs := [5]) (by kernel_rfl) (by simp) ?_
      refine AllReadyH.cons (o := { dst := some 29, op := Op.call { callee := Callee.value (Operand.func 55), args := #[Operand.tmp 28], argTypes := #[27] }, type := 2, pos := "times.go:47", after := #[{ on := 4, ground := Ground.data }], guard := none }) rfl (fun K hK => ?_) (AllReadyH.nil)
      go_simp
      go_at_call 55
      refine hgr'.mono ?_
      rintro e w3 ⟨rfl, hg3⟩
      have hG3 := grown_trans (grown_drew wr none) hg3 (by simp)
      try go_simp
      refine hK.out _ _ (hS9 _ hG3) (fun hHeld => ?_)
      clear hK K
      try simp only [Act.put, List.setIfInBounds_toArray, List.set_cons_zero, List.set_cons_succ]
      refine wpAnyH_take (i := 6) (oi := { dst := some 7, op := Op.assign (Operand.tmp 27), type := 33, pos := "times.go:47", after := #[{ on := 3, ground := Ground.data }, { on := 5, ground := Ground.chain }, { on := 0, ground := Ground.phase }, { on := 1, ground := Ground.phase }, { on := 2, ground := Ground.phase }, { on := 3, ground := Ground.phase }, { on := 4, ground := Ground.textOnly Departure.lateStores }, { on := 5, ground := Ground.textOnly Departure.lateStoresUnsure }], guard := none }) (v := ?_) rfl (by kernel_rfl) (by kernel_rfl) (by kernel_rfl) (fun _ _ _ h => h) (Or.inl ⟨by rfl, ?_⟩) (by assumption) ?_
      rotate_left
      · intro w hSw; (try dsimp only at hSw); go_simp
        try with_reducible rfl
      try simp only [Act.put, List.setIfInBounds_toArray, List.set_cons_zero, List.set_cons_succ]
      refine wpAnyH_take (i := 7) (oi := { dst := some 8, op := Op.assign (Operand.tmp 29), type := 2, pos := "times.go:47", after := #[{ on := 5, ground := Ground.data }, { on := 6, ground := Ground.chain }, { on := 0, ground := Ground.phase }, { on := 1, ground := Ground.phase }, { on := 2, ground := Ground.phase }, { on := 3, ground := Ground.phase }, { on := 4, ground := Ground.phase }, { on := 5, ground := Ground.phase }, { on := 6, ground := Ground.phase }], guard := none }) (v := ?_) rfl (by kernel_rfl) (by kernel_rfl) (by kernel_rfl) (fun _ _ _ h => h) (Or.inl ⟨by rfl, ?_⟩) (by assumption) ?_
      rotate_left
      · intro w hSw; (try dsimp only at hSw); go_simp
        try with_reducible rfl
      try simp only [Act.put, List.setIfInBounds_toArray, List.set_cons_zero, List.set_cons_succ]
      refine wpAnyH_done (by kernel_rfl) ?_ _
      have hG4 := grown_trans hg hG3 (by simp)
      have hX3 := h.grown hG4
      have hR3 := hR.grown hG4
      clear hHeld hS9 hgr' hgr hXr c2 hG3 hg3 hg
      go_wp2_with fail
      go_loopw [7, 8, 9, 10, 32] (fun v7 v8 _ _ v32 wr => ∃ (k N : Nat) (po : Option Addr) (pc : Nat), v32 = .int .i64 k ∧ k ≤ n ∧ v8 = .int .i64 (topT (topR l) ((rl.map Rc.t).take k)) ∧ v7 = .slice po N pc ∧ Sw wr 0 po N pc (l ++ riseL (topR l) en ((rl.map Rc.t).take k)) ∧ Sw wr 0 ro l.length rc l ∧ Near w1 ro rc po pc ∧ Chg w1 wr (fun q => blk ro = some q)) (fun _ _ _ _ v32 _ => n - (intOf v32).toNat)
      case atStart =>
        exact ⟨0, l.length, ro, rc, rfl, Nat.zero_le _, rfl, rfl, by simpa [riseL] using hX3.sw, hX3.sw, .inl ⟨rfl, rfl⟩, Chg.of_grown hG4 _⟩
      case round =>
        obtain ⟨k, N, po, pc, rfl, hk, rfl, rfl, hpo, hro, hnear, hC⟩ := hrel
        have hNl := hpo.len
        have hpb : blk po ≠ some b := hpo.not64 (h.ix.chg hC hrb) (by decide)
        have hix := h.ix.chg hC hrb
        by_cases hlt : k < n
        · have d1 : decide ((k : Int) < (n : Int)) = true := by simp; omega
          have hRr := hR.chg hC (fun q hq e => hap q hq e)
          obtain ⟨g, o, rfl, hcs⟩ := hRr.pl (by omega)
          obtain ⟨r, hr⟩ : ∃ r, rl[k]? = some r := ⟨_, List.getElem?_eq_getElem (by omega)⟩
          obtain ⟨c0, c1, c2⟩ := hcs k r hr
          have i1 : (0 : Int) ≤ (k : Int) := by omega
          have i2 : (k : Int) < (n : Int) := by omega
          have hkm : k < (rl.map Rc.t).length := by simp; omega
          have htk : Hid ((rl.map Rc.t).take (k + 1) = (rl.map Rc.t).take k ++ [r.t]) := by
            show _ = _
            rw [List.take_succ_eq_append_getElem hkm, List.getElem_map]
            congr 3
            exact (List.getElem?_eq_some_iff.1 hr).2
          have hkl : Hid (((rl.map Rc.t).take k).length = k) := by show _ = _; rw [List.length_take]; omega
          have hrl := riseL_len (topR l) en ((rl.map Rc.t).take k)
          rw [hkl.out] at hrl
          have hLl : N ≤ 65536 + k := by rw [← hNl, List.length_append]; omega
          clear hNl
          have hts := topT_snoc (topR l) ((rl.map Rc.t).take k) r.t
          have hrs := riseL_snoc (topR l) en ((rl.map Rc.t).take k) r.t
          rw [hkl.out] at hrs
          rw [← htk.out] at hrs hts
          obtain ⟨tp, htp⟩ : ∃ tp, topT (topR l) ((rl.map Rc.t).take k) = tp := ⟨_, rfl⟩
          obtain ⟨Q, hQ⟩ : ∃ Q, riseL (topR l) en ((rl.map Rc.t).take k) = Q := ⟨_, rfl⟩
          rw [htp] at hts hrs ⊢
          rw [hQ] at hrs hpo
          have ga := alloc_grown wr (.cells #[.int .i64 r.t, .slice r.ko r.kn r.kc, .slice r.vo r.vn r.vc] 57)
          have hnew := World.alloc_heap_new wr (.cells #[.int .i64 r.t, .slice r.ko r.kn r.kc, .slice r.vo r.vn r.vc] 57)
          have n0 : (wr.alloc (.cells #[.int .i64 r.t, .slice r.ko r.kn r.kc, .slice r.vo r.vn r.vc] 57)).cell? ⟨wr.heap.size, 0, none⟩ = some (.int .i64 r.t) := cell_of hnew rfl
          clear hcs hr hRr hkm hrl htp hQ
          by_cases ht : tp < r.t
          · have d2 : decide (tp < r.t) = true := by simpa using ht
            rw [if_pos ht] at hts hrs
            have hHt : Hid _ := hts
            have hHr : Hid _ := hrs
            clear hts hrs ht
            have hx1 := (hix.chg (Chg.of_grown ga (fun _ => False)) (fun e => e)).c1
            have hpo2 := hpo.grown ga
            have hro2 := hro.grown ga
            have hwk : IntKind.i64.wrap (en + (k : Int)) = en + (k : Int) := by rw [IntWalk.i64_in _ (by omega)]
            have hpz : blk po ≠ some wr.heap.size := fun e => by have := (hpo.from_base _ e).2; omega
            have hwz : wr.heap.size < (wr.alloc (.cells #[.int .i64 r.t, .slice r.ko r.kn r.kc, .slice r.vo r.vn r.vc] 57)).heap.size := by simp
            have hC2 := hC.trans (Chg.of_grown ga (fun q => blk ro = some q))
            go_wp2_with fail
            obtain ⟨zr, hzr⟩ : ∃ z, wr.heap.size = z := ⟨_, rfl⟩
            rw [hzr] at n0 hpz hwz ⊢
            generalize wr.alloc (.cells #[.int .i64 r.t, .slice r.ko r.kn r.kc, .slice r.vo r.vn r.vc] 57) = wr2 at *
            have hSS : ∀ V, wr2.grownBy V none → (fun w' : World => w'.cell? ⟨b, 1, none⟩ = some (.int .i64 en) ∧ w'.cell? ⟨zr, 0, none⟩ = some (.int .i64 r.t)) V := fun V hV => ⟨hV.cell hx1 (by simp), hV.cell n0 (by simp)⟩
            have hS4 : ∀ V V2, wr2.grownBy V none → V.grownBy V2 (blk po) → (fun w' : World => w'.cell? ⟨b, 1, none⟩ = some (.int .i64 en) ∧ w'.cell? ⟨zr, 0, none⟩ = some (.int .i64 r.t)) V2 := fun V V2 hV hV2 => ⟨hV2.cell (hSS V hV).1 (fun e => hpb e.symm), hV2.cell (hSS V hV).2 (fun e => hpz e.symm)⟩
            refine wp_region_held_drew (S := fun w' : World => w'.cell? ⟨b, 1, none⟩ = some (.int .i64 en) ∧ w'.cell? ⟨zr, 0, none⟩ = some (.int .i64 r.t)) (by kernel_rfl) (hSS _ (grown_drew wr2 none)) (fun hHeld => ?_)
            refine wpAnyH_take (i := 0) (oi := { dst := some 43, op := Op.move (Operand.tmp 7), type := 33, pos := "times.go:51", after := #[], guard := none }) (v := ?_) rfl (by kernel_rfl) (by kernel_rfl) (by kernel_rfl) (fun _ _ _ h => h) (Or.inl ⟨by rfl, ?_⟩) (by assumption) ?_
            rotate_left
            · intro w hSw; (try dsimp only at hSw); go_simp
              try with_reducible rfl
            try simp only [Act.put, List.setIfInBounds_toArray, List.set_cons_zero, List.set_cons_succ]
            refine wpAnyH_take (i := 1) (oi := { dst := some 44, op := Op.move (Operand.tmp 0), type := 27, pos := "times.go:51", after := #[], guard := none }) (v := ?_) rfl (by kernel_rfl) (by kernel_rfl) (by kernel_rfl) (fun _ _ _ h => h) (Or.inl ⟨by rfl, ?_⟩) (by assumption) ?_
            rotate_left
            · intro w hSw; (try dsimp only at hSw); go_simp
              try with_reducible rfl
            try simp only [Act.put, List.setIfInBounds_toArray, List.set_cons_zero, List.set_cons_succ]
            refine wpAnyH_take (i := 2) (oi := { dst := some 45, op := Op.nilCheck (Operand.tmp 44), type := 0, pos := "times.go:51", after := #[{ on := 1, ground := Ground.data }], guard := none }) (v := ?_) rfl (by kernel_rfl) (by kernel_rfl) (by kernel_rfl) (fun _ _ _ h => h) (Or.inl ⟨by rfl, ?_⟩) (by assumption) ?_
            rotate_left
            · intro w hSw; (try dsimp only at hSw); go_simp
              try with_reducible rfl
            try simp only [Act.put, List.setIfInBounds_toArray, List.set_cons_zero, List.set_cons_succ]
            refine wpAnyH_take (i := 3) (oi := { dst := some 46, op := Op.fieldAddr 70 (Operand.tmp 45) 1, type := 0, pos := "times.go:51", after := #[{ on := 2, ground := Ground.data }], guard := none }) (v := ?_) rfl (by kernel_rfl) (by kernel_rfl) (by kernel_rfl) (fun _ _ _ h => h) (Or.inl ⟨by rfl, ?_⟩) (by assumption) ?_
            rotate_left
            · intro w hSw; (try dsimp only at hSw); go_simp
              try with_reducible rfl
            try simp only [Act.put, List.setIfInBounds_toArray, List.set_cons_zero, List.set_cons_succ]
            refine wpAnyH_take (i := 4) (oi := { dst := some 47, op := Op.load 2 (Operand.tmp 46), type := 2, pos := "times.go:51", after := #[{ on := 3, ground := Ground.data }], guard := none }) (v := ?_) rfl (by kernel_rfl) (by kernel_rfl) (by kernel_rfl) (fun _ _ _ h => h) (Or.inl ⟨by rfl, ?_⟩) (by assumption) ?_
            rotate_left
            · intro w hSw; (try dsimp only at hSw); go_simp
              try with_reducible rfl
            try simp only [Act.put, List.setIfInBounds_toArray, List.set_cons_zero, List.set_cons_succ]
            refine wpAnyH_take (i := 5) (oi := { dst := some 48, op := Op.move (Operand.tmp 9), type := 3, pos := "times.go:51", after := #[], guard := none }) (v := ?_) rfl (by kernel_rfl) (by kernel_rfl) (by kernel_rfl) (fun _ _ _ h => h) (Or.inl ⟨by rfl, ?_⟩) (by assumption) ?_
            rotate_left
            · intro w hSw; (try dsimp only at hSw); go_simp
              try with_reducible rfl
            try simp only [Act.put, List.setIfInBounds_toArray, List.set_cons_zero, List.set_cons_succ]
            refine wpAnyH_take (i := 6) (oi := { dst := some 49, op := Op.binOp BinOp.add 2 (Operand.tmp 47) (Operand.tmp 48) 2, type := 2, pos := "times.go:51", after := #[{ on := 4, ground := Ground.data }, { on := 5, ground := Ground.data }], guard := none }) (v := ?_) rfl (by kernel_rfl) (by kernel_rfl) (by kernel_rfl) (fun _ _ _ h => h) (Or.inl ⟨by rfl, ?_⟩) (by assumption) ?_
            rotate_left
            · intro w hSw; (try dsimp only at hSw); go_simp
              try with_reducible rfl
            try simp only [Act.put, List.setIfInBounds_toArray, List.set_cons_zero, List.set_cons_succ]
            refine wpAnyH_take (i := 7) (oi := { dst := some 50, op := Op.fieldAddr 57 (Operand.tmp 10) 0, type := 0, pos := "times.go:51", after := #[], guard := none }) (v := ?_) rfl (by kernel_rfl) (by kernel_rfl) (by kernel_rfl) (fun _ _ _ h => h) (Or.inl ⟨by rfl, ?_⟩) (by assumption) ?_
            rotate_left
            · intro w hSw; (try dsimp only at hSw); go_simp
              try with_reducible rfl
            try simp only [Act.put, List.setIfInBounds_toArray, List.set_cons_zero, List.set_cons_succ]
            refine wpAnyH_take (i := 8) (oi := { dst := some 51, op := Op.load 2 (Operand.tmp 50), type := 2, pos := "times.go:51", after := #[{ on := 7, ground := Ground.data }], guard := none }) (v := ?_) rfl (by kernel_rfl) (by kernel_rfl) (by kernel_rfl) (fun _ _ _ h => h) (Or.inl ⟨by rfl, ?_⟩) (by assumption) ?_
            rotate_left
            · intro w hSw; (try dsimp only at hSw); go_simp
              try with_reducible rfl
            try simp only [Act.put, List.setIfInBounds_toArray, List.set_cons_zero, List.set_cons_succ]
            refine wpAnyH_take (i := 9) (oi := { dst := some 52, op := Op.build 64 #[(0, Operand.tmp 49), (1, Operand.tmp 51)], type := 64, pos := "times.go:51", after := #[{ on := 6, ground := Ground.data }, { on := 8, ground := Ground.data }], guard := none }) (v := ?_) rfl (by kernel_rfl) (by kernel_rfl) (by kernel_rfl) (fun _ _ _ h => h) (Or.inl ⟨by rfl, ?_⟩) (by assumption) ?_
            rotate_left
            · intro w hSw; (try dsimp only at hSw); go_simp
              try with_reducible rfl
            try simp only [Act.put, List.setIfInBounds_toArray, List.set_cons_zero, List.set_cons_succ]
            refine wpAnyH_ready (rs := [10]) (by kernel_rfl) (by simp) ?_
            refine AllReadyH.cons (o := { dst := some 53, op := Op.buildSlice 33 1 #[(0, Operand.tmp 52)], type := 33, pos := "times.go:51", after := #[{ on := 9, ground := Ground.data }], guard := none }) rfl (fun K hK => ?_) (AllReadyH.nil)
            go_simp
            have ga := alloc_grown wr2.drew (.cells #[.int .i64 (en + (k : Int)), .int .i64 r.t] 64)
            have kf := (Sb.new wr2.drew (en + (k : Int)) r.t).shows
            have hG3 := grown_trans (grown_drew wr2 none) ga (by simp)
            refine hK.out _ _ (hSS _ hG3) (fun hHeld => ?_)
            clear hK K
            try simp only [Act.put, List.setIfInBounds_toArray, List.set_cons_zero, List.set_cons_succ]
            refine wpAnyH_ready (rs := [11]) (by kernel_rfl) (by simp) ?_
            refine AllReadyH.cons (o := { dst := some 54, op := Op.call { callee := Callee.builtin Builtin.append, args := #[Operand.tmp 43, Operand.tmp 53], argTypes := #[33, 33] }, type := 33, pos := "times.go:51", after := #[{ on := 0, ground := Ground.data }, { on := 10, ground := Ground.data }], guard := none }) rfl (fun K hK => ?_) (AllReadyH.nil)
            refine step_append_sds (by rfl) (by rfl) (.tmp 43) (.tmp 53) (by rfl) 0 (by rfl) (hpo2.grown hG3) (by rfl) kf (by simp) (by omega) (Nat.zero_le _) ?_
            intro po' pc' w4 hs4 hg4 hat4 hold4
            refine hK.out _ _ (hS4 _ _ hG3 hg4) (fun hHeld => ?_)
            clear hK K
            try simp only [Act.put, List.setIfInBounds_toArray, List.set_cons_zero, List.set_cons_succ]
            refine wpAnyH_take (i := 12) (oi := { dst := some 7, op := Op.assign (Operand.tmp 54), type := 33, pos := "times.go:51", after := #[{ on := 11, ground := Ground.data }, { on := 11, ground := Ground.chain }, { on := 0, ground := Ground.phase }, { on := 1, ground := Ground.phase }, { on := 2, ground := Ground.phase }, { on := 3, ground := Ground.phase }, { on := 4, ground := Ground.phase }, { on := 5, ground := Ground.phase }, { on := 6, ground := Ground.phase }, { on := 7, ground := Ground.phase }, { on := 8, ground := Ground.phase }, { on := 9, ground := Ground.phase }, { on := 10, ground := Ground.phase }, { on := 11, ground := Ground.phase }], guard := none }) (v := ?_) rfl (by kernel_rfl) (by kernel_rfl) (by kernel_rfl) (fun _ _ _ h => h) (Or.inl ⟨by rfl, ?_⟩) (by assumption) ?_
            rotate_left
            · intro w hSw; (try dsimp only at hSw); go_simp
              try with_reducible rfl
            try simp only [Act.put, List.setIfInBounds_toArray, List.set_cons_zero, List.set_cons_succ]
            refine wpAnyH_done (by kernel_rfl) ?_ _
            have hS9 : Sw w4 0 ro l.length rc l := by
              rcases hnear with ⟨e1, e2⟩ | hf
              · have := hold4.pre
                rw [e1, e2] at this
                exact this
              · refine (hro2.grown hG3).chg (S := fun q => blk po = some q) ⟨hg4.os, hg4.tape, hg4.output, hg4.size, fun q hq hn => hg4.block q hq (fun e => hn e.symm)⟩ (fun q hq e => ?_)
                have := hf q e
                have := h.rlt q hq
                omega
            have hN9 : Near w1 ro rc po' pc' := by
              rcases hat4 with ⟨e1, e2⟩ | e
              · rw [e1, e2]; exact hnear
              · right
                intro q hq
                rw [e] at hq
                cases hq
                exact Nat.le_trans hC2.size hG3.size
            have hC9 : Chg w1 w4 (fun q => blk ro = some q) := by
              refine (hC2.trans (Chg.of_grown hG3 _)).then' (T := fun q => blk po = some q) ⟨hg4.os, hg4.tape, hg4.output, hg4.size, fun q hq hn => hg4.block q hq (fun e => hn e.symm)⟩ (fun q e => ?_)
              rcases hnear with ⟨e1, _⟩ | hf
              · left; rw [← e1]; exact e
              · right; exact hf q e
            rw [List.append_assoc] at hs4
            clear hHeld hSS hS4 hold4 hat4 hg4 hG3 hpo hpo2 hro hro2 hC hC2 hnear hx1 n0 kf ga
            go_wp2
            go_roundw
            case rel =>
              refine ⟨k + 1, N + 1, po', pc', by go_num, by omega, by rw [hHt.out], rfl, ?_, hS9, hN9, hC9⟩
              rw [hHr.out]
              exact hs4
            case measure => simp [intOf]; omega
          · have d2 : decide (tp < r.t) = false := by simpa using ht
            rw [if_neg ht] at hts hrs
            rw [List.append_nil] at hrs
            have hHt : Hid _ := hts
            have hHr : Hid _ := hrs
            clear hts hrs ht
            have hpo2 := hpo.grown ga
            have hro2 := hro.grown ga
            have hC2 := hC.trans (Chg.of_grown ga (fun q => blk ro = some q))
            go_wp2
            go_roundw
            case rel =>
              refine ⟨k + 1, N, po, pc, by go_num, by omega, by rw [hHt.out], rfl, ?_, hro2, hnear, hC2⟩
              rw [hHr.out]
              exact hpo2
            case measure => simp [intOf]; omega
        · obtain rfl : k = n := by omega
          have d1 : decide ((k : Int) < (k : Int)) = false := by simp
          have htk : (rl.map Rc.t).take k = rl.map Rc.t := List.take_of_length_le (by simp; omega)
          rw [htk] at hpo hNl
          clear htk
          have hml : (rl.map Rc.t).length = k := by simp; omega
          have c1 := hix.c1
          have hwk : IntKind.i64.wrap (en + (k : Int)) = en + (k : Int) := by rw [IntWalk.i64_in _ (by omega)]
          by_cases hbad : 65536 < N ∨ 9007199254740993 < en + (k : Int)
          · have hput : Hid (putR en l (rl.map Rc.t) = (3, en, l)) := by
              show _ = _
              unfold putR
              rw [hml, hNl, if_pos hbad]
            have hgw := grow_bad wr (.pointer (some ⟨b, 0, none⟩)) po N pc (en + (k : Int)) hbad
            have hX9 : Xd wr b ro rc bs en l := ⟨hix, hro, hfew⟩
            have hC9 : Chg w1 wr (fun q => q = b ∨ blk ro = some q) := hC.mono (fun q _ e => Or.inr e)
            have hNl' : Hid _ := hNl
            have hml' : Hid _ := hml
            clear hbad hNl hml
            go_wp2_with fail
            refine hgw.mono ?_
            rintro e w5 ⟨rfl, rfl⟩
            clear hgw
            go_wp2
            go_ret
            exact ⟨ro, rc, by rw [hput.out]; rfl, by rw [hput.out]; exact hX9, .inl ⟨rfl, rfl⟩, hC9⟩
          · have hput : Hid (putR en l (rl.map Rc.t) = (0, en + (k : Int), l ++ riseL (topR l) en (rl.map Rc.t))) := by
              show _ = _
              unfold putR
              rw [hml, hNl, if_neg hbad]
            have hgw := grow_ok l.length hix po N pc (en + (k : Int)) (by omega) (by omega)
            have hfew9 : N ≤ 65536 := by omega
            have hNl' : Hid _ := hNl
            have hml' : Hid _ := hml
            clear hbad hNl hml
            go_wp2_with fail
            refine hgw.mono ?_
            rintro e w5 ⟨rfl, hI5, hc5⟩
            have hX9 : Xd w5 b po pc bs (en + (k : Int)) (l ++ riseL (topR l) en (rl.map Rc.t)) := ⟨by rw [hNl'.out]; exact hI5, by rw [hNl'.out]; exact hpo.chg hc5 (fun q hq e => by subst e; exact hpb hq), by rw [hNl'.out]; exact hfew9⟩
            have hC9 : Chg w1 w5 (fun q => q = b ∨ blk ro = some q) := (hC.mono (fun q _ e => Or.inr e)).trans (hc5.mono (fun q _ e => Or.inl e))
            clear hgw
            go_wp2
            go_ret
            exact ⟨po, pc, by rw [hput.out]; rfl, by rw [hput.out]; exact hX9, hnear, hC9⟩
end
end Go.Proofs.Ytmnfdiffneobpaa
