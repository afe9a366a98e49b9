import Derived.Test.YtlghcboenkglnaaGreatDoorZav
import Derived.Test.YtlghcboenkglnaaGreatDoorZaa
import Derived.Test.YtlghcboenkglnaaGreatDoorRows
import Derived.Lib.Strings
import Derived.Lib.Slices
import Derived.Lib.Walk
import Derived.Lib.Bytealg
import Derived.Deep.QuietTactic
import Derived.BigQuiet
import Derived.Laws.IdiomStrings
/-
  Batches one behind the other: over bytes, and over the pieces in which they are read.
-/
namespace Go.Proofs.YtlghcboenkglnaaGreatDoor.Rec
open Go.Proofs.YtlghcboenkglnaaGreatDoor
open Go.RowKit
set_option linter.unusedVariables false

/-- From p on these batches stand, each with its size, base and records, and nothing behind them. -/
def Chn (B : List UInt8) : Nat → List (Nat × Int × List Dr) → Prop
  | p, [] => p = B.length
  | p, x :: Q => p + x.1 ≤ B.length ∧ extR (B.drop p) = (x.1, 0) ∧ Whole ((B.drop p).take x.1) x.1 ∧ x.2.1 = bAt ((B.drop p).take x.1) ∧ x.2.2.length = cAt ((B.drop p).take x.1) ∧ (∀ j d, x.2.2[j]? = some d → Says ((B.drop p).take x.1) (posAt ((B.drop p).take x.1) j) d) ∧ Chn B (p + x.1) Q
theorem Chn.le {B : List UInt8} : ∀ {p : Nat} {Q : List (Nat × Int × List Dr)}, Chn B p Q → p ≤ B.length
  | p, [], h => Nat.le_of_eq h
  | p, x :: Q, h => by have := h.1; omega
theorem ext_take {L : List UInt8} {S n : Nat} (h : extR L = (S, 0)) (hn : S ≤ n) : extR (L.take n) = (S, 0) := by
  obtain ⟨h1, h2, h3, h4⟩ := extR_ok h
  have e4 : (L.take n).take 4 = L.take 4 := by rw [List.take_take]; congr 1; omega
  have el : (L.take n).length = min n L.length := List.length_take
  unfold extR
  rw [e4, el, if_neg (by omega), if_neg (by omega), if_neg (by omega), if_neg (by omega)]
  rw [h4]
theorem ext_untake {L : List UInt8} {S n : Nat} (h : extR (L.take n) = (S, 0)) : extR L = (S, 0) ∧ S ≤ n := by
  obtain ⟨h1, h2, h3, h4⟩ := extR_ok h
  have el : (L.take n).length = min n L.length := List.length_take
  have e4 : (L.take n).take 4 = L.take 4 := by rw [List.take_take]; congr 1; omega
  rw [e4] at h4
  refine ⟨?_, by omega⟩
  unfold extR
  rw [if_neg (by omega), if_neg (by omega), if_neg (by omega), if_neg (by omega)]
  rw [h4]
theorem ext_nil {S : Nat} : extR [] ≠ (S, 0) := by
  unfold extR
  simp
theorem says_det {B : List UInt8} {i : Nat} {d d' : Dr} (h : Says B i d) (h' : Says B i d') : d = d' := by
  obtain ⟨a, b, c⟩ := d
  obtain ⟨a', b', c'⟩ := d'
  obtain ⟨h1, h2, h3⟩ := h
  obtain ⟨g1, g2, g3⟩ := h'
  simp only at h1 h2 h3 g1 g2 g3
  rw [h1, h2, h3, g1, g2, g3]
theorem says_all {B : List UInt8} {D D' : List Dr} (hl : D.length = D'.length) (h : ∀ j d, D[j]? = some d → Says B (posAt B j) d) (h' : ∀ j d, D'[j]? = some d → Says B (posAt B j) d) : D = D' := by
  apply List.ext_getElem hl
  intro j h1 h2
  exact says_det (h j _ (List.getElem?_eq_getElem h1)) (h' j _ (List.getElem?_eq_getElem h2))
/-- What Read finds at a place of a piece: a whole batch, the next one; or none, and then it is not the piece's beginning. -/
theorem piece_no {B : List UInt8} {nx a : Nat} {Q : List (Nat × Int × List Dr)} {C : Int} (hc : Chn B (nx + a) Q) (hlt : nx < B.length) (h : NoAt ((((B.drop nx).take 65536)).drop a) C) : 0 < a := by
  rcases Nat.eq_zero_or_pos a with rfl | h0
  · exfalso
    cases Q with
    | nil => have : nx + 0 = B.length := hc; omega
    | cons x Q =>
      obtain ⟨h1, h2, h3, _⟩ := hc
      simp only [Nat.add_zero, List.drop_zero] at h2 h3 h
      have h4 := extR_ok h2
      have h5 := ext_take h2 h4.2.1
      rcases h.2 with h6 | ⟨_, _, h6⟩
      · rw [h5] at h6
        exact h.1 h6.symm
      · rw [h5] at h6
        apply h6
        rw [List.take_take, Nat.min_eq_left h4.2.1]
        exact h3
  · exact h0
theorem piece_yes {B : List UInt8} {nx a S : Nat} {Q : List (Nat × Int × List Dr)} (hc : Chn B (nx + a) Q) (h : extR ((((B.drop nx).take 65536)).drop a) = (S, 0)) :
    ∃ x Q', Q = x :: Q' ∧ x.1 = S ∧ a + S ≤ 65536 ∧ ((((B.drop nx).take 65536)).drop a).take S = (B.drop (nx + a)).take S ∧ Chn B (nx + a + S) Q' := by
  have e1 : (((B.drop nx).take 65536)).drop a = (B.drop (nx + a)).take (65536 - a) := by rw [List.drop_take, List.drop_drop]
  rw [e1] at h ⊢
  obtain ⟨h1, h2⟩ := ext_untake h
  have h3 := extR_ok h1
  cases Q with
  | nil =>
    have h4 : nx + a = B.length := hc
    rw [h4, List.drop_length] at h1
    exact absurd h1 ext_nil
  | cons x Q =>
    obtain ⟨g1, g2, g3, g4, g5, g6, g7⟩ := hc
    rw [g2] at h1
    obtain rfl : x.1 = S := by cases h1; rfl
    exact ⟨x, Q, rfl, rfl, by omega, by rw [List.take_take, Nat.min_eq_left h2], g7⟩
end Go.Proofs.YtlghcboenkglnaaGreatDoor.Rec

/-
  What the names' functions ask of the library: the place of a byte in a string, a string cut at a hyphen.
-/
namespace Go.Proofs.YtlghcboenkglnaaGreatDoor
open Go.RowKit
set_option linter.unusedVariables false

set_option maxHeartbeats 1000000 in
set_option maxRecDepth 100000 in
theorem place15 (s : ByteArray) (c : Int) (w : World) : Calls Tryz.prog 127 #[.string s, .int .u8 c] w fun e w' => e = .returned (.int .i64 (Lib.indexByte s.data.toList c.toNat.toUInt8)) ∧ w' = w := by
  go_enter Tryz.func127, Tryz.ntmps127
  go_wp2
  rw [run_callFunc_extern Tryz.func153 (by kernel_rfl) (by kernel_rfl) (by kernel_rfl) (e := Extern.BytealgIndexByte.indexByte) (by kernel_rfl), Lib.run_indexByteString]
  simp only [Result.andThen]
  rw [Oper.upon_value]
  go_wp2
  go_ret
  exact ⟨rfl, rfl⟩

set_option maxHeartbeats 1000000 in
set_option maxRecDepth 100000 in
theorem place12 (s : ByteArray) (c : Int) (w : World) : Calls Tryz.prog 95 #[.string s, .int .u8 c] w fun e w' => e = .returned (.int .i64 (Lib.indexByte s.data.toList c.toNat.toUInt8)) ∧ w' = w := by
  go_enter Tryz.func95, Tryz.ntmps95
  go_wp2_with fail
  refine (place15 _ _ _).mono ?_
  rintro e w' ⟨rfl, rfl⟩
  go_wp2
  go_ret
  exact ⟨rfl, rfl⟩

set_option maxHeartbeats 2000000 in
set_option maxRecDepth 100000 in
theorem place18 (s : ByteArray) (c : UInt8) (w : World) : Calls Tryz.prog 152 #[.string s, .string ⟨#[c]⟩] w fun e w' => e = .returned (.int .i64 (Lib.indexByte s.data.toList c)) ∧ w' = w := by
  go_enter Tryz.func152, Tryz.ntmps152
  go_wp2_with (go_at_call 127; refine (place15 _ _ _).mono ?_; rintro e w' ⟨rfl, rfl⟩)
  · have h : ([c] == s.toList) = true := by assumption
    go_ret
    refine ⟨?_, rfl⟩
    have e : s.data.toList = [c] := by rw [← Lib.toList_data]; exact (beq_iff_eq.1 h).symm
    rw [e]
    simp [Lib.indexByte]
  · go_ret
    exact ⟨rfl, rfl⟩

theorem indexByte_lt (l : List UInt8) (c : UInt8) : Lib.indexByte l c < l.length := by
  induction l with
  | nil => simp [Lib.indexByte]
  | cons b t ih =>
    unfold Lib.indexByte
    split
    · simp
    · split
      · simp; omega
      · simp; omega

/-- What a string cut at the hyphen gives. -/
def CutA (s : ByteArray) (e : Ending) : Prop :=
  (∃ k : Nat, Lib.indexByte s.data.toList 45 = (k : Int) ∧ k < s.size ∧ e = .returned (.tuple #[.string (s.extract 0 k), .string (s.extract (k + 1) s.size), .bool true])) ∨
  (Lib.indexByte s.data.toList 45 = -1 ∧ e = .returned (.tuple #[.string s, .string ⟨#[]⟩, .bool false]))

set_option maxHeartbeats 2000000 in
set_option maxRecDepth 100000 in
theorem cut14 (s : ByteArray) (w : World) (hs : s.size ≤ maxLen) : Calls Tryz.prog 126 #[.string s, .string ⟨#[45]⟩] w fun e w' => CutA s e ∧ w.grownBy w' none := by
  have hlt := indexByte_lt s.data.toList 45
  have hge := Lib.indexByte_ge s.data.toList 45
  have hsz : s.data.toList.length = s.size := rfl
  rw [hsz] at hlt
  unfold maxLen at hs
  go_enter Tryz.func126, Tryz.ntmps126
  go_wp2_with fail
  refine (place18 _ _ _).mono ?_
  rintro e w1 ⟨rfl, rfl⟩
  obtain ⟨i, hi⟩ : ∃ i, Hid (Lib.indexByte s.data.toList 45 = i) := ⟨_, (rfl : _ = Lib.indexByte s.data.toList 45)⟩
  rw [hi.out] at hlt hge ⊢
  by_cases h : 0 ≤ i
  · obtain ⟨k, rfl⟩ := Int.eq_ofNat_of_zero_le h
    have hw : IntKind.i64.wrap ((k : Int) + 1) = (k : Int) + 1 := by rw [IntWalk.i64_in _ (by omega)]
    have i1 : (k : Int) ≤ (s.size : Int) := by omega
    have i2 : (k : Int) + 1 ≤ (s.size : Int) := by omega
    go_wp2_with fail
    go_quiet (fail)
    go_wp2
    go_ret3
    exact ⟨Or.inl ⟨k, hi.out, by omega, rfl⟩, grown_drewN _ _ none⟩
  · go_wp2
    go_ret3
    exact ⟨Or.inr ⟨by rw [hi.out]; omega, rfl⟩, grown_refl _ _⟩

set_option maxRecDepth 100000 in
theorem cut11 (s : ByteArray) (w : World) (hs : s.size ≤ maxLen) : Calls Tryz.prog 94 #[.string s, .string ⟨#[45]⟩] w fun e w' => CutA s e ∧ w.grownBy w' none := by
  go_enter Tryz.func94, Tryz.ntmps94
  go_wp2_with fail
  refine (cut14 s w hs).mono ?_
  rintro e w1 ⟨(⟨k, hk, hk2, rfl⟩ | ⟨hk, rfl⟩), hg⟩
  · go_wp2
    go_ret3
    exact ⟨Or.inl ⟨k, hk, hk2, rfl⟩, hg⟩
  · go_wp2
    go_ret3
    exact ⟨Or.inr ⟨hk, rfl⟩, hg⟩
end Go.Proofs.YtlghcboenkglnaaGreatDoor

/-
  What is a log's name: the program's answer and the document's.
-/
namespace Go.Proofs.YtlghcboenkglnaaGreatDoor
open Go.RowKit
set_option linter.unusedVariables false

/-- A letter; a log's name. -/
def okl (c : UInt8) : Bool := 97 ≤ c.toNat && c.toNat ≤ 122
def logB (s : ByteArray) : Bool := 1 ≤ s.size && s.size ≤ 8 && s.data.toList.all okl

theorem ba_take (s : ByteArray) (i : Nat) (h : i < s.size) : s.data.toList.take (i + 1) = s.data.toList.take i ++ [s[i]] := by
  rw [List.take_succ_eq_append_getElem (by simpa using h)]
  rfl
theorem ba_mem (s : ByteArray) (i : Nat) (h : i < s.size) : s[i] ∈ s.data.toList := by
  have : s.data.toList[i]? = some s[i] := by rw [List.getElem?_eq_getElem (by simpa using h)]; rfl
  exact List.mem_of_getElem? this

set_option maxRecDepth 100000 in
set_option maxHeartbeats 2000000 in
theorem isLog_any (w : World) (s : ByteArray) : Calls Tryz.prog 90 #[.string s] w fun e w' => e = .returned (.bool (logB s)) ∧ w' = w := by
  by_cases h1 : s.size < 1
  · have d1 : decide ((s.size : Int) < 1) = true := by simp; omega
    have hn : logB s = false := by unfold logB; simp; omega
    go_enter Tryz.func90, Tryz.ntmps90
    go_wp2
    go_ret
    exact ⟨congrArg (fun b => Ending.returned (.bool b)) hn.symm, rfl⟩
  · have d1 : decide ((s.size : Int) < 1) = false := by simp; omega
    by_cases h2 : 8 < s.size
    · have d2 : decide ((8 : Int) < (s.size : Int)) = true := by simp; omega
      have hn : logB s = false := by unfold logB; simp; omega
      go_enter Tryz.func90, Tryz.ntmps90
      go_wp2
      go_ret
      exact ⟨congrArg (fun b => Ending.returned (.bool b)) hn.symm, rfl⟩
    · have d2 : decide ((8 : Int) < (s.size : Int)) = false := by simp; omega
      go_enter Tryz.func90, Tryz.ntmps90
      go_wp2
      go_loop [2, 3, 14] (fun _ _ i' => ∃ i : Nat, i ≤ s.size ∧ i' = .int .i64 i ∧ Hid ((s.data.toList.take i).all okl = true)) (fun _ _ i' => s.size - (intOf i').toNat)
      case atStart => exact ⟨0, Nat.zero_le _, rfl, (rfl : _ = _)⟩
      case round =>
        obtain ⟨i, hi, rfl, hA⟩ := hrel
        by_cases hlt : i < s.size
        · have hd : decide ((i : Int) < (s.size : Int)) = true := by simp; omega
          have hi1 : (0 : Int) ≤ (i : Int) := by omega
          have hi2 : (i : Int) < (s.size : Int) := by omega
          have hgood : okl s[i] = true → Hid ((s.data.toList.take (i + 1)).all okl = true) := fun h => by
            show _ = _
            rw [ba_take s i hlt, List.all_append, hA.out]
            simp [h]
          have hbad : okl s[i] = false → logB s = false := fun h => by
            unfold logB
            have : s.data.toList.all okl = false := by
              rw [List.all_eq_false]
              exact ⟨s[i], ba_mem s i hlt, by simp [h]⟩
            rw [this]; simp
          obtain ⟨x, hx⟩ : ∃ x, s[i].toNat = x := ⟨_, rfl⟩
          rcases (by omega : (x < 97) ∨ (97 ≤ x ∧ x ≤ 122) ∨ (122 < x)) with hc | hc | hc
          · have d1 : decide ((s[i].toNat : Int) < 97) = true := by simp; omega
            replace hbad := hbad (by unfold okl; simp; omega)
            clear hgood hx
            go_wp2
            go_ret
            exact ⟨rfl, rfl⟩
          · have d1 : decide ((s[i].toNat : Int) < 97) = false := by simp; omega
            have d2 : decide ((122 : Int) < (s[i].toNat : Int)) = false := by simp; omega
            replace hgood := hgood (by unfold okl; simp; omega)
            clear hbad hx
            go_wp2
            go_round
            case rel => exact ⟨i + 1, by omega, by go_num, hgood⟩
            case measure => simp [intOf]; omega
          · have d1 : decide ((s[i].toNat : Int) < 97) = false := by simp; omega
            have d2 : decide ((122 : Int) < (s[i].toNat : Int)) = true := by simp; omega
            replace hbad := hbad (by unfold okl; simp; omega)
            clear hgood hx
            go_wp2
            go_ret
            exact ⟨rfl, rfl⟩
        · have hd : decide ((i : Int) < (s.size : Int)) = false := by simp; omega
          have hn : logB s = true := by
            have := hA.out
            rw [List.take_of_length_le (by have : s.data.toList.length = s.size := Array.length_toList; omega)] at this
            unfold logB
            rw [this]; simp; omega
          go_wp2
          go_ret
          exact ⟨rfl, rfl⟩

end Go.Proofs.YtlghcboenkglnaaGreatDoor

/-
  Name: the bytes of a segment's name.
-/
namespace Go.Proofs.YtlghcboenkglnaaGreatDoor
open Go.RowKit
set_option linter.unusedVariables false

/-- A row of bytes of the call's own; its mark, if it has one, lies behind its last cell. -/
structure Om (w : World) (base : Nat) (ao : Option Addr) (n cap : Nat) (l : List UInt8) : Prop where
  len : l.length = n
  room : n ≤ cap
  top : cap ≤ maxLen
  row : ∃ g cur fz, ao = some ⟨g, 0, none⟩ ∧ base ≤ g ∧ w.heap[g]? = some (.cells cur 5 fz) ∧ (fz.2 = 0 ∨ cap ≤ fz.1) ∧ cur.size = cap ∧ cur.toList.take n = l.map bv

theorem Om.shows {w : World} {base : Nat} {ao : Option Addr} {n cap : Nat} {l : List UInt8} (h : Om w base ao n cap l) : Bs w ao n cap l := by
  obtain ⟨g, cur, fz, rfl, hb, hg, hf, hs, ht⟩ := h.row
  refine ⟨h.len, h.room, h.top, (by simp), fun a ha j u hu => ?_⟩
  obtain rfl := Option.some.inj ha
  rw [Addr.add_lit, Nat.zero_add, cell_of_row w g j cur 5 fz hg]
  rw [← ht, List.getElem?_take] at hu
  split at hu
  · simpa using hu
  · cases hu
theorem Om.kept {w w' : World} {base : Nat} {ao : Option Addr} {n cap : Nat} {l : List UInt8} (h : Om w base ao n cap l) (hg : w.grownBy w' none) : Om w' base ao n cap l := by
  obtain ⟨g, cur, fz, rfl, hb, hgg, r⟩ := h.row
  exact ⟨h.len, h.room, h.top, g, cur, fz, rfl, hb, (hg.block g (Array.getElem?_eq_some_iff.1 hgg).1 (by simp)).trans hgg, r⟩

theorem info5 : (Tryz.prog.info? 5).map (fun i => (i.zero, i.size, i.bytes)) = some (some (.int .u8 0), 1, 1) := by kernel_rfl

theorem append_om (w : World) (base : Nat) (ao : Option Addr) (n cap : Nat) (l : List UInt8) (h : Om w base ao n cap l) (b : UInt8) (s : Nat) (hc : w.cell? ⟨s, 0, none⟩ = some (bv b)) (hn : n ≤ 1000) (hbase : base ≤ w.heap.size) :
    ∃ ao' cap' w', (Builtin.append_ #[48, 48] 48 #[.slice ao n cap, .slice (some ⟨s, 0, none⟩) 1 1]).run Tryz.prog w = .ok (.slice ao' (n + 1) cap') w' ∧ Om w' base ao' (n + 1) cap' (l ++ [b]) ∧ w.grownBy w' (blk ao) := by
  obtain ⟨i, hi, hz, hzs, hz2⟩ := info_parts info5
  have hlen := h.len
  have hroom0 := h.room
  have htop := h.top
  obtain ⟨g, cur, fz, rfl, hb, hg, hf, hs, ht⟩ := h.row
  have hnews : ∀ j u, [bv b][j]? = some u → w.cell? ((⟨s, 0, none⟩ : Addr).add j) = some u := fun j u hu => by
    rw [Addr.add_lit, Nat.zero_add]
    match j, hu with
    | 0, hu => cases hu; exact hc
  by_cases hr : n + 1 ≤ cap
  · have hi' : n < cur.size := by omega
    have hcell : w.cell? ⟨g, n, none⟩ = some cur[n] := by simp [World.cell?, hg, hi']
    have hfro : w.frozen? ⟨g, n, none⟩ = false := by
      obtain ⟨lo, hh⟩ := fz
      simp only [World.frozen?, hg, Bool.and_eq_false_iff, decide_eq_false_iff_not]
      simp only at hf
      omega
    have hst : (store (⟨g, n, none⟩ : Addr) (bv b)).run Tryz.prog w = .ok () (w.setRow g (cur.setIfInBounds n (bv b))) := by
      rw [run_store Tryz.prog w _ (bv b) _ rfl, hcell]
      simp [hfro, setCell_eq_setRow w g n cur 5 fz (bv b) hg]
    have hf1 := run_firstCells_some (P := Tryz.prog) w i.size 1 ⟨s, 0, none⟩ 1 1 [bv b] (by rw [hzs]; rfl) hnews
    have hsc : (storeCells (⟨g, n, none⟩ : Addr) [bv b] 0).run Tryz.prog w = .ok () (w.setRow g (cur.setIfInBounds n (bv b))) := by
      simp only [storeCells, Addr.add_lit, Nat.add_zero, Sem.run_bind, hst, Result.andThen_ok]
      rfl
    refine ⟨some ⟨g, 0, none⟩, cap, w.setRow g (cur.setIfInBounds n (bv b)), ?_, ⟨by simp [hlen], hr, htop, g, _, fz, rfl, hb, setRow_heap w g cur _ 5 _ hg, hf, by simpa using hs, ?_⟩, ⟨rfl, rfl, rfl, by simp, fun k _ hk => setRow_other w g k _ (fun e => hk (by simp [blk, e]))⟩⟩
    · rw [hzs] at hf1
      simp [Builtin.append_, run_underlying Tryz.underlying48, sizeOf, typeInfo, hi, Builtin.lenOf, hr, hzs, hf1, Addr.add_lit, hsc]
    · rw [Array.toList_setIfInBounds, List.take_succ_eq_append_getElem (by simp; omega)]
      simp [List.take_set_of_le, ht]
  · have holds : ∀ j u, (l.map bv)[j]? = some u → w.cell? ((⟨g, 0, none⟩ : Addr).add j) = some u := fun j u hu => h.shows.cells _ rfl j u hu
    have hgr := run_append_grow (P := Tryz.prog) w 48 48 5 i (.int .u8 0) Tryz.underlying48 hi hz ⟨g, 0, none⟩ n cap (l.map bv) (by rw [hzs]; simp [hlen]) holds ⟨s, 0, none⟩ 1 1 [bv b] (by rw [hzs]; rfl) hnews (by omega) (by omega) (growslice_fits (by omega) (by rw [hz2]; omega))
    have hge := grownCap_ge w (n + 1) cap 5
    have hcm2 : grownCap w (n + 1) cap 5 ≤ maxLen := grownCap_le_maxLen w (n + 1) cap 5 (by unfold maxLen; omega)
    refine ⟨_, _, _, hgr, ⟨by simp [hlen], hge, hcm2, w.heap.size, _, (0, 0), rfl, hbase, heap_alloc_new w.drew _, Or.inl rfl, ?_, ?_⟩, ⟨rfl, rfl, rfl, by simp, fun k hk _ => heap_alloc_old w.drew _ hk⟩⟩
    · simp only [Array.size_append, List.size_toArray, size_zeroCells, List.length_map, hlen, List.length_cons, List.length_nil]
      show n + 1 + (grownCap w (n + 1) cap 5 - (n + 1)) * 1 = _
      omega
    · simp only [Array.toList_append, List.append_assoc, List.map_append, List.map_cons, List.map_nil]
      rw [← List.append_assoc, List.take_left' (by simp [hlen])]

theorem wpList_append_om {w : World} {ops : Array Oper} {rest : List Oper} {o : Oper} {a : Act} {Q : Exit → Act → World → Prop} (hgd : o.guard = none) (s x : Operand)
    (ho : o.op = .call { callee := .builtin .append, args := #[s, x], argTypes := #[48, 48] }) (ht : o.type = 48)
    (base : Nat) {ao : Option Addr} {n cap : Nat} {l : List UInt8} (hs : a.eval s = .slice ao n cap) (hown : Om w base ao n cap l)
    (b : UInt8) (sb : Nat) (hx : a.eval x = .slice (some ⟨sb, 0, none⟩) 1 1) (hb : w.cell? ⟨sb, 0, none⟩ = some (bv b))
    (hsum : n ≤ 1000) (hbase : base ≤ w.heap.size)
    (h : ∀ ao' cap' w', Om w' base ao' (n + 1) cap' (l ++ [b]) → w.grownBy w' (blk ao) → wpList Tryz.prog ops Q rest (a.put o.dst (.slice ao' (n + 1) cap')) w') : wpList Tryz.prog ops Q (o :: rest) a w := by
  obtain ⟨ro', rc', w', hr, h2, h3⟩ := append_om w base ao n cap l hown b sb hb hsum hbase
  refine wpList_step (fun K hK => ?_)
  rw [if_pos (by simp [Region.wanted, hgd])]
  unfold Oper.wp
  simp only [execOp, ho, resolve, invoke, builtin, Sem.run_bind, Sem.run_pure, Result.andThen_ok, List.map_toArray, List.map_cons, List.map_nil, hs, hx, ht, hr]
  exact hK _ _ (h _ _ _ h2 h3)

/-- '[]byte(s)'. -/
theorem Om.conv (w : World) (s : ByteArray) (hs : s.size ≤ maxLen) : Om (w.drew.alloc (.cells (bytesRow s (grownCap w s.size 0 5)) 5 ((bytesRow s (grownCap w s.size 0 5)).size, (bytesRow s (grownCap w s.size 0 5)).size + 1))) w.heap.size (some ⟨w.heap.size, 0, none⟩) s.size (grownCap w s.size 0 5) s.data.toList := by
  have hge := grownCap_ge w s.size 0 5
  have hcm2 : grownCap w s.size 0 5 ≤ maxLen := grownCap_le_maxLen w s.size 0 5 hs
  have hsz : (bytesRow s (grownCap w s.size 0 5)).size = grownCap w s.size 0 5 := by
    unfold bytesRow
    have : s.data.size = s.size := rfl
    simp
    omega
  refine ⟨rfl, hge, hcm2, w.heap.size, _, _, rfl, Nat.le_refl _, heap_alloc_new w.drew _, .inr (by rw [hsz]; exact Nat.le_refl _), hsz, ?_⟩
  unfold bytesRow
  rw [Array.toList_append, List.take_left' (by simp)]
  simp [bv]
end Go.Proofs.YtlghcboenkglnaaGreatDoor

/-
  Name, whole.
-/
namespace Go.Proofs.YtlghcboenkglnaaGreatDoor
open Go.RowKit
set_option linter.unusedVariables false

/-- A digit to the base 16; the first k of the base's fourteen. -/
def hexd (d : Nat) : UInt8 := if d < 10 then UInt8.ofNat (48 + d) else UInt8.ofNat (87 + d)
def dig (x k : Nat) : Nat := x / 16 ^ (13 - k) % 16
def digs (x k : Nat) : List UInt8 := (List.range k).map fun i => hexd (dig x i)
theorem digs_succ (x k : Nat) : digs x (k + 1) = digs x k ++ [hexd (dig x k)] := by simp [digs, List.range_succ]
theorem digs_len (x k : Nat) : (digs x k).length = k := by simp [digs]
/-- A segment's name. -/
def nameL (s : ByteArray) (x : Nat) : List UInt8 := s.data.toList ++ 45 :: digs x 14

theorem dig_shift (x k : Nat) (hk : k < 14) : ((x : Int) / 2 ^ (4 * (13 - k))).tmod 16 = ((dig x k : Nat) : Int) := by
  have e : (2 : Int) ^ (4 * (13 - k)) = ((16 ^ (13 - k) : Nat) : Int) := by
    rw [Int.pow_mul, Int.natCast_pow]; rfl
  rw [e, ← Int.natCast_ediv, Int.tmod_eq_emod_of_nonneg (Int.natCast_nonneg _)]
  unfold dig
  norm_cast
theorem dig_lt (x k : Nat) : dig x k < 16 := Nat.mod_lt _ (by decide)
theorem hexd_at (d : Nat) (h : d < (⟨#[48, 49, 50, 51, 52, 53, 54, 55, 56, 57, 97, 98, 99, 100, 101, 102]⟩ : ByteArray).size) : ((⟨#[48, 49, 50, 51, 52, 53, 54, 55, 56, 57, 97, 98, 99, 100, 101, 102]⟩ : ByteArray)[d]'h).toNat = (hexd d).toNat := by
  have h2 : d < 16 := h
  revert h
  match d, h2 with
  | 0, _ => intro h; rfl
  | 1, _ => intro h; rfl
  | 2, _ => intro h; rfl
  | 3, _ => intro h; rfl
  | 4, _ => intro h; rfl
  | 5, _ => intro h; rfl
  | 6, _ => intro h; rfl
  | 7, _ => intro h; rfl
  | 8, _ => intro h; rfl
  | 9, _ => intro h; rfl
  | 10, _ => intro h; rfl
  | 11, _ => intro h; rfl
  | 12, _ => intro h; rfl
  | 13, _ => intro h; rfl
  | 14, _ => intro h; rfl
  | 15, _ => intro h; rfl
  | n + 16, h2 => exact absurd h2 (by omega)

set_option maxRecDepth 100000 in
theorem name_bad (w : World) (s : ByteArray) (x : Int) (h : logB s = false ∨ x < 0 ∨ 9007199254740992 < x) : Calls Tryz.prog 41 #[.string s, .int .i64 x] w fun e w' => e = .returned (.tuple #[.string ⟨#[]⟩, .int .i64 2]) ∧ w' = w := by
  go_enter Tryz.func41, Tryz.ntmps41
  go_wp2_with fail
  refine (isLog_any _ _).mono ?_
  rintro e w1 ⟨rfl, rfl⟩
  cases hl : logB s
  · clear h
    go_wp2
    go_ret2
    exact ⟨rfl, rfl⟩
  · rw [hl] at h
    by_cases h1 : x < 0
    · clear h
      go_wp2
      go_ret2
      exact ⟨rfl, rfl⟩
    · have h2 : 9007199254740992 < x := by
        rcases h with h | h | h
        · cases h
        · omega
        · exact h
      clear h
      go_wp2
      go_ret2
      exact ⟨rfl, rfl⟩

set_option maxRecDepth 100000 in
set_option maxHeartbeats 2000000 in
theorem name_ok (w : World) (s : ByteArray) (x : Nat) (h : logB s = true) (hx : x ≤ 9007199254740992) : Calls Tryz.prog 41 #[.string s, .int .i64 x] w fun e w' => e = .returned (.tuple #[.string ⟨(nameL s x).toArray⟩, .int .i64 0]) ∧ w.grownBy w' none := by
  have hsz : s.size ≤ 8 := by unfold logB at h; simp at h; omega
  have h1 : ¬ (x : Int) < 0 := by omega
  have h2 : ¬ 9007199254740992 < (x : Int) := by omega
  have hcv := run_bytes_of_string (P := Tryz.prog) w 9 48 5 (s ++ ⟨#[45]⟩) Tryz.underlying9 Tryz.underlying48 Tryz.underlying5
  have hsz2 : (s ++ (⟨#[45]⟩ : ByteArray)).size = s.size + 1 := by rw [ByteArray.size_append]; rfl
  have hom := Om.conv w (s ++ ⟨#[45]⟩) (by rw [hsz2]; unfold maxLen; omega)
  rw [hsz2] at hcv hom
  go_enter Tryz.func41, Tryz.ntmps41
  go_wp2_with fail
  refine (isLog_any _ _).mono ?_
  rintro e w1 ⟨rfl, rfl⟩
  rw [h]
  have hg0 : w1.grownBy (w1.drew.alloc (.cells (bytesRow (s ++ ⟨#[45]⟩) (grownCap w1 (s.size + 1) 0 5)) 5 ((bytesRow (s ++ ⟨#[45]⟩) (grownCap w1 (s.size + 1) 0 5)).size, (bytesRow (s ++ ⟨#[45]⟩) (grownCap w1 (s.size + 1) 0 5)).size + 1))) none := grown_trans (grown_drew w1 none) (World.grownBy_alloc _ _ none) (by simp)
  go_wp2_with fail
  clear hcv
  have hdat : (s ++ (⟨#[45]⟩ : ByteArray)).data.toList = s.data.toList ++ [45] := by rw [ByteArray.data_append]; simp
  rw [hdat] at hom
  generalize grownCap w1 (s.size + 1) 0 5 = c0 at *
  go_loopw [6, 24] (fun v6 v24 wr => ∃ (k cap : Nat) (ao : Option Addr), k ≤ 14 ∧ v24 = .int .i64 k ∧ v6 = .slice ao (s.size + 1 + k) cap ∧ Om wr w1.heap.size ao (s.size + 1 + k) cap (s.data.toList ++ [45] ++ digs x k) ∧ w1.grownBy wr none) (fun _ v24 _ => 14 - (intOf v24).toNat)
  case atStart =>
    refine ⟨0, c0, _, by omega, rfl, rfl, ?_, hg0⟩
    rw [show s.data.toList ++ [45] ++ digs x 0 = s.data.toList ++ [45] by simp [digs]]
    exact hom
  case round =>
    obtain ⟨k, cap, ao, hk, rfl, rfl, hO, hG⟩ := hrel
    clear hom hg0
    by_cases hlt : k < 14
    · have d1 : decide ((k : Int) < 14) = true := by simp; omega
      have hwa : IntKind.i64.wrap (13 - (k : Int)) = 13 - (k : Int) := by rw [IntWalk.i64_in _ (by omega)]
      have hwb : IntKind.i64.wrap (4 * (13 - (k : Int))) = 4 * (13 - (k : Int)) := by rw [IntWalk.i64_in _ (by omega)]
      have hdg := dig_shift x k hlt
      have hdl := dig_lt x k
      have hds : Hid (digs x (k + 1) = digs x k ++ [hexd (dig x k)]) := digs_succ x k
      obtain ⟨d, hd⟩ : ∃ d, Hid (dig x k = d) := ⟨_, (rfl : dig x k = dig x k)⟩
      rw [hd.out] at hdg hdl
      have i1 : (0 : Int) ≤ (d : Int) := by omega
      have i2 : (d : Int) < 16 := by omega
      have hch := hexd_at d
      have ga := World.grownBy_alloc wr (.cells #[.int .u8 (hexd d).toNat] 5) none
      have hO1 := hO.kept ga
      have hc1 : (wr.alloc (.cells #[.int .u8 (hexd d).toNat] 5)).cell? ⟨wr.heap.size, 0, none⟩ = some (bv (hexd d)) := by simp [bv]
      have hGs := hG.size
      go_wp2_with (at_builtin; refine wpList_append_om rfl _ _ rfl rfl w1.heap.size rfl hO1 (hexd d) wr.heap.size rfl hc1 (by omega) (by simp; omega) ?_)
      intro ao2 cap2 w2 hO2 hg2
      have hG2 : w1.grownBy w2 none := grown_trans (grown_trans hG ga (by simp)) hg2 (fun q hq => Or.inr (by
        obtain ⟨g, cur, fz, rfl, hb, _⟩ := hO.row
        cases hq
        exact hb))
      have hO3 : Om w2 w1.heap.size ao2 (s.size + 1 + (k + 1)) cap2 (s.data.toList ++ [45] ++ digs x (k + 1)) := by
        rw [hds.out, hd.out]
        simpa [Nat.add_assoc] using hO2
      clear hO hO1 hO2 hg2 ga hG hc1
      go_wp2_with fail
      go_roundw
      case rel => exact ⟨k + 1, cap2, ao2, by omega, by go_num, rfl, hO3, hG2⟩
      case measure => simp [intOf]; omega
    · obtain rfl : k = 14 := by omega
      have d1 : decide ((14 : Int) < 14) = false := by decide
      have hcv := run_string_bs wr 48 9 5 Tryz.underlying48 Tryz.underlying5 Tryz.underlying9 hO.shows
      go_wp2
      go_ret2
      exact ⟨rfl, hG⟩
end Go.Proofs.YtlghcboenkglnaaGreatDoor
