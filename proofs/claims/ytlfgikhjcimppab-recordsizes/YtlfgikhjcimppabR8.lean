/-
  cut's region 8 (a record more), whatever the order.
-/
import Derived.Test.YtlfgikhjcimppabK1
import Derived.Test.YtlfgikhjcimppabOrd
namespace Go.Proofs.Ytlfgikhjcimppab
open Go.RowKit
set_option linter.unusedVariables false

def sl8 : Nat → Option Nat
  | 0 => some 27 | 1 => some 28 | 2 => some 29 | 3 => some 30 | 4 => some 31 | 5 => some 32 | 6 => some 33 | _ => none
theorem sl8_lt {i s : Nat} (h : sl8 i = some s) : i < 7 ∧ s = 27 + i := by
  unfold sl8 at h
  split at h <;> simp_all
theorem sl8_inj (i j s : Nat) (hi : sl8 i = some s) (hj : sl8 j = some s) : i = j := by
  have h1 := sl8_lt hi
  have h2 := sl8_lt hj
  omega
def vals8 (z : Nat) (y c : Value) : Nat → Option Value
  | 0 => some (.pointer (some ⟨z, 1, none⟩)) | 1 => some y | 2 => some c | 6 => some (.pointer (some ⟨z, 1, none⟩)) | _ => none
/-- A record was cut out. -/
structure Pst (w0 : World) (bb oo bn bc rb g : Nat) (B : List UInt8) (i : Nat) (r : Rc) (w : World) : Prop where
  cut : Cut w (some ⟨bb, oo, none⟩) bc B (posAt B i) r
  ct : Ct w (some ⟨bb, oo, none⟩) bn bc rb g B (posAt B (i + 1))
  gr : w0.grownBy w (some rb)
/-- How far the region has come. -/
inductive St8 (w0 : World) (z bb oo bn bc rb g base : Nat) (B : List UInt8) (i : Nat) (ro : Option Addr) (rs : List Rc) (l : Array Bool) (a : Act) (w : World) : Prop
  | A (h3 : l.getD 3 false = false) (h4 : l.getD 4 false = false) (h5 : l.getD 5 false = false) (h7 : l.getD 7 false = false) (hw : w = w0)
  | B (h3 : l.getD 3 false = true) (h4 : l.getD 4 false = false) (h5 : l.getD 5 false = false) (h7 : l.getD 7 false = false) (r : Rc) (hs : a.tmps[30]? = some (.agg #[.int .i64 r.t, .slice r.ko r.kn r.kc, .slice r.vo r.vn r.vc])) (hp : Pst w0 bb oo bn bc rb g B i r w)
  | C (h3 : l.getD 3 false = true) (h4 : l.getD 4 false = true) (h5 : l.getD 5 false = false) (h7 : l.getD 7 false = false) (r : Rc) (w2 : World) (hp : Pst w0 bb oo bn bc rb g B i r w2) (hw : w = w2.alloc (.cells #[.int .i64 r.t, .slice r.ko r.kn r.kc, .slice r.vo r.vn r.vc] 37)) (hs : a.tmps[31]? = some (.slice (some ⟨w2.heap.size, 0, none⟩) 1 1))
  | D (h3 : l.getD 3 false = true) (h4 : l.getD 4 false = true) (h5 : l.getD 5 false = true) (h7 : l.getD 7 false = false) (r : Rc) (w2 : World) (ro' : Option Addr) (rc' : Nat) (hp : Pst w0 bb oo bn bc rb g B i r w2) (hg : (w2.alloc (.cells #[.int .i64 r.t, .slice r.ko r.kn r.kc, .slice r.vo r.vn r.vc] 37)).grownBy w (blk ro)) (hR : Rw w base ro' (i + 1) rc' (rs ++ [r])) (hs : a.tmps[32]? = some (.slice ro' (i + 1) rc'))
  | E (h3 : l.getD 3 false = true) (h4 : l.getD 4 false = true) (h5 : l.getD 5 false = true) (h7 : l.getD 7 false = true) (r : Rc) (w2 : World) (ro' : Option Addr) (rc' : Nat) (w4 : World) (hp : Pst w0 bb oo bn bc rb g B i r w2) (hg : (w2.alloc (.cells #[.int .i64 r.t, .slice r.ko r.kn r.kc, .slice r.vo r.vn r.vc] 37)).grownBy w4 (blk ro)) (hR : Rw w4 base ro' (i + 1) rc' (rs ++ [r])) (hw : w = w4.setCell ⟨z, 1, none⟩ (.slice ro' (i + 1) rc'))
structure J8 (A0 : Act) (w0 : World) (z bb oo bn bc rb g base : Nat) (B : List UInt8) (i : Nat) (ro : Option Addr) (rc : Nat) (rs : List Rc) (l : Array Bool) (a : Act) (w : World) : Prop where
  fr : Fr A0 A0.tmps [27, 28, 29, 30, 31, 32, 33] 8 l a
  tv : Tv sl8 (vals8 z (.slice ro i rc) (.agg #[.slice (some ⟨bb, oo, none⟩) bn bc, .pointer (some ⟨rb, 0, none⟩)])) l a
  d1 : l.getD 5 false = true → l.getD 1 false = true
  d2 : l.getD 3 false = true → l.getD 2 false = true
  d3 : l.getD 7 false = true → l.getD 1 false = true
  st : St8 w0 z bb oo bn bc rb g base B i ro rs l a w
theorem St8.quiet {w0 : World} {z bb oo bn bc rb g base : Nat} {B : List UInt8} {i : Nat} {ro : Option Addr} {rs : List Rc} {l : Array Bool} {a : Act} {w : World} (h : St8 w0 z bb oo bn bc rb g base B i ro rs l a w) (hsz : l.size = 8) (q s : Nat) (hq : q < 8) (hn : q ≠ 3 ∧ q ≠ 4 ∧ q ≠ 5 ∧ q ≠ 7) (hs : s ≠ 30 ∧ s ≠ 31 ∧ s ≠ 32) (u : Value) : St8 w0 z bb oo bn bc rb g base B i ro rs (l.setIfInBounds q true) (a.put (some s) u) w := by
  have o := fun j (hj : j ≠ q) => getD_other (l := l) (i := q) (j := j) hsz hq hj
  have e3 := o 3 (fun e => hn.1 e.symm)
  have e4 := o 4 (fun e => hn.2.1 e.symm)
  have e5 := o 5 (fun e => hn.2.2.1 e.symm)
  have e7 := o 7 (fun e => hn.2.2.2 e.symm)
  have p30 := put_other (a := a) (u := u) hs.1
  have p31 := put_other (a := a) (u := u) hs.2.1
  have p32 := put_other (a := a) (u := u) hs.2.2
  cases h with
  | A h3 h4 h5 h7 hw => exact .A (e3.trans h3) (e4.trans h4) (e5.trans h5) (e7.trans h7) hw
  | B h3 h4 h5 h7 r hs hp => exact .B (e3.trans h3) (e4.trans h4) (e5.trans h5) (e7.trans h7) r (p30.trans hs) hp
  | C h3 h4 h5 h7 r w2 hp hw hs => exact .C (e3.trans h3) (e4.trans h4) (e5.trans h5) (e7.trans h7) r w2 hp hw (p31.trans hs)
  | D h3 h4 h5 h7 r w2 ro' rc' hp hg hR hs => exact .D (e3.trans h3) (e4.trans h4) (e5.trans h5) (e7.trans h7) r w2 ro' rc' hp hg hR (p32.trans hs)
  | E h3 h4 h5 h7 r w2 ro' rc' w4 hp hg hR hw => exact .E (e3.trans h3) (e4.trans h4) (e5.trans h5) (e7.trans h7) r w2 ro' rc' w4 hp hg hR hw
theorem J8.quiet {A0 : Act} {w0 : World} {z bb oo bn bc rb g base : Nat} {B : List UInt8} {i : Nat} {ro : Option Addr} {rc : Nat} {rs : List Rc} {l : Array Bool} {a : Act} {w : World} (hA : A0.tmps.size = 50) (h : J8 A0 w0 z bb oo bn bc rb g base B i ro rc rs l a w) (q s : Nat) (hs : sl8 q = some s) (hq : q = 0 ∨ q = 1 ∨ q = 2 ∨ q = 6) (u : Value) (hu : ∀ v, vals8 z (.slice ro i rc) (.agg #[.slice (some ⟨bb, oo, none⟩) bn bc, .pointer (some ⟨rb, 0, none⟩)]) q = some v → u = v) : J8 A0 w0 z bb oo bn bc rb g base B i ro rc rs (l.setIfInBounds q true) (a.put (some s) u) w := by
  have h1 := sl8_lt hs
  have hsz := h.fr.size
  have m : ∀ j, l.getD j false = true → (l.setIfInBounds q true).getD j false = true := fun j hj => by
    rw [getD_set (by omega)]
    split
    · rfl
    · exact hj
  have o := fun j (hj : j ≠ q) => getD_other (l := l) (i := q) (j := j) hsz (by omega) hj
  refine ⟨h.fr.put q s u (by rw [h1.2]; rcases hq with rfl | rfl | rfl | rfl <;> decide), Tv.put h.fr h.tv sl8_inj (fun i s hs => by have := sl8_lt hs; omega) q s (by omega) hs u hu, ?_, ?_, ?_, h.st.quiet hsz q s (by omega) (by omega) (by omega) u⟩
  · rw [o 5 (by omega)]; exact fun h9 => m _ (h.d1 h9)
  · rw [o 3 (by omega)]; exact fun h9 => m _ (h.d2 h9)
  · rw [o 7 (by omega)]; exact fun h9 => m _ (h.d3 h9)
end Go.Proofs.Ytlfgikhjcimppab
