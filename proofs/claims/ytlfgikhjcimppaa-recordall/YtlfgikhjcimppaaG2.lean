/-
  What is read has just the bytes that Put makes of it.
-/
import Derived.Test.YtlfgikhjcimppaaG1
import Derived.Test.YtlfgikhjcimppaaD4
namespace Go.Proofs.Ytlfgikhjcimppaa
open Go.RowKit
set_option linter.unusedVariables false

theorem low_val : ∀ (l : List UInt8), low (val l) l.length = l
  | [] => rfl
  | b :: r => by
    have hb := b.toNat_lt
    rw [List.length_cons, low_cons, val]
    have h1 : UInt8.ofNat (b.toNat + 256 * val r) = b := by
      apply UInt8.toNat_inj.1
      rw [UInt8.toNat_ofNat']
      omega
    have h2 : (b.toNat + 256 * val r) / 256 = val r := by omega
    rw [h1, h2, low_val r]
theorem low_val' {l : List UInt8} {n : Nat} (h : l.length = n) : low (val l) n = l := by rw [← h]; exact low_val l

theorem i8_val {l : List UInt8} (h : l.length = 8) : i8 (wrap64 (val l : Nat)) = l := by
  have h1 : (wrap64 (val l : Nat) % 18446744073709551616).toNat = val l := by
    have := val_lt8 (l := l) (by omega)
    unfold wrap64
    omega
  unfold i8
  rw [h1]
  exact low_val' h

theorem drop_split (L : List UInt8) (p m : Nat) : L.drop p = (L.drop p).take m ++ L.drop (p + m) := by
  rw [← List.drop_drop, List.take_append_drop]

/-- A record's bytes are those at its place. -/
theorem says_by {B : List UInt8} {p : Nat} {r : Rc} (hk : r.k.length = r.kn) (hv : r.v.length = r.vn) (hs : Says B p r.d) (hin : p + 12 + kAt B p + vAt B p ≤ B.length) : r.kn = kAt B p ∧ r.vn = vAt B p ∧ rby r ++ B.drop (p + 12 + kAt B p + vAt B p) = B.drop p := by
  obtain ⟨h1, h2, h3⟩ := hs
  have e1 : r.t = tAt B p := h1
  have e2 : r.k = (B.drop (p + 12)).take (kAt B p) := h2
  have e3 : r.v = (B.drop (p + 12 + kAt B p)).take (vAt B p) := h3
  have a1 : r.kn = kAt B p := by rw [← hk, e2, List.length_take, List.length_drop]; omega
  have a2 : r.vn = vAt B p := by rw [← hv, e3, List.length_take, List.length_drop]; omega
  refine ⟨a1, a2, ?_⟩
  have b1 : i8 r.t = (B.drop p).take 8 := by rw [e1]; exact i8_val (by rw [List.length_take, List.length_drop]; omega)
  have b2 : low r.kn 2 = (B.drop (p + 8)).take 2 := by rw [a1]; exact low_val' (by rw [List.length_take, List.length_drop]; omega)
  have b3 : low r.vn 2 = (B.drop (p + 10)).take 2 := by rw [a2]; exact low_val' (by rw [List.length_take, List.length_drop]; omega)
  unfold rby
  rw [b1, b2, b3, e2, e3]
  conv => rhs; rw [drop_split B p 8, drop_split B (p + 8) 2, drop_split B (p + 10) 2, drop_split B (p + 12) (kAt B p), drop_split B (p + 12 + kAt B p) (vAt B p)]
  simp only [List.append_assoc]

theorem canon_flat {B : List UInt8} {l : List Rc} (hin : ∀ j, j < l.length → posAt B (j + 1) ≤ B.length) (hfin : posAt B l.length = B.length) (hg : ∀ j r, l[j]? = some r → r.k.length = r.kn ∧ r.v.length = r.vn ∧ Says B (posAt B j) r.d) :
    ∀ m j, j + m = l.length → ((l.drop j).map rby).flatten = B.drop (posAt B j) ∧ posAt B j + szs (l.drop j) = B.length
  | 0, j, h => by
    obtain rfl : j = l.length := by omega
    rw [List.drop_length, hfin, List.drop_length]
    exact ⟨rfl, by simp [szs]⟩
  | m + 1, j, h => by
    have hj : j < l.length := by omega
    obtain ⟨i1, i2⟩ := canon_flat hin hfin hg m (j + 1) (by omega)
    have hp : posAt B (j + 1) = posAt B j + 12 + kAt B (posAt B j) + vAt B (posAt B j) := rfl
    obtain ⟨g1, g2, g3⟩ := hg j l[j] (by simp [hj])
    have hpj := hin j hj
    obtain ⟨s1, s2, s3⟩ := says_by g1 g2 g3 (by omega)
    rw [List.drop_eq_getElem_cons hj]
    refine ⟨?_, ?_⟩
    · rw [List.map_cons, List.flatten_cons, i1, hp]
      exact s3
    · have : szs (l[j] :: l.drop (j + 1)) = (12 + (l[j]).kn + (l[j]).vn) + szs (l.drop (j + 1)) := by unfold szs; rw [List.map_cons, List.sum_cons]
      omega

/-- The bytes of a whole batch are those that its records make. -/
theorem canon {B : List UInt8} {l : List Rc} (hW : Whole B B.length) (h4 : B.length = 4 + val (B.take 4)) (hl : l.length = cAt B) (hg : ∀ j r, l[j]? = some r → r.k.length = r.kn ∧ r.v.length = r.vn ∧ Says B (posAt B j) r.d) : batB (bAt B) l = B := by
  have h32 := hW.low
  obtain ⟨f1, f2⟩ := canon_flat (B := B) (l := l) (by rw [hl]; exact hW.ins) (by rw [hl]; exact hW.fin) hg l.length 0 (by omega)
  have f0 : posAt B 0 = 20 := rfl
  rw [List.drop_zero, f0] at f1 f2
  have b1 : i8 (bAt B) = (B.drop 8).take 8 := i8_val (by rw [List.length_take, List.length_drop]; omega)
  have b2 : low l.length 4 = (B.drop 16).take 4 := by rw [hl]; exact low_val' (by rw [List.length_take, List.length_drop]; omega)
  have hbody : bodyB (bAt B) l = B.drop 8 := by
    unfold bodyB
    rw [b1, b2, f1]
    conv => rhs; rw [drop_split B 8 8, drop_split B 16 4]
    simp only [List.append_assoc]
  have b3 : low (sAt B) 4 = (B.drop 4).take 4 := low_val' (by rw [List.length_take, List.length_drop]; omega)
  have b4 : low (16 + szs l) 4 = B.take 4 := by
    rw [show 16 + szs l = val (B.take 4) by omega]
    exact low_val' (by rw [List.length_take]; omega)
  unfold batB
  rw [hbody, ← hW.sum, b3, b4]
  have e1 := drop_split B 4 4
  have e2 : B = B.take 4 ++ B.drop 4 := (List.take_append_drop 4 B).symm
  rw [List.append_assoc, ← e1, ← e2]

/-- A beginning of a batch's bytes is torn. -/
theorem torn {base : Int} {l : List Rc} (hg : ∀ r ∈ l, r.k.length = r.kn ∧ r.v.length = r.vn) (hm : (measR base l).2 = 0) {k : Nat} (h0 : 0 < k) (hk : k < 20 + szs l) : extR ((batB base l).take k) = (0, 151) := by
  have he := ext_bat hg hm []
  rw [List.append_nil] at he
  obtain ⟨s1, s2, s3, s4⟩ := extR_ok he
  have hlen : ((batB base l).take k).length = k := by rw [List.length_take]; omega
  unfold extR
  rw [hlen, if_neg (by omega)]
  by_cases h4 : k < 4
  · rw [if_pos h4]
  · have ht : ((batB base l).take k).take 4 = (batB base l).take 4 := by rw [List.take_take]; congr 1; omega
    rw [if_neg h4, ht, if_neg (by omega), if_pos (by omega)]
end Go.Proofs.Ytlfgikhjcimppaa
