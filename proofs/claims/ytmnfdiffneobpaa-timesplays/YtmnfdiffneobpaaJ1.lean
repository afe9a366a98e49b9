/-
  TimesAgain: Put upon rises, bytes that are known, a copied list of records; where its loop stands.
-/
import Derived.Test.YtmnfdiffneobpaaHx
import Derived.Test.YtmnfdiffneobpaaGx
namespace Go.Proofs.Ytmnfdiffneobpaa
open Go.RowKit Go.Shelf
set_option linter.unusedVariables false

/-- Put upon the rises of records: the rises of all. -/
theorem put_again {w : World} {b : Nat} {ro : Option Addr} {rc : Nat} {bs : Int} {k : Nat} {xs ys : List Int} (h : Xd w b ro rc bs (bs + (k : Int)) (riseL (-1) bs xs)) (hk : xs.length = k) (hb0 : 0 ≤ bs) {n : Nat} (hb1 : bs + (n : Int) ≤ 9007199254740993) (so : Option Addr) (n' sc : Nat) (rl : List Rc) (hR : Rs w so n' rl) (hap : ∀ q, blk so = some q → blk ro ≠ some q) (hn : k + n' = n ∧ n ≤ 60000) (hmay : ∀ r ∈ rl, r.may = true) (hts : rl.map Rc.t = ys) :
    Calls Try.prog 21 #[.pointer (some ⟨b, 0, none⟩), .slice so n' sc] w fun e w' => ∃ ro' rc', e = .returned (.int .i64 0) ∧ Xd w' b ro' rc' bs (bs + (n : Int)) (riseL (-1) bs (xs ++ ys)) ∧ Near w ro rc ro' rc' ∧ Chg w w' (fun q => q = b ∨ blk ro = some q) := by
  have hl : ys.length = n' := by rw [← hts, List.length_map, hR.len]
  have h1 := rise_append (-1) bs xs ys
  have h2 := riseL_len (-1) bs (xs ++ ys)
  rw [List.length_append] at h2
  have hp := put_any h (by omega) (by omega) so n' sc rl hR hap (by omega) hmay
  have e1 : putR (bs + (k : Int)) (riseL (-1) bs xs) ys = (0, bs + (n : Int), riseL (-1) bs (xs ++ ys)) := by
    unfold putR
    rw [topR_rise, show bs + (k : Int) = bs + (xs.length : Int) by rw [hk], ← h1, if_neg (by omega), show bs + (xs.length : Int) + (ys.length : Int) = bs + (n : Int) by omega]
  rw [hts, e1] at hp
  exact hp

/-- The bytes of an index of records, told. -/
def ribs (bs : Int) (n : Nat) (L : List Sd) : List UInt8 := iby bs.toNat (bs.toNat + n) L
theorem bytes_known {w : World} {b : Nat} {ro : Option Addr} {rc n : Nat} {bs : Int} {ts : List Int} (hb0 : 0 ≤ bs) (hb1 : bs ≤ 1000000) (hn : n ≤ 300) (htl : ts.length = n) (htsb : ∀ t ∈ ts, 0 ≤ t ∧ t ≤ 9007199254740992) (h : Xd w b ro rc bs (bs + (n : Int)) (riseL (-1) bs ts)) :
    ∃ bl m, Hid (bl = ribs bs n (riseL (-1) bs ts)) ∧ m ≤ 10000 ∧ openOk bl ∧ (∀ b (V : World) (ro : Option Addr) (rc : Nat), Xd V b ro rc (n8 bl 0) (n8 bl 8) (scanL bl (cntB bl)) → Xd V b ro rc bs (bs + (n : Int)) (riseL (-1) bs ts)) ∧
      Calls Try.prog 12 #[.pointer (some ⟨b, 0, none⟩)] w fun e w' => ∃ bo bc, e = .returned (.slice bo m bc) ∧ Ow w' w.heap.size 5 bo m bc bl ∧ w.grownBy w' none := by
  have hfew := riseL_len (-1) bs ts
  have hgood := rise_good (a := bs) (ts := ts) hb0 (by omega) htsb
  have hok := rise_ok (a := bs) (ts := ts) hb0 (by omega) htsb
  rw [htl] at hok
  generalize riseL (-1) bs ts = L at *
  obtain ⟨B, rfl⟩ : ∃ B : Nat, bs = (B : Int) := ⟨bs.toNat, by omega⟩
  rw [show (B : Int) + (n : Int) = ((B + n : Nat) : Int) by omega] at h hok ⊢
  have hile := iby_len B (B + n) L
  refine ⟨iby B (B + n) L, _, rfl, ?_, iby_ok hgood (by omega) (by omega) (by omega) hok, fun b V ro rc h => ?_, bytes_any h (by omega) (by omega) hgood (by omega)⟩
  · omega
  rw [iby_n0 _ _ _ (by omega), iby_n8 _ _ _ (by omega), iby_cnt _ _ _ (by omega), iby_scan _ _ _ hgood] at h
  exact h

/-- A record's heads alone. -/
def grc (r : Gr.Rc) : Rc := ⟨r.t, r.ko, r.kn, r.kc, r.vo, r.vn, r.vc⟩
theorem grs_plain {w : World} {so : Option Addr} {n cap : Nat} {l : List Gr.Rc} (h : Gr.Rs w so n cap l) : Rs w so n (l.map grc) :=
  ⟨by simp [h.len], fun hn => by
    obtain ⟨g, o, rfl, hg⟩ := h.addr hn
    refine ⟨g, o, rfl, fun j r hr => ?_⟩
    rw [List.getElem?_map] at hr
    obtain ⟨x, hx, rfl⟩ := Option.map_eq_some_iff.1 hr
    exact h.cells g o rfl j x hx⟩
theorem grs_drop {w : World} {g o n cap : Nat} {l : List Gr.Rc} (h : Gr.Rs w (some ⟨g, o, none⟩) n cap l) (k : Nat) (hk : k ≤ n) (o' : Nat) (ho : n - k = 0 ∨ o' = o + k * 3) : Gr.Rs w (some ⟨g, o', none⟩) (n - k) (cap - k) (l.drop k) :=
  { len := by have := h.len; simp; omega
    room := by have := h.room; omega
    top := by have := h.top; omega
    nil := fun e => by cases e
    place := fun a ha hn => by
      obtain ⟨g', o2, he, hl⟩ := h.addr (show 0 < n by omega)
      cases he; cases ha
      exact ⟨_, _, rfl, hl⟩
    cells := fun b o2 e j r hr => by
      cases e
      rcases ho with h0 | rfl
      · rw [List.drop_of_length_le (by have := h.len; omega)] at hr; simp at hr
      · rw [List.getElem?_drop] at hr
        have := h.cells g o rfl (k + j) r hr
        rw [show o + (k + j) * 3 = o + k * 3 + j * 3 by omega] at this
        exact this
    shows := fun r hr => h.shows r (List.mem_of_mem_drop hr) }
theorem may_of {a b : Rc} (h1 : a.t = b.t) (h2 : a.kn = b.kn) (h3 : a.vn = b.vn) : a.may = b.may := by simp only [Rc.may, h1, h2, h3]
theorem gmay_eq {w w' : World} {l k : List Gr.Rc} (h : Gr.ds l = Gr.ds k) (hl : ∀ r ∈ l, Gr.Rk w r) (hk : ∀ r ∈ k, Gr.Rk w' r) (hm : ∀ r ∈ k.map grc, r.may = true) : ∀ r ∈ l.map grc, r.may = true := by
  intro r hr
  obtain ⟨x, hx, rfl⟩ := List.mem_map.1 hr
  obtain ⟨j, hj, rfl⟩ := List.mem_iff_getElem.1 hx
  have hjk : j < k.length := by have := congrArg List.length h; simp [Gr.ds] at this; omega
  have h1 : (Gr.ds l)[j]? = (Gr.ds k)[j]? := by rw [h]
  simp only [Gr.ds, List.getElem?_map, List.getElem?_eq_getElem hj, List.getElem?_eq_getElem hjk, Option.map_some, Option.some.injEq, Gr.Rc.d, Prod.mk.injEq] at h1
  have h2 := hm _ (List.mem_map.2 ⟨_, List.getElem_mem hjk, rfl⟩)
  have a1 := (hl _ (List.getElem_mem hj)).key.len
  have a2 := (hl _ (List.getElem_mem hj)).value.len
  have b1 := (hk _ (List.getElem_mem hjk)).key.len
  have b2 := (hk _ (List.getElem_mem hjk)).value.len
  rw [h1.2.1] at a1
  rw [h1.2.2] at a2
  have c1 : (l[j]).kn = (k[j]).kn := a1.symm.trans b1
  have c2 : (l[j]).vn = (k[j]).vn := a2.symm.trans b2
  exact (may_of (a := grc l[j]) (b := grc k[j]) h1.1 c1 c2).trans h2
theorem gtimes_eq {l k : List Gr.Rc} (h : Gr.ds l = Gr.ds k) : (l.map grc).map Rc.t = (k.map grc).map Rc.t := by
  have := congrArg (List.map (fun d : Gr.Dr => d.1)) h
  simp only [Gr.ds, List.map_map] at this ⊢
  exact this

theorem wpAnyH_mono {P : Program} {md : Region.Mode} {ops : Array Oper} {Q : Exit → Act → World → Prop} {S1 S2 : World → Prop} (hs : ∀ w, S2 w → S1 w) :
    ∀ (fuel : Nat) (listed : Array Bool) (a : Act) (w : World), wpAnyH P md ops Q S2 fuel listed a w → wpAnyH P md ops Q S1 fuel listed a w
  | 0, _, _, _, h => h
  | fuel + 1, _, _, _, h => ⟨h.1, fun i hi => wpOp_mono (fun a' w' h' => ⟨hs _ h'.1, wpAnyH_mono hs fuel _ a' w' h'.2⟩) (h.2 i hi)⟩

/-- Where TimesAgain's loop over the records stands: so many rises, the greatest time so far. -/
structure Tp (bs : Int) (ts : List Int) (i m : Nat) (top : Int) : Prop where
  len : (riseL (-1) bs (ts.take i)).length = m
  top : topT (-1) (ts.take i) = top
theorem Tp.start (bs : Int) (ts : List Int) : Tp bs ts 0 0 (-1) := ⟨rfl, rfl⟩
theorem Tp.skip {bs : Int} {ts : List Int} {i m : Nat} {top : Int} (h : Tp bs ts i m top) (hi : i < ts.length) (ht : ts[i] ≤ top) : Tp bs ts (i + 1) m top := by
  have e1 : ts.take (i + 1) = ts.take i ++ [ts[i]] := List.take_succ_eq_append_getElem hi
  exact ⟨by rw [e1, riseL_snoc, h.top, if_neg (by omega), List.append_nil, h.len], by rw [e1, topT_snoc, h.top, if_neg (by omega)]⟩
theorem Tp.rise {bs : Int} {ts : List Int} {i m : Nat} {top : Int} (h : Tp bs ts i m top) (hi : i < ts.length) (ht : top < ts[i]) : Tp bs ts (i + 1) (m + 1) ts[i] ∧ (riseL (-1) bs ts)[m]? = some ⟨bs + (i : Int), ts[i]⟩ := by
  have e1 : ts.take (i + 1) = ts.take i ++ [ts[i]] := List.take_succ_eq_append_getElem hi
  have e2 : ((ts.take i).length : Int) = (i : Int) := by simp; omega
  have e3 : riseL (-1) bs (ts.take (i + 1)) = riseL (-1) bs (ts.take i) ++ [⟨bs + (i : Int), ts[i]⟩] := by rw [e1, riseL_snoc, h.top, if_pos ht, e2]
  refine ⟨⟨by rw [e3, List.length_append, h.len]; rfl, by rw [e1, topT_snoc, h.top, if_pos ht]⟩, ?_⟩
  conv => lhs; rw [← List.take_append_drop (i + 1) ts]
  rw [rise_append, e3, List.append_assoc, List.getElem?_append_right (by rw [h.len]; exact Nat.le_refl _), h.len, Nat.sub_self]
  rfl
theorem Tp.done {bs : Int} {ts : List Int} {m : Nat} {top : Int} (h : Tp bs ts ts.length m top) : (riseL (-1) bs ts).length = m := by
  have := h.len
  rwa [List.take_of_length_le (Nat.le_refl _)] at this
end Go.Proofs.Ytmnfdiffneobpaa
