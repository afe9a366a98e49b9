/-
  A segment and what was written to it: Append, Read.
-/
import Derived.Test.YtlghcboenkglnaaGreatDoorZbs
import Derived.Test.YtlghcboenkglnaaGreatDoorSH
namespace Go.Proofs.YtlghcboenkglnaaGreatDoor
open Go.RowKit
set_option linter.unusedVariables false

/-- A segment on a disk of its own, the bytes and the batches that stand in it. -/
structure Wr (w : World) (T U : Nat → Prop) (s : Nat) (f : Fi) (step : Int) (l : List Idx.Sd) (B : List UInt8) (Q : List (Nat × Int × List Rec.Dr)) (b0 la : Nat) (nl : Bool) (st : Int) (i : Nat) : Prop where
  sg : Sg w T U s f step l [⟨f.nm, B, la, true, nl⟩] [] st i
  nm : Dsk.nameB f.nm = true
  k : f.k = (Q.length : Nat)
  e : f.e = (b0 : Nat) + ((flat Q).length : Nat)
  z : f.z = (B.length : Nat)
  ba : f.ba = (b0 : Nat)
  ch : Rec.Chn B 0 Q
  bs : Bases b0 Q
  sp : Spt b0 Q l
  lx : Lx l f.e f.z
  ll : l.length ≤ Q.length
  fl : (flat Q).length ≤ 256 * Q.length
  bl : B.length ≤ 65536 * Q.length
section
variable {w w' : World} {T U : Nat → Prop} {s : Nat} {f : Fi} {step : Int} {l : List Idx.Sd} {B : List UInt8} {Q : List (Nat × Int × List Rec.Dr)} {b0 la : Nat} {nl : Bool} {st : Int} {i : Nat}
theorem Wr.chg {S : Nat → Prop} (h : Wr w T U s f step l B Q b0 la nl st i) (hc : Chg w w' S) (h1 : ¬ S s) (h2 : ∀ k, T k → ¬ S k) (h3 : ∀ k, U k → ¬ S k) : Wr w' T U s f step l B Q b0 la nl st i :=
  ⟨h.sg.chg hc h1 h2 h3, h.nm, h.k, h.e, h.z, h.ba, h.ch, h.bs, h.sp, h.lx, h.ll, h.fl, h.bl⟩
theorem Wr.grown (h : Wr w T U s f step l B Q b0 la nl st i) (hg : w.grownBy w' none) : Wr w' T U s f step l B Q b0 la nl st i :=
  ⟨h.sg.grown hg, h.nm, h.k, h.e, h.z, h.ba, h.ch, h.bs, h.sp, h.lx, h.ll, h.fl, h.bl⟩
/-- What Append leaves. -/
def ApW (w w' : World) (T U : Nat → Prop) (s : Nat) (f : Fi) (step : Int) (B : List UInt8) (Q : List (Nat × Int × List Rec.Dr)) (b0 la : Nat) (nl : Bool) (st : Int) (i : Nat) (rs : List Rec.Rc) : Prop :=
  ∃ T' U' f' l', Wr w' T' U' s f' step l' (B ++ Rec.batB f.e rs) (Q ++ [(20 + Rec.szs rs, f.e, Rec.ds rs)]) b0 la nl (st + 1) (i + 22) ∧ f'.d = f.d ∧ f'.nm = f.nm ∧ (∀ k, T' k → T k ∨ w.heap.size ≤ k) ∧ (∀ k, U' k → U k ∨ w.heap.size ≤ k) ∧ Chg w w' (fun k => T k ∨ U k ∨ k = s)
theorem Wr.append (h : Wr w T U s f step l B Q b0 la nl st i) (hi : i + 21 < 4000) (hD : Idx.Dt w) (hT0 : ¬ T 0) (h1 : 1 ≤ step) (hQ : Q.length ≤ 1000) (hb0 : b0 ≤ 9007199254740992) (ao : Option Addr) (n cap : Nat) (rs : List Rec.Rc) (ha : Rec.Rs w ao n cap rs) (hs : Rec.Small rs) :
    Calls Tryz.prog 15 #[.pointer (some ⟨s, 0, none⟩), .agg #[.int .i64 f.e, .slice ao n cap]] w fun e w' => ((Rec.measR f.e rs).2 ≠ 0 ∧ e = .returned (.int .i64 (Rec.measR f.e rs).2) ∧ w.grownBy w' none) ∨
      ((Rec.measR f.e rs).2 = 0 ∧ e = .returned (.int .i64 0) ∧ ApW w w' T U s f step B Q b0 la nl st i rs) := by
  by_cases hm : (Rec.measR f.e rs).2 = 0
  · have hfl := h.fl
    have hbl := h.bl
    have hll := h.ll
    have he := h.e
    have hz := h.z
    have hk := h.k
    refine (append_yes h.sg hi hD hT0 h.lx.good h1 (by omega) ao n cap rs ha hs hm (by omega) (by omega) (by omega) _ (app_one h.nm B la nl st (Rec.batB f.e rs))).mono ?_
    rintro e w2 ⟨rfl, ⟨h0, _⟩ | ⟨_, T', U', h2, h3, h4, h5⟩⟩
    · exact absurd rfl h0
    · right
      refine ⟨hm, rfl, T', U', _, _, ⟨h2, h.nm, ?_, ?_, ?_, h.ba, ?_, ?_, ?_, ?_, ?_, ?_, ?_⟩, rfl, rfl, h3, h4, h5⟩
      all_goals obtain ⟨hf1, hf2, hf3⟩ := Rec.meas_ok hm
      all_goals obtain ⟨hf4, hf5, hf6, hf7, hf8⟩ := Rec.fits_ok hf1
      all_goals have hrl := ha.len
      all_goals have hr0 : 0 < rs.length := List.length_pos_iff.2 hf5
      all_goals have hg : ∀ r ∈ rs, r.k.length = r.kn ∧ r.v.length = r.vn := fun r hr => ⟨((ha.shows r hr).key).len, ((ha.shows r hr).value).len⟩
      · show f.k + 1 = _
        rw [hk, List.length_append, List.length_singleton]; omega
      · show f.e + (n : Int) = _
        rw [flat_snoc, List.length_append, he]
        show _ = (b0 : Int) + (((flat Q).length + (Rec.ds rs).length : Nat) : Int)
        rw [Rec.ds_len]
        omega
      · show f.z + ((20 + Rec.szs rs : Nat) : Int) = _
        have hbt := Rec.bat_len (base := f.e) (Rec.bat_whole hg hm).1
        rw [List.length_append, hz, hbt]
        omega
      · exact chn_snoc hg hm Q 0 h.ch
      · exact bases_snoc h.bs he
      · have hpl := chn_end2 h.ch
        have h9 := (h.sp.add step).snoc (20 + Rec.szs rs, f.e, Rec.ds rs)
        have e1 : f.z = ((pls Q : Nat) : Int) := by rw [hz]; omega
        rw [e1]
        have e2 := he
        rw [← he] at h9
        exact h9
      · exact h.lx.add step (by show f.e < f.e + (n : Int); omega) (by show f.z < f.z + ((20 + Rec.szs rs : Nat) : Int); omega)
      · have h9 := Idx.addR_len step l ⟨f.e, f.z⟩
        rw [List.length_append, List.length_singleton]
        omega
      · rw [flat_snoc, List.length_append, List.length_append, List.length_singleton]
        show (flat Q).length + (Rec.ds rs).length ≤ _
        rw [Rec.ds_len]
        omega
      · have hbt := Rec.bat_len (base := f.e) (Rec.bat_whole hg hm).1
        rw [List.length_append, List.length_append, List.length_singleton, hbt]
        omega
  · refine (append_no1 h.sg f.e ao n cap rs ha hs hm).mono ?_
    rintro e w2 ⟨rfl, hg⟩
    exact .inl ⟨hm, rfl, hg⟩
/-- So many from an offset on. -/
theorem Wr.records (h : Wr w T U s f step l B Q b0 la nl st i) (hi : i ≤ 4000) (hD : Idx.Dt w) (h1 : 1 ≤ step) (hQ : Q.length ≤ 200) (hb : b0 ≤ 9007199254740992) (fr : Int) (ct : Nat) (hct : 0 < ct) (hct2 : ct ≤ 100000) (hfr : (b0 : Int) ≤ fr) :
    Calls Tryz.prog 67 #[f.val, .int .i64 fr, .int .i64 ct] w fun e w' => ∃ ro n rc rs, e = .returned (.tuple #[.slice ro n rc, .int .i64 0]) ∧ Gt w' w.heap.size ro n rc rs ∧ Rec.ds rs = ((flat Q).drop (fr - b0).toNat).take ct ∧ w.grownBy w' none := by
  obtain ⟨k, hk, hp, ho⟩ := find_place h.sp h.lx.srt hfr
  have hll := h.ll
  have hbl := h.bl
  have hfl := h.fl
  have hl1 : (flat (Q.take k)).length + (flat (Q.drop k)).length = (flat Q).length := by rw [flat_split Q k, List.length_append]
  have hch := chn_drop k 0 Q h.ch hk
  rw [Nat.zero_add] at hch
  refine (records_any h.sg.dk hi h.sg.ix (by omega) hD h1 h.lx.good h.lx.srt fr ct hct _ rfl (pls (Q.take k)) hp ((b0 : Int) + ((flat (Q.take k)).length : Nat)) (fr - b0 - ((flat (Q.take k)).length : Nat)).toNat (by omega) B (Q.drop k)
    (fun a ha => by
      have := read_one h.nm B la nl (a : Int) 65536 (by omega) (by omega) (by omega) (by omega)
      simpa using this) h.z (by omega) hch (bases_drop h.bs k) (by omega) (by omega) hct2).mono ?_
  rintro e w2 ⟨ro, n, rc, rs, rfl, h2, h3, h4⟩
  refine ⟨ro, n, rc, rs, rfl, h2, ?_, h4⟩
  rw [h3, flat_split Q k]
  congr 1
  have e1 : (fr - (b0 : Int)).toNat = (flat (Q.take k)).length + (fr - (b0 : Int) - ((flat (Q.take k)).length : Nat)).toNat := by omega
  rw [e1, ← List.drop_drop, List.drop_left]
end
theorem pv_mono {w : World} {T : Nat → Prop} {b i : Nat} {L : List Dsk.Rf} {fs : List (Int × Int)} {st : Int} (h : Dsk.Pv w T b L fs st i) : ∀ n, Dsk.Pv w T b L fs st (i + n)
  | 0 => h
  | n + 1 => (pv_mono h n).mono
theorem small_of {l : List Rec.Rc} {m : Nat} (h : Rec.largeB m l = false) (hm : m ≤ 1000) : Rec.Small l ∧ l.length ≤ m := by
  unfold Rec.largeB at h
  simp only [Bool.or_eq_false_iff, decide_eq_false_iff_not, List.any_eq_false, Bool.or_eq_true, decide_eq_true_eq, not_or] at h
  refine ⟨⟨by omega, fun r hr => ?_⟩, by omega⟩
  have := h.2 r hr
  omega
section
variable {w w' W1 : World} {T U : Nat → Prop} {s : Nat} {f : Fi} {step : Int} {l : List Idx.Sd} {B : List UInt8} {Q : List (Nat × Int × List Rec.Dr)} {b0 la : Nat} {nl : Bool} {st : Int} {i : Nat}
theorem Wr.mono (h : Wr w T U s f step l B Q b0 la nl st i) (n : Nat) : Wr w T U s f step l B Q b0 la nl st (i + n) :=
  ⟨⟨h.sg.seg, pv_mono h.sg.dk n, h.sg.ix, h.sg.tu, h.sg.ts, h.sg.us⟩, h.nm, h.k, h.e, h.z, h.ba, h.ch, h.bs, h.sp, h.lx, h.ll, h.fl, h.bl⟩
/-- A segment that was made behind W1, with as many batches as this at most. -/
def Wn (W1 w : World) (s : Nat) (step : Int) (b0 q i : Nat) (f : Fi) : Prop :=
  ∃ T U l B Q st, Wr w T U s f step l B Q b0 0 false st i ∧ Q.length ≤ q ∧ (∀ k, T k → W1.heap.size ≤ k) ∧ (∀ k, U k → W1.heap.size ≤ k) ∧ W1.heap.size ≤ s ∧ W1.grownBy w none
theorem Wn.grown {q : Nat} (h : Wn W1 w s step b0 q i f) (hg : w.grownBy w' none) : Wn W1 w' s step b0 q i f := by
  obtain ⟨T, U, l, B, Q, st, h1, h2, h3, h4, h5, h6⟩ := h
  exact ⟨T, U, l, B, Q, st, h1.grown hg, h2, h3, h4, h5, grown_trans h6 hg (by simp)⟩
theorem Wn.gr {q : Nat} (h : Wn W1 w s step b0 q i f) : W1.grownBy w none := by
  obtain ⟨_, _, _, _, _, _, _, _, _, _, _, h8⟩ := h
  exact h8
theorem Wn.nn {q : Nat} (h : Wn W1 w s step b0 q i f) : w.heap.size > s := by
  obtain ⟨_, _, _, _, _, _, h8, _⟩ := h
  exact h8.sg.seg.lt
/-- Append, whether it goes well or not. -/
theorem Wn.append {q : Nat} (h : Wn W1 w s step b0 q i f) (hi : i + 21 < 4000) (hD : Idx.Dt W1) (hT0 : 0 < W1.heap.size) (h1 : 1 ≤ step) (hQ : q ≤ 1000) (hb0 : b0 ≤ 9007199254740992) (ao : Option Addr) (n cap : Nat) (rs : List Rec.Rc) (ha : Rec.Rs w ao n cap rs) (hs : Rec.Small rs) :
    Calls Tryz.prog 15 #[.pointer (some ⟨s, 0, none⟩), .agg #[.int .i64 f.e, .slice ao n cap]] w fun e w' => (∃ v, e = .returned v) ∧ ∃ f', Wn W1 w' s step b0 (q + 1) (i + 22) f' := by
  obtain ⟨T, U, l, B, Q, st, h2, h3, h4, h5, h6, h7⟩ := h
  refine (h2.append hi (hD.grown h7) (fun e => by have := h4 0 e; omega) h1 (by omega) hb0 ao n cap rs ha hs).mono ?_
  rintro e w2 (⟨_, rfl, hg⟩ | ⟨_, rfl, T', U', f', l', hW, _, _, hT, hU, hC⟩)
  · exact ⟨⟨_, rfl⟩, f, T, U, l, B, Q, st, (h2.grown hg).mono 22, by omega, h4, h5, h6, grown_trans h7 hg (by simp)⟩
  · have hsz := h7.size
    refine ⟨⟨_, rfl⟩, f', T', U', l', _, _, _, hW, by rw [List.length_append, List.length_singleton]; omega, fun k hk => ?_, fun k hk => ?_, h6, ?_⟩
    · rcases hT k hk with h8 | h8
      · exact h4 k h8
      · omega
    · rcases hU k hk with h8 | h8
      · exact h5 k h8
      · omega
    · refine ((Chg.of_grown h7 (fun k => W1.heap.size ≤ k)).trans (hC.mono (fun k _ e => ?_))).grown (fun k hk e => by omega)
      rcases e with e | e | e
      · exact h4 k e
      · exact h5 k e
      · omega
end
end Go.Proofs.YtlghcboenkglnaaGreatDoor
