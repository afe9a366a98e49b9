/-
  One call of a script on both readers: List.
-/
import Derived.Test.YtocicepnlepfeaaR5
namespace Go.Proofs.Ytocicepnlepfeaa
open Go.RowKit
set_option linter.unusedVariables false

/-- From q on the slices us are copies of their own, in blocks of their own. -/
structure FrsFr (w : World) (base : Nat) (us : List (Option Addr × Nat × Nat)) (ls : List (List UInt8)) (q : Nat) : Prop where
  own : ∀ (j : Nat) (u : Option Addr × Nat × Nat) (s : List UInt8), q ≤ j → us[j]? = some u → ls[j]? = some s → ∃ gg, u = (some ⟨gg, 0, none⟩, s.length, s.length) ∧ Ow w base 5 (some ⟨gg, 0, none⟩) s.length s.length s
  apart : ∀ (i j : Nat) (u v : Option Addr × Nat × Nat), i < j → us[i]? = some u → us[j]? = some v → blk u.1 ≠ blk v.1

theorem FrsTo.all {w : World} {base v : Nat} {us : List (Option Addr × Nat × Nat)} {ls : List (List UInt8)} (h : FrsTo w base us ls v) (hl : us.length = v) : FrsFr w base us ls 0 :=
  ⟨fun j u s _ hu hs => h.own j u s (by rw [← hl]; exact (List.getElem?_eq_some_iff.1 hu).1) hu hs, fun i j u v hij hu hv => h.apart i j u v hij (by rw [← hl]; exact (List.getElem?_eq_some_iff.1 hv).1) hu hv⟩

theorem FrsFr.next {w : World} {base q : Nat} {us : List (Option Addr × Nat × Nat)} {ls : List (List UInt8)} (h : FrsFr w base us ls q) : FrsFr w base us ls (q + 1) :=
  ⟨fun j u s hj hu hs => h.own j u s (by omega) hu hs, h.apart⟩

theorem FrsFr.grown {w w' : World} {base q : Nat} {us : List (Option Addr × Nat × Nat)} {ls : List (List UInt8)} (h : FrsFr w base us ls q) (hg : w.grownBy w' none) : FrsFr w' base us ls q :=
  ⟨fun j u s hj hu hs => by obtain ⟨gg, h1, h2⟩ := h.own j u s hj hu hs; exact ⟨gg, h1, h2.grown hg⟩, h.apart⟩

theorem FrsFr.other {w w' : World} {base q gg m c : Nat} {us : List (Option Addr × Nat × Nat)} {ls : List (List UInt8)} (h : FrsFr w base us ls (q + 1)) (hu : us[q]? = some (some ⟨gg, 0, none⟩, m, c)) (hg : w.grownBy w' (some gg)) : FrsFr w' base us ls (q + 1) :=
  ⟨fun j u s hj hu2 hs => by
    obtain ⟨g2, h1, h2⟩ := h.own j u s hj hu2 hs
    have h3 := h.apart q j _ _ (by omega) hu hu2
    rw [h1] at h3
    exact ⟨g2, h1, h2.kept hg (Or.inr (fun e => h3 e.symm))⟩, h.apart⟩

/-- What stands when both lists are read and the first q strings are turned. -/
structure Lsk (w wr : World) (b g o cp rb ab aof n cap v : Nat) (L D : List UInt8) (lo : Option Addr) (lc : Nat) (us : List (Option Addr × Nat × Nat)) (lo' : Option Addr) (lc' : Nat) (us' : List (Option Addr × Nat × Nat)) (at2 q : Nat) : Prop where
  lx : Lr wr (w.heap.size + 1) 22 lo v lc us
  ly : Lr wr (w.heap.size + 1) 22 lo' v lc' us'
  fr : FrsFr wr (w.heap.size + 1) us (its v D) q
  ing : InG wr ab us' (its v D) 0
  both : Both wr b g o cp rb (some ⟨ab, aof, none⟩) n cap L at2
  gs : Gs (Two b rb) w wr

theorem Lsk.grown {w wr w' : World} {b g o cp rb ab aof n cap v : Nat} {L D : List UInt8} {lo : Option Addr} {lc : Nat} {us : List (Option Addr × Nat × Nat)} {lo' : Option Addr} {lc' : Nat} {us' : List (Option Addr × Nat × Nat)} {at2 q : Nat}
    (h : Lsk w wr b g o cp rb ab aof n cap v L D lo lc us lo' lc' us' at2 q) (hg : wr.grownBy w' none) : Lsk w w' b g o cp rb ab aof n cap v L D lo lc us lo' lc' us' at2 q :=
  ⟨h.lx.grown hg, h.ly.grown hg, h.fr.grown hg, h.ing.kept hg (by simp), h.both.grown hg, h.gs.then hg (by simp)⟩

theorem Lsk.next {w wr : World} {b g o cp rb ab aof n cap v : Nat} {L D : List UInt8} {lo : Option Addr} {lc : Nat} {us : List (Option Addr × Nat × Nat)} {lo' : Option Addr} {lc' : Nat} {us' : List (Option Addr × Nat × Nat)} {at2 q : Nat}
    (h : Lsk w wr b g o cp rb ab aof n cap v L D lo lc us lo' lc' us' at2 q) : Lsk w wr b g o cp rb ab aof n cap v L D lo lc us lo' lc' us' at2 (q + 1) :=
  ⟨h.lx, h.ly, h.fr.next, h.ing, h.both, h.gs⟩

/-- A byte of the string before is turned. -/
theorem Lsk.write {w wr w' : World} {b g o cp rb ab aof n cap v : Nat} {L D : List UInt8} {lo : Option Addr} {lc : Nat} {us : List (Option Addr × Nat × Nat)} {lo' : Option Addr} {lc' : Nat} {us' : List (Option Addr × Nat × Nat)} {at2 q gg m c : Nat} {l' : List UInt8}
    (h : Lsk w wr b g o cp rb ab aof n cap v L D lo lc us lo' lc' us' at2 (q + 1)) (hu : us[q]? = some (some ⟨gg, 0, none⟩, m, c)) (ho : Ow wr (w.heap.size + 1) 5 (some ⟨gg, 0, none⟩) m c l') (hg : wr.grownBy w' (some gg))
    (hb : b < w.heap.size) (hgl : g < w.heap.size) (hr : rb < w.heap.size) (ha : ab < w.heap.size) : Lsk w w' b g o cp rb ab aof n cap v L D lo lc us lo' lc' us' at2 (q + 1) := by
  have hgg := (ho.from_base gg rfl).1
  have h1 := h.lx.apart ho (by decide)
  have h2 := h.ly.apart ho (by decide)
  simp only [blk, Option.map_some] at h1 h2
  refine ⟨h.lx.kept hg ?_, h.ly.kept hg ?_, h.fr.other hu hg, h.ing.kept hg (by simp; omega), ⟨h.both.rd.kept hg (by simp; omega) (by simp; omega), h.both.rf.kept hg (by simp; omega) (fun a ha => by obtain rfl := Option.some.inj ha; simp; omega), h.both.ne, h.both.ab, h.both.gr⟩, h.gs.then hg (fun k hk => Or.inr (by simp at hk; omega))⟩
  · rcases h1 with h1 | h1
    · cases h1
    · exact Or.inr (fun e => h1 e.symm)
  · rcases h2 with h2 | h2
    · cases h2
    · exact Or.inr (fun e => h2 e.symm)

set_option maxRecDepth 100000 in
set_option maxHeartbeats 2000000 in
theorem ask_lst_err (w : World) (b g o cp rb : Nat) (ao : Option Addr) (n cap : Nat) (L : List UInt8) (at' : Nat) (h : Both w b g o cp rb ao n cap L at') (N M c : Int)
    (H1 : ∀ w0, Rd w0 b g o (n - at') cp (L.drop at') at' → Calls Try.prog 49 #[.pointer (some ⟨b, 0, none⟩), .int .i64 N, .int .i64 M] w0 fun e w' => e = .returned (.tuple #[.slice none 0 0, .int .i64 c]) ∧ w0.grownBy w' none)
    (H2 : ∀ w0, Rf w0 rb ao n cap L at' → Calls Try.prog 50 #[.pointer (some ⟨rb, 0, none⟩), .int .i64 N, .int .i64 M] w0 fun e w' => e = .returned (.tuple #[.slice none 0 0, .int .i64 c]) ∧ Rf w' rb ao n cap L at' ∧ w0.grownBy w' (some rb)) :
    Calls Try.prog 31 #[.pointer (some ⟨b, 0, none⟩), .pointer (some ⟨rb, 0, none⟩), .agg #[.int .i64 7, .int .i64 N, .int .i64 M]] w fun e w' => AskOk w w' b g rb ao n cap L e := by
  have hga := World.grownBy_alloc w (.cells #[.int .i64 7, .int .i64 N, .int .i64 M] 59) none
  have hb := h.grown hga
  have hrl := h.rf.lt
  have hbx := Bx.laid w 7 N M 59
  go_enter Try.func31, Try.ntmps31
  go_wp2_with fail
  refine (H1 _ hb.rd).mono ?_
  rintro e w1 ⟨rfl, hg1⟩
  have hb1 := hb.grown hg1
  have hbx1 := hbx.kept hg1 (by simp)
  have k1 := hbx1.c1
  have k2 := hbx1.c2
  clear hbx hb H1
  go_wp2_with fail
  refine (H2 _ hb1.rf).mono ?_
  rintro e w2 ⟨rfl, hr2, hg2⟩
  have hb2 : Both w2 b g o cp rb ao n cap L at' := ⟨hb1.rd.kept hg2 (by simpa using hb1.ne) (by simpa using hb1.gr), hr2, hb1.ne, hb1.ab, hb1.gr⟩
  have hGs := ((Gs.of (S := Two b rb) hga (by simp)).then hg1 (by simp)).then hg2 (fun q hq => Or.inl (Or.inr (by simpa using hq.symm)))
  clear hb1 hbx1 k1 k2 hr2 hg1 hg2 H2
  go_wp2_with (go_at_call 27; refine (num_any _ _).mono ?_; rintro e w' ⟨rfl, rfl⟩)
  go_loopw [17, 18] (fun i _ wr => i = .int .i64 0 ∧ Both wr b g o cp rb ao n cap L at' ∧ Gs (Two b rb) w wr) (fun _ _ _ => 0)
  case atStart => exact ⟨rfl, hb2, hGs⟩
  case round =>
    obtain ⟨rfl, hbr, hgr⟩ := hrel
    go_wp2
    go_ret
    exact ⟨rfl, ⟨_, _, _, hbr⟩, hgr⟩

set_option maxRecDepth 100000 in
set_option maxHeartbeats 4000000 in
theorem ask_lst_ok (w : World) (b g o cp rb ab aof n cap : Nat) (L : List UInt8) (at' : Nat) (h : Both w b g o cp rb (some ⟨ab, aof, none⟩) n cap L at') (N M v : Nat) (hN : N < 9223372036854775808) (hM : M < 9223372036854775808) (hn : 4 ≤ n - at') (hV : Hid (v = val ((L.drop at').take 4))) (hvl : v < 4294967296) (hv : v ≤ N) (hl0 : Hid (lErr M v (L.drop (at' + 4)) = 0)) :
    Calls Try.prog 31 #[.pointer (some ⟨b, 0, none⟩), .pointer (some ⟨rb, 0, none⟩), .agg #[.int .i64 7, .int .i64 N, .int .i64 M]] w fun e w' => AskOk w w' b g rb (some ⟨ab, aof, none⟩) n cap L e := by
  have hga := World.grownBy_alloc w (.cells #[.int .i64 7, .int .i64 N, .int .i64 M] 59) none
  have hb := h.grown hga
  have hrl := h.rf.lt
  have hbl := h.rd.lt
  have hgl := h.rd.gl
  have hal : ab < w.heap.size := by obtain ⟨b, o, e1, e2⟩ := h.rf.bs.addr (by omega); cases e1; exact e2
  have hbx := Bx.laid w 7 N M 59
  have hDD : Hid ((L.drop at').drop 4 = L.drop (at' + 4)) := by show _ = _; rw [List.drop_drop]
  have hwh : (w.alloc (.cells #[.int .i64 7, .int .i64 N, .int .i64 M] 59)).heap.size = w.heap.size + 1 := by simp
  generalize hD : L.drop (at' + 4) = D at *
  have HD : Hid (L.drop (at' + 4) = D) := hD
  clear hD
  go_enter Try.func31, Try.ntmps31
  go_wp2_with fail
  refine (list_any _ b g o _ cp N M v _ at' hb.rd hN hM hn hV hvl hv).mono ?_
  rw [hDD.out]
  rintro e w1 (⟨_, ⟨lo, lc, us, o2, cp2, at2, n2, rfl, hLx, hFx, hr1, hat⟩, hg1⟩ | ⟨hno, _⟩)
  case inr => exact absurd hl0.out hno
  have hf1 := hb.rf1 hg1
  have hbx1 := hbx.kept hg1 (by simp; omega)
  have k1 := hbx1.c1
  have k2 := hbx1.c2
  have hs1 := hg1.size
  rw [hwh] at hLx hFx hs1
  clear hbx
  go_wp2_with fail
  refine (refLst_any _ rb ab aof n cap N M v L at' hf1 hN hM hn hV hvl hv).mono ?_
  rw [HD.out]
  rintro e w2 (⟨_, ⟨lo', lc', us', at3, rfl, hLy, hIn, hf2, hat3⟩, hg2⟩ | ⟨hno, _⟩)
  case inr => exact absurd hl0.out hno
  have hr2 := hr1.kept hg2 (by simpa using h.ne) (by simpa using h.gr)
  have h23 : at2 = at3 ∧ n2 = n - at3 := by
    have e1 := hr2.bs.len
    have e2 := hf2.left_len
    have e3 := hf2.le
    have e4 := h.rf.le
    rw [hat3, e1] at e2
    omega
  obtain ⟨rfl, rfl⟩ := h23
  rw [← hat3] at hr2
  have hK : Lsk w w2 b g o2 cp2 rb ab aof n cap v L D lo lc us lo' lc' us' at2 0 := by
    refine ⟨hLx.kept hg2 (Or.inr (fun e1 => by have := hLx.from_base _ e1; omega)), ⟨hLy.len, ownsRow_le' hLy.row hs1⟩, (hFx.kept hg2 (fun k hk e1 => by simp at e1; omega)).all hLx.len, hIn, ⟨hr2, hf2, h.ne, h.ab, h.gr⟩, ?_⟩
    exact (((Gs.of (S := Two b rb) hga (by simp)).then hg1 (fun q hq => Or.inl (Or.inl (by simpa using hq.symm)))).then hg2 (fun q hq => Or.inl (Or.inr (by simpa using hq.symm))))
  clear hLx hFx hr1 hat hg1 hf1 hbx1 k1 k2 hs1 hwh hLy hIn hf2 hat3 hg2 hr2 hb hga
  go_wp2_with (go_at_call 27; refine (num_any _ _).mono ?_; rintro e w' ⟨rfl, rfl⟩)
  go_loopw [17, 18] (fun i _ wr => ∃ q : Nat, q ≤ v ∧ i = .int .i64 q ∧ Lsk w wr b g o2 cp2 rb ab aof n cap v L D lo lc us lo' lc' us' at2 q) (fun i _ _ => v - (intOf i).toNat)
  case atStart => exact ⟨0, Nat.zero_le _, rfl, hK⟩
  case round =>
    obtain ⟨q, hq, rfl, hKr⟩ := hrel
    clear hK
    by_cases hlt : q < v
    · obtain ⟨lb, hlo, hlb1, hlb2⟩ := hKr.lx.addr (by omega)
      obtain ⟨lb', hlo', hlb1', hlb2'⟩ := hKr.ly.addr (by omega)
      subst hlo hlo'
      have hql : q < us.length := by rw [hKr.lx.len]; exact hlt
      have hql' : q < us'.length := by rw [hKr.ly.len]; exact hlt
      obtain ⟨u, hu⟩ : ∃ u, us[q]? = some u := ⟨_, List.getElem?_eq_getElem hql⟩
      obtain ⟨⟨uo', um', uc'⟩, hu'⟩ : ∃ u, us'[q]? = some u := ⟨_, List.getElem?_eq_getElem hql'⟩
      have hs := its_get D hlt
      obtain ⟨gg, hueq, how⟩ := hKr.fr.own q u _ (Nat.le_refl _) hu hs
      subst hueq
      obtain ⟨hby, _⟩ := hKr.ing.shows q _ _ (Nat.zero_le _) hu' hs
      obtain ⟨s, hse⟩ : ∃ s, s = sItem (rst q D) := ⟨_, rfl⟩
      rw [← hse] at how hu hby
      clear hse hs
      obtain ⟨m, hm⟩ : ∃ m, m = s.length := ⟨_, rfl⟩
      rw [← hm] at how hu
      clear hm
      have hcx := hKr.lx.cell hu
      have hcy := hKr.ly.cell hu'
      have hbx := how.shows
      have hmt := hbx.top
      unfold maxLen at hmt
      have HU : Hid (us[q]? = some (some ⟨gg, 0, none⟩, m, m)) := hu
      simp only at hby hcx hcy
      clear hu hu'
      go_wp2_with fail
      go_quiet ((go_at_call 18; exact Calls.quiet_of_same (same_true _ _ _ _ _ _ _ s (hbx.grown (grown_drewN _ _ none)) (hby.grown (grown_drewN _ _ none)))))
      have hK2 := (hKr.grown (grown_drewN wr nq none)).next
      have how2 := how.grown (grown_drewN wr nq none)
      clear hKr how hcx hcy hbx hby
      generalize wr.drewN nq = w5 at *
      go_wp2_with fail
      go_loopw [18] (fun k w6 => ∃ (p : Nat) (l' : List UInt8), p ≤ m ∧ k = .int .i64 p ∧ Ow w6 (w.heap.size + 1) 5 (some ⟨gg, 0, none⟩) m m l' ∧ Lsk w w6 b g o2 cp2 rb ab aof n cap v L D (some ⟨lb, 0, none⟩) lc us (some ⟨lb', 0, none⟩) lc' us' at2 (q + 1)) (fun k _ => m - (intOf k).toNat)
      case atStart => exact ⟨0, _, Nat.zero_le _, rfl, how2, hK2⟩
      case round =>
        obtain ⟨p, l', hp, rfl, ho6, hK6⟩ := hrel
        have hc6 := hK6.lx.cell HU.out
        simp only at hc6
        clear how2 hK2
        by_cases hlt2 : p < m
        · have hfz := ho6.there
          have hj : p < l'.length := by rw [ho6.len]; exact hlt2
          have hcell := ho6.shows.at hj
          rw [Nat.zero_add] at hcell
          have hset := ho6.set p 9
          have hK7 := hK6.write HU.out ho6 (setCell_grown _ gg p (bv 9)) hbl hgl hrl hal
          clear hK6 ho6
          go_wp2
          go_roundw
          case rel => exact ⟨p + 1, _, by omega, by go_num, hset, hK7⟩
          case measure => simp [intOf]; omega
        · obtain rfl : p = m := by omega
          go_wp2
          go_roundw
          case rel => exact ⟨q + 1, by omega, by go_num, hK6⟩
          case measure => simp [intOf]; omega
    · obtain rfl : q = v := by omega
      go_wp2
      go_ret
      exact ⟨rfl, ⟨_, _, _, hKr.both⟩, hKr.gs⟩

end Go.Proofs.Ytocicepnlepfeaa
