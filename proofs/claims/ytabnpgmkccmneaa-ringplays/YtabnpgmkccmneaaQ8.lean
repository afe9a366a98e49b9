/-
  ask: Put.
-/
import Derived.Test.YtabnpgmkccmneaaQ7
import Derived.Test.YtabnpgmkccmneaaP1
namespace Go.Proofs.Ytabnpgmkccmneaa
open Go.RowKit Go.Shelf
set_option linter.unusedVariables false

theorem Vs.begin {w : World} {ao : Option Addr} {n cap : Nat} {l k : List Value} (h : Vs w ao n cap (l ++ k)) : Vs w ao l.length cap l := by
  have h1 := h.len
  have h2 := h.room
  rw [List.length_append] at h1
  exact ⟨rfl, by omega, h.top, h.nil, fun u hu => h.one u (List.mem_append_left _ hu), fun a ha j u hu => h.cells a ha j u (by rw [List.getElem?_append_left (List.getElem?_eq_some_iff.1 hu).1]; exact hu)⟩

theorem Vo.spoilable {w : World} {base : Nat} {ao : Option Addr} {n cap : Nat} {l : List Value} (h : Vo w base 3 ao n cap l) (hn : 0 < n) : ∃ g cur, ao = some ⟨g, 0, none⟩ ∧ Ro w g 3 cur ∧ n ≤ cur.length ∧ base ≤ g := by
  rcases h.row.2 with ⟨_, h0⟩ | ⟨g, c, cur, hv, hg, hh, hn2, _, hs, _⟩
  · omega
  · simp only [Value.slice.injEq] at hv
    exact ⟨g, cur.toList, hv.1, by unfold Ro; rw [hh], by simp; omega, hg⟩

set_option maxRecDepth 100000 in
set_option maxHeartbeats 4000000 in
theorem ask_put (w : World) (b g rb bnd f : Nat) (lo : Option Addr) (n c : Nat) (L : List Int) (h : As w b g rb bnd f lo n c L) (xo : Option Addr) (m cx : Nat) (K N M : Int) (A : List Int) (hx : Vs w xo m cx (A.map (.int .i64))) (hm : m ≤ 300) (hxb : 0 < m → ∀ a, xo = some a → a.block ≠ b ∧ a.block ≠ g ∧ a.block ≠ rb) (hK : K = 0 ∨ K = 1) (hr : n + m ≤ bnd) :
    Calls Try.prog 10 #[.pointer (some ⟨b, 0, none⟩), .pointer (some ⟨rb, 0, none⟩), .agg #[.int .i64 K, .int .i64 N, .int .i64 M, .slice xo m cx]] w fun e w' => e = .returned (.bool true) ∧ Done w w' b g rb bnd lo := by
  have hga := World.grownBy_alloc w (.cells #[.int .i64 K, .int .i64 N, .int .i64 M, .slice xo m cx] 36) none
  obtain ⟨q0, q1, q2, q3⟩ := box4 w (.int .i64 K) (.int .i64 N) (.int .i64 M) (.slice xo m cx) 36
  have hA := h.grown hga
  have hlr := h.r.lt
  have hlg := h.r.glt
  have hlrb := h.d.lt
  have hnl := h.d.len
  obtain ⟨ap1, ap2, ap3⟩ := h.ap
  have hlo := h.lo
  have hs1 := hga.size
  have hle := h.d.le
  have htop := h.d.top
  have hAl : A.length = m := by have := hx.len; rwa [List.length_map] at this
  have ek : ((K == 0) = true) ∨ ((K == 0) = false ∧ (K == 1) = true) := by
    rcases hK with rfl | rfl
    · exact Or.inl rfl
    · exact Or.inr ⟨rfl, rfl⟩
  have HK : Hid (K = 0 ∨ K = 1) := hK
  clear hK
  rcases ek with ek | ⟨ek, ek1⟩
  · go_enter Try.func10, Try.ntmps10
    go_wp2_with fail
    refine wp_region_any (by kernel_rfl) ?_
    change wpAny _ _ _ _ _ _ _ (World.drew _)
    have hgd := grown_trans hga (grown_drewN (w.alloc (.cells #[.int .i64 K, .int .i64 N, .int .i64 M, .slice xo m cx] 36)) 1 none) (by simp)
    have p3a : (World.drew (w.alloc (.cells #[.int .i64 K, .int .i64 N, .int .i64 M, .slice xo m cx] 36))).cell? ⟨w.heap.size, 3, none⟩ = some (.slice xo m cx) := q3
    refine regA (by kernel_rfl) (zs := A.map (.int .i64)) p3a (hx.grown hgd) hm rfl rfl rfl ?_
    rintro ⟨tm, df⟩ w2 ao cap hsz hdf hsame t7 hvo hg2
    have e := frame_but _ hsz hsame
    have g7 : tm.getD 7 undef = _ := getD_of t7
    obtain ⟨v30, g30⟩ : ∃ v, tm.getD 30 undef = v := ⟨_, rfl⟩
    obtain ⟨v31, g31⟩ : ∃ v, tm.getD 31 undef = v := ⟨_, rfl⟩
    obtain ⟨v32, g32⟩ : ∃ v, tm.getD 32 undef = v := ⟨_, rfl⟩
    obtain ⟨v33, g33⟩ : ∃ v, tm.getD 33 undef = v := ⟨_, rfl⟩
    obtain ⟨v34, g34⟩ : ∃ v, tm.getD 34 undef = v := ⟨_, rfl⟩
    obtain ⟨v35, g35⟩ : ∃ v, tm.getD 35 undef = v := ⟨_, rfl⟩
    obtain ⟨v36, g36⟩ : ∃ v, tm.getD 36 undef = v := ⟨_, rfl⟩
    obtain ⟨v37, g37⟩ : ∃ v, tm.getD 37 undef = v := ⟨_, rfl⟩
    obtain ⟨v38, g38⟩ : ∃ v, tm.getD 38 undef = v := ⟨_, rfl⟩
    obtain ⟨v39, g39⟩ : ∃ v, tm.getD 39 undef = v := ⟨_, rfl⟩
    simp only [List.foldl_cons, List.foldl_nil, g7, g30, g31, g32, g33, g34, g35, g36, g37, g38, g39, List.setIfInBounds_toArray, List.set_cons_succ, List.set_cons_zero] at e
    obtain rfl : df = [] := hdf
    clear hsz hsame t7 g7 g30 g31 g32 g33 g34 g35 g36 g37 g38 g39
    subst e
    have hsd : w.heap.size + 1 ≤ (World.drew (w.alloc (.cells #[.int .i64 K, .int .i64 N, .int .i64 M, .slice xo m cx] 36))).heap.size := by simp [World.drew]
    have p3 := hg2.cell p3a (by simp)
    have hG2 := grown_trans hgd hg2 (by simp)
    generalize (World.drew (w.alloc (.cells #[.int .i64 K, .int .i64 N, .int .i64 M, .slice xo m cx] 36))) = wd at *
    have hB := h.grown hG2
    have hvm : Vs w2 ao m cap (A.map (.int .i64)) := by
      have h8 := hvo.shows.begin
      rwa [List.length_map, hAl] at h8
    obtain ⟨ga, cur, rfl, hro, hcur, hga2⟩ := hvo.spoilable (by omega)
    have hs2 := hG2.size
    have hs22 := hg2.size
    have hgal := hro.lt
    clear hA q0 q1 q2 q3 hgd hg2
    go_wp2_with (go_at_call 22; refine (Ri.put_any _ b g bnd f m cap _ _ _ hB.r hvm (by rw [List.length_map, hnl]; exact hr) (fun a ha => by obtain rfl := Option.some.inj ha; show ga ≠ g; omega) (Or.inr ⟨_, _, rfl⟩)).mono ?_)
    rintro e w3 ⟨rfl, hr3, hc3⟩
    rw [← List.map_append] at hr3
    have hd3 := hB.d.chg hc3 (by rintro (e | e) <;> omega) (fun a ha => by rintro (e | e); exact (ap3 a ha).1 e; exact (ap3 a ha).2 e)
    have hC3 : Chg w w3 (three b g rb) := (Chg.of_grown hG2 _).trans (two_three hc3 rb)
    have hvo3 := hvo.chg hc3 (fun a ha => by obtain rfl := Option.some.inj ha; rintro (e | e) <;> (change ga = _ at e; omega))
    have hs3 := hc3.size
    have hx3 := hx.chg0 hC3 (fun h0 a ha => by rintro (e | e | e); exact (hxb h0 a ha).1 e; exact (hxb h0 a ha).2.1 e; exact (hxb h0 a ha).2.2 e)
    have r3 := hc3.cell p3 (by rintro (e | e) <;> (change w.heap.size = _ at e; omega))
    have k77 := hvo3.shows.at (j := m) (u := .int .i64 77) (by rw [List.getElem?_append_right (by simp; omega)]; simp [hAl])
    rw [Nat.zero_add] at k77
    have hvm3 : Vs w3 (some ⟨ga, 0, none⟩) m cap (A.map (.int .i64)) := by
      have h8 := hvo3.shows.begin
      rwa [List.length_map, hAl] at h8
    have hrm3 := hvo3.shows.room
    have hb0 : ¬ cap = 0 := by omega
    have hb1 : (0 : Int) ≤ (m : Int) + 1 := by omega
    have hb2 : (m : Int) + 1 ≤ (cap : Int) := by omega
    have hb3 : IntKind.i64.wrap ((m : Int) + 1) = (m : Int) + 1 := by rw [IntKind.wrap_i64]; omega
    have hb4 : ((m : Int) + 1).toNat = m + 1 := by omega
    have hb5 : (0 : Int) ≤ (m : Int) := by omega
    have hb6 : (m : Int) < (m : Int) + 1 := by omega
    have hb7 : m < m + 1 := by omega
    clear hvo hvm hro p3 hB
    have hgd3 : w3.grownBy w3.drew none := grown_drewN w3 1 none
    have u1 : w3.drew.cell? ⟨w.heap.size, 3, none⟩ = _ := hgd3.cell r3 (by simp)
    have u2 : w3.drew.cell? ⟨ga, m, none⟩ = _ := hgd3.cell k77 (by simp)
    go_wp2_with fail
    go_region_held3 (fun w' => w'.cell? ⟨w.heap.size, 3, none⟩ = some (.slice xo m cx) ∧ w'.cell? ⟨ga, m, none⟩ = some (.int .i64 77)) (first | exact ⟨r3, k77⟩ | exact ⟨u1, u2⟩ | exact ⟨x1, x2⟩ | exact ⟨y1, y2⟩)
      ((first
        | (go_at_call 8; refine (num_any _ _).mono ?_; rintro e w' ⟨rfl, hw'⟩; replace hw' := hw'.symm; subst hw')
        | (go_at_call 14; refine (same_yes _ _ _ m _ _ A (hvm3.grown hgd3) (hx3.grown hgd3) (by omega)).mono ?_; rintro e w4 ⟨rfl, hg4⟩; have hg34 := grown_trans hgd3 hg4 (by simp); have x1 := hg34.cell r3 (by simp); have x2 := hg34.cell k77 (by simp))
        | (go_at_call 31; refine (refPut_any _ rb bnd lo n c L (hd3.grown hg34) xo m cx A (hx3.grown hg34) hr).mono ?_; rintro e w5 ⟨rfl, ⟨lo5, c5, hd5, hlo5⟩, hc5⟩; have y1 := hc5.cell x1 (by show w.heap.size ≠ rb; omega); have y2 := hc5.cell x2 (by show ga ≠ rb; omega))))
    have hs4 := hg34.size
    have hvo5 := (hvo3.grown hg34).chg hc5 (fun a ha e => by obtain rfl := Option.some.inj ha; change ga = rb at e; omega)
    obtain ⟨ga2, cur5, ega, hro5, hcur5, _⟩ := hvo5.spoilable (by omega)
    cases ega
    have hr5 := (hr3.grown hg34).chg hc5 (fun e => by omega) (fun e => by omega)
    have hs5 := hc5.size
    have hC5 : Chg w w5 (three b g rb) := (hC3.trans (Chg.of_grown hg34 _)).trans (one_three hc5 b g)
    clear hvo5 hvo3 hvm3 hx3 hd3 hr3 hC3 hc3 x1 x2 y1 y2 u1 u2 r3 k77 hc5 hg4 hgd3
    go_wp2_with (go_at_call 32; refine (spoil_any _ ga m cap _ hro5 (by omega) (by omega)).mono ?_; rintro e w6 ⟨rfl, hc6⟩)
    go_ret
    have hs6 := hc6.size
    have hD : As w6 b g rb bnd f lo5 (n + m) c5 (L ++ A) := ⟨hr5.chg hc6 (fun e => by omega) (fun e => by omega), hd5.chg hc6 (fun e => by omega) (fun a ha e => by have h8 := hlo5 a ha; omega), ⟨ap1, ap2, fun a ha => by have h8 := hlo5 a ha; omega⟩, fun a ha => by have h8 := hlo5 a ha; omega⟩
    exact ⟨rfl, _, lo5, n + m, c5, L ++ A, hD, fun a ha => Or.inr (by have h8 := hlo5 a ha; omega), hC5.new hc6 (by omega)⟩
  · go_enter Try.func10, Try.ntmps10
    go_wp2_with fail
    refine wp_region_any (by kernel_rfl) ?_
    change wpAny _ _ _ _ _ _ _ (World.drew _)
    have hgd := grown_trans hga (grown_drewN (w.alloc (.cells #[.int .i64 K, .int .i64 N, .int .i64 M, .slice xo m cx] 36)) 1 none) (by simp)
    have p3a : (World.drew (w.alloc (.cells #[.int .i64 K, .int .i64 N, .int .i64 M, .slice xo m cx] 36))).cell? ⟨w.heap.size, 3, none⟩ = some (.slice xo m cx) := q3
    refine regA (by kernel_rfl) (zs := A.map (.int .i64)) p3a (hx.grown hgd) hm rfl rfl rfl ?_
    rintro ⟨tm, df⟩ w2 ao cap hsz hdf hsame t7 hvo hg2
    have e := frame_but _ hsz hsame
    have g7 : tm.getD 7 undef = _ := getD_of t7
    obtain ⟨v30, g30⟩ : ∃ v, tm.getD 30 undef = v := ⟨_, rfl⟩
    obtain ⟨v31, g31⟩ : ∃ v, tm.getD 31 undef = v := ⟨_, rfl⟩
    obtain ⟨v32, g32⟩ : ∃ v, tm.getD 32 undef = v := ⟨_, rfl⟩
    obtain ⟨v33, g33⟩ : ∃ v, tm.getD 33 undef = v := ⟨_, rfl⟩
    obtain ⟨v34, g34⟩ : ∃ v, tm.getD 34 undef = v := ⟨_, rfl⟩
    obtain ⟨v35, g35⟩ : ∃ v, tm.getD 35 undef = v := ⟨_, rfl⟩
    obtain ⟨v36, g36⟩ : ∃ v, tm.getD 36 undef = v := ⟨_, rfl⟩
    obtain ⟨v37, g37⟩ : ∃ v, tm.getD 37 undef = v := ⟨_, rfl⟩
    obtain ⟨v38, g38⟩ : ∃ v, tm.getD 38 undef = v := ⟨_, rfl⟩
    obtain ⟨v39, g39⟩ : ∃ v, tm.getD 39 undef = v := ⟨_, rfl⟩
    simp only [List.foldl_cons, List.foldl_nil, g7, g30, g31, g32, g33, g34, g35, g36, g37, g38, g39, List.setIfInBounds_toArray, List.set_cons_succ, List.set_cons_zero] at e
    obtain rfl : df = [] := hdf
    clear hsz hsame t7 g7 g30 g31 g32 g33 g34 g35 g36 g37 g38 g39
    subst e
    have hsd : w.heap.size + 1 ≤ (World.drew (w.alloc (.cells #[.int .i64 K, .int .i64 N, .int .i64 M, .slice xo m cx] 36))).heap.size := by simp [World.drew]
    have p3 := hg2.cell p3a (by simp)
    have hG2 := grown_trans hgd hg2 (by simp)
    generalize (World.drew (w.alloc (.cells #[.int .i64 K, .int .i64 N, .int .i64 M, .slice xo m cx] 36))) = wd at *
    have hB := h.grown hG2
    have hvm : Vs w2 ao m cap (A.map (.int .i64)) := by
      have h8 := hvo.shows.begin
      rwa [List.length_map, hAl] at h8
    obtain ⟨ga, cur, rfl, hro, hcur, hga2⟩ := hvo.spoilable (by omega)
    have hs2 := hG2.size
    have hs22 := hg2.size
    have hgal := hro.lt
    clear hA q0 q1 q2 q3 hgd hg2
    go_wp2_with (go_at_call 22; refine (Ri.put_any _ b g bnd f m cap _ _ _ hB.r hvm (by rw [List.length_map, hnl]; exact hr) (fun a ha => by obtain rfl := Option.some.inj ha; show ga ≠ g; omega) (Or.inr ⟨_, _, rfl⟩)).mono ?_)
    rintro e w3 ⟨rfl, hr3, hc3⟩
    rw [← List.map_append] at hr3
    have hd3 := hB.d.chg hc3 (by rintro (e | e) <;> omega) (fun a ha => by rintro (e | e); exact (ap3 a ha).1 e; exact (ap3 a ha).2 e)
    have hC3 : Chg w w3 (three b g rb) := (Chg.of_grown hG2 _).trans (two_three hc3 rb)
    have hvo3 := hvo.chg hc3 (fun a ha => by obtain rfl := Option.some.inj ha; rintro (e | e) <;> (change ga = _ at e; omega))
    have hs3 := hc3.size
    have hx3 := hx.chg0 hC3 (fun h0 a ha => by rintro (e | e | e); exact (hxb h0 a ha).1 e; exact (hxb h0 a ha).2.1 e; exact (hxb h0 a ha).2.2 e)
    have r3 := hc3.cell p3 (by rintro (e | e) <;> (change w.heap.size = _ at e; omega))
    have k77 := hvo3.shows.at (j := m) (u := .int .i64 77) (by rw [List.getElem?_append_right (by simp; omega)]; simp [hAl])
    rw [Nat.zero_add] at k77
    have hvm3 : Vs w3 (some ⟨ga, 0, none⟩) m cap (A.map (.int .i64)) := by
      have h8 := hvo3.shows.begin
      rwa [List.length_map, hAl] at h8
    have hrm3 := hvo3.shows.room
    have hb0 : ¬ cap = 0 := by omega
    have hb1 : (0 : Int) ≤ (m : Int) + 1 := by omega
    have hb2 : (m : Int) + 1 ≤ (cap : Int) := by omega
    have hb3 : IntKind.i64.wrap ((m : Int) + 1) = (m : Int) + 1 := by rw [IntKind.wrap_i64]; omega
    have hb4 : ((m : Int) + 1).toNat = m + 1 := by omega
    have hb5 : (0 : Int) ≤ (m : Int) := by omega
    have hb6 : (m : Int) < (m : Int) + 1 := by omega
    have hb7 : m < m + 1 := by omega
    clear hvo hvm hro p3 hB
    have hgd3 : w3.grownBy w3.drew none := grown_drewN w3 1 none
    have u1 : w3.drew.cell? ⟨w.heap.size, 3, none⟩ = _ := hgd3.cell r3 (by simp)
    have u2 : w3.drew.cell? ⟨ga, m, none⟩ = _ := hgd3.cell k77 (by simp)
    go_wp2_with fail
    go_region_held3 (fun w' => w'.cell? ⟨w.heap.size, 3, none⟩ = some (.slice xo m cx) ∧ w'.cell? ⟨ga, m, none⟩ = some (.int .i64 77)) (first | exact ⟨r3, k77⟩ | exact ⟨u1, u2⟩ | exact ⟨x1, x2⟩ | exact ⟨y1, y2⟩)
      ((first
        | (go_at_call 8; refine (num_any _ _).mono ?_; rintro e w' ⟨rfl, hw'⟩; replace hw' := hw'.symm; subst hw')
        | (go_at_call 14; refine (same_yes _ _ _ m _ _ A (hvm3.grown hgd3) (hx3.grown hgd3) (by omega)).mono ?_; rintro e w4 ⟨rfl, hg4⟩; have hg34 := grown_trans hgd3 hg4 (by simp); have x1 := hg34.cell r3 (by simp); have x2 := hg34.cell k77 (by simp))
        | (go_at_call 31; refine (refPut_any _ rb bnd lo n c L (hd3.grown hg34) xo m cx A (hx3.grown hg34) hr).mono ?_; rintro e w5 ⟨rfl, ⟨lo5, c5, hd5, hlo5⟩, hc5⟩; have y1 := hc5.cell x1 (by show w.heap.size ≠ rb; omega); have y2 := hc5.cell x2 (by show ga ≠ rb; omega))))
    have hs4 := hg34.size
    have hvo5 := (hvo3.grown hg34).chg hc5 (fun a ha e => by obtain rfl := Option.some.inj ha; change ga = rb at e; omega)
    obtain ⟨ga2, cur5, ega, hro5, hcur5, _⟩ := hvo5.spoilable (by omega)
    cases ega
    have hr5 := (hr3.grown hg34).chg hc5 (fun e => by omega) (fun e => by omega)
    have hs5 := hc5.size
    have hC5 : Chg w w5 (three b g rb) := (hC3.trans (Chg.of_grown hg34 _)).trans (one_three hc5 b g)
    clear hvo5 hvo3 hvm3 hx3 hd3 hr3 hC3 hc3 x1 x2 y1 y2 u1 u2 r3 k77 hc5 hg4 hgd3
    go_wp2_with (go_at_call 32; refine (spoil_any _ ga m cap _ hro5 (by omega) (by omega)).mono ?_; rintro e w6 ⟨rfl, hc6⟩)
    go_ret
    have hs6 := hc6.size
    have hD : As w6 b g rb bnd f lo5 (n + m) c5 (L ++ A) := ⟨hr5.chg hc6 (fun e => by omega) (fun e => by omega), hd5.chg hc6 (fun e => by omega) (fun a ha e => by have h8 := hlo5 a ha; omega), ⟨ap1, ap2, fun a ha => by have h8 := hlo5 a ha; omega⟩, fun a ha => by have h8 := hlo5 a ha; omega⟩
    exact ⟨rfl, _, lo5, n + m, c5, L ++ A, hD, fun a ha => Or.inr (by have h8 := hlo5 a ha; omega), hC5.new hc6 (by omega)⟩

set_option maxRecDepth 100000 in
set_option maxHeartbeats 4000000 in
theorem ask_put_full (w : World) (b g rb bnd f : Nat) (lo : Option Addr) (n c : Nat) (L : List Int) (h : As w b g rb bnd f lo n c L) (xo : Option Addr) (m cx : Nat) (K N M : Int) (A : List Int) (hx : Vs w xo m cx (A.map (.int .i64))) (hm : m ≤ 300) (hxb : 0 < m → ∀ a, xo = some a → a.block ≠ b ∧ a.block ≠ g ∧ a.block ≠ rb) (hK : K = 0 ∨ K = 1) (hr : bnd < n + m) :
    Calls Try.prog 10 #[.pointer (some ⟨b, 0, none⟩), .pointer (some ⟨rb, 0, none⟩), .agg #[.int .i64 K, .int .i64 N, .int .i64 M, .slice xo m cx]] w fun e w' => e = .returned (.bool true) ∧ Done w w' b g rb bnd lo := by
  have hga := World.grownBy_alloc w (.cells #[.int .i64 K, .int .i64 N, .int .i64 M, .slice xo m cx] 36) none
  obtain ⟨q0, q1, q2, q3⟩ := box4 w (.int .i64 K) (.int .i64 N) (.int .i64 M) (.slice xo m cx) 36
  have hA := h.grown hga
  have hlr := h.r.lt
  have hlg := h.r.glt
  have hlrb := h.d.lt
  have hnl := h.d.len
  obtain ⟨ap1, ap2, ap3⟩ := h.ap
  have hlo := h.lo
  have hs1 := hga.size
  have hle := h.d.le
  have htop := h.d.top
  have hAl : A.length = m := by have := hx.len; rwa [List.length_map] at this
  have ek : ((K == 0) = true) ∨ ((K == 0) = false ∧ (K == 1) = true) := by
    rcases hK with rfl | rfl
    · exact Or.inl rfl
    · exact Or.inr ⟨rfl, rfl⟩
  have HK : Hid (K = 0 ∨ K = 1) := hK
  clear hK
  rcases ek with ek | ⟨ek, ek1⟩
  · go_enter Try.func10, Try.ntmps10
    go_wp2_with fail
    refine wp_region_any (by kernel_rfl) ?_
    change wpAny _ _ _ _ _ _ _ (World.drew _)
    have hgd := grown_trans hga (grown_drewN (w.alloc (.cells #[.int .i64 K, .int .i64 N, .int .i64 M, .slice xo m cx] 36)) 1 none) (by simp)
    have p3a : (World.drew (w.alloc (.cells #[.int .i64 K, .int .i64 N, .int .i64 M, .slice xo m cx] 36))).cell? ⟨w.heap.size, 3, none⟩ = some (.slice xo m cx) := q3
    refine regA (by kernel_rfl) (zs := A.map (.int .i64)) p3a (hx.grown hgd) hm rfl rfl rfl ?_
    rintro ⟨tm, df⟩ w2 ao cap hsz hdf hsame t7 hvo hg2
    have e := frame_but _ hsz hsame
    have g7 : tm.getD 7 undef = _ := getD_of t7
    obtain ⟨v30, g30⟩ : ∃ v, tm.getD 30 undef = v := ⟨_, rfl⟩
    obtain ⟨v31, g31⟩ : ∃ v, tm.getD 31 undef = v := ⟨_, rfl⟩
    obtain ⟨v32, g32⟩ : ∃ v, tm.getD 32 undef = v := ⟨_, rfl⟩
    obtain ⟨v33, g33⟩ : ∃ v, tm.getD 33 undef = v := ⟨_, rfl⟩
    obtain ⟨v34, g34⟩ : ∃ v, tm.getD 34 undef = v := ⟨_, rfl⟩
    obtain ⟨v35, g35⟩ : ∃ v, tm.getD 35 undef = v := ⟨_, rfl⟩
    obtain ⟨v36, g36⟩ : ∃ v, tm.getD 36 undef = v := ⟨_, rfl⟩
    obtain ⟨v37, g37⟩ : ∃ v, tm.getD 37 undef = v := ⟨_, rfl⟩
    obtain ⟨v38, g38⟩ : ∃ v, tm.getD 38 undef = v := ⟨_, rfl⟩
    obtain ⟨v39, g39⟩ : ∃ v, tm.getD 39 undef = v := ⟨_, rfl⟩
    simp only [List.foldl_cons, List.foldl_nil, g7, g30, g31, g32, g33, g34, g35, g36, g37, g38, g39, List.setIfInBounds_toArray, List.set_cons_succ, List.set_cons_zero] at e
    obtain rfl : df = [] := hdf
    clear hsz hsame t7 g7 g30 g31 g32 g33 g34 g35 g36 g37 g38 g39
    subst e
    have hsd : w.heap.size + 1 ≤ (World.drew (w.alloc (.cells #[.int .i64 K, .int .i64 N, .int .i64 M, .slice xo m cx] 36))).heap.size := by simp [World.drew]
    have p3 := hg2.cell p3a (by simp)
    have hG2 := grown_trans hgd hg2 (by simp)
    generalize (World.drew (w.alloc (.cells #[.int .i64 K, .int .i64 N, .int .i64 M, .slice xo m cx] 36))) = wd at *
    have hB := h.grown hG2
    have hvm : Vs w2 ao m cap (A.map (.int .i64)) := by
      have h8 := hvo.shows.begin
      rwa [List.length_map, hAl] at h8
    obtain ⟨ga, cur, rfl, hro, hcur, hga2⟩ := hvo.spoilable (by omega)
    have hs2 := hG2.size
    have hs22 := hg2.size
    have hgal := hro.lt
    clear hA q0 q1 q2 q3 hgd hg2
    go_wp2_with (go_at_call 22; refine (Ri.put_full _ b g bnd f m cap _ _ hB.r (by rw [List.length_map, hnl]; omega)).mono ?_)
    rintro e w3 ⟨rfl, hg3⟩
    have hr3 := hB.r.grown hg3
    have hd3 := hB.d.grown hg3
    have hc3 : Chg w2 w3 (two b g) := Chg.of_grown hg3 _
    have hC3 : Chg w w3 (three b g rb) := (Chg.of_grown hG2 _).trans (two_three hc3 rb)
    have hvo3 := hvo.grown hg3
    have hs3 := hc3.size
    have hx3 := hx.chg0 hC3 (fun h0 a ha => by rintro (e | e | e); exact (hxb h0 a ha).1 e; exact (hxb h0 a ha).2.1 e; exact (hxb h0 a ha).2.2 e)
    have r3 := hc3.cell p3 (by rintro (e | e) <;> (change w.heap.size = _ at e; omega))
    have k77 := hvo3.shows.at (j := m) (u := .int .i64 77) (by rw [List.getElem?_append_right (by simp; omega)]; simp [hAl])
    rw [Nat.zero_add] at k77
    have hvm3 : Vs w3 (some ⟨ga, 0, none⟩) m cap (A.map (.int .i64)) := by
      have h8 := hvo3.shows.begin
      rwa [List.length_map, hAl] at h8
    have hrm3 := hvo3.shows.room
    have hb0 : ¬ cap = 0 := by omega
    have hb1 : (0 : Int) ≤ (m : Int) + 1 := by omega
    have hb2 : (m : Int) + 1 ≤ (cap : Int) := by omega
    have hb3 : IntKind.i64.wrap ((m : Int) + 1) = (m : Int) + 1 := by rw [IntKind.wrap_i64]; omega
    have hb4 : ((m : Int) + 1).toNat = m + 1 := by omega
    have hb5 : (0 : Int) ≤ (m : Int) := by omega
    have hb6 : (m : Int) < (m : Int) + 1 := by omega
    have hb7 : m < m + 1 := by omega
    clear hvo hvm hro p3 hB
    have hgd3 : w3.grownBy w3.drew none := grown_drewN w3 1 none
    have u1 : w3.drew.cell? ⟨w.heap.size, 3, none⟩ = _ := hgd3.cell r3 (by simp)
    have u2 : w3.drew.cell? ⟨ga, m, none⟩ = _ := hgd3.cell k77 (by simp)
    go_wp2_with fail
    go_region_held3 (fun w' => w'.cell? ⟨w.heap.size, 3, none⟩ = some (.slice xo m cx) ∧ w'.cell? ⟨ga, m, none⟩ = some (.int .i64 77)) (first | exact ⟨r3, k77⟩ | exact ⟨u1, u2⟩ | exact ⟨x1, x2⟩ | exact ⟨y1, y2⟩)
      ((first
        | (go_at_call 8; refine (num_any _ _).mono ?_; rintro e w' ⟨rfl, hw'⟩; replace hw' := hw'.symm; subst hw')
        | (go_at_call 14; refine (same_yes _ _ _ m _ _ A (hvm3.grown hgd3) (hx3.grown hgd3) (by omega)).mono ?_; rintro e w4 ⟨rfl, hg4⟩; have hg34 := grown_trans hgd3 hg4 (by simp); have x1 := hg34.cell r3 (by simp); have x2 := hg34.cell k77 (by simp))
        | (go_at_call 31; refine (refPut_full _ rb bnd lo n c L (hd3.grown hg34) xo m cx (by omega)).mono ?_; rintro e w5 ⟨rfl, hg5⟩; have y1 := hg5.cell x1 (by simp); have y2 := hg5.cell x2 (by simp))))
    have hs4 := hg34.size
    have hg35 := grown_trans hg34 hg5 (by simp)
    have hvo5 := hvo3.grown hg35
    obtain ⟨ga2, cur5, ega, hro5, hcur5, _⟩ := hvo5.spoilable (by omega)
    cases ega
    have hr5 := hr3.grown hg35
    have hd5 := hd3.grown hg35
    have hs5 := hg35.size
    have hC5 : Chg w w5 (three b g rb) := hC3.trans (Chg.of_grown hg35 _)
    clear hvo5 hvo3 hvm3 hx3 hd3 hr3 hC3 hc3 x1 x2 y1 y2 u1 u2 r3 k77 hg5 hg4 hgd3 hg34 hg35
    go_wp2_with (go_at_call 32; refine (spoil_any _ ga m cap _ hro5 (by omega) (by omega)).mono ?_; rintro e w6 ⟨rfl, hc6⟩)
    go_ret
    have hs6 := hc6.size
    have hD : As w6 b g rb bnd f lo n c L := ⟨hr5.chg hc6 (fun e => by omega) (fun e => by omega), hd5.chg hc6 (fun e => by omega) (fun a ha e => by have h8 := hlo a ha; omega), h.ap, fun a ha => by have h8 := hlo a ha; omega⟩
    exact ⟨rfl, _, lo, n, c, L, hD, fun a ha => Or.inl ha, hC5.new hc6 (by omega)⟩
  · go_enter Try.func10, Try.ntmps10
    go_wp2_with fail
    refine wp_region_any (by kernel_rfl) ?_
    change wpAny _ _ _ _ _ _ _ (World.drew _)
    have hgd := grown_trans hga (grown_drewN (w.alloc (.cells #[.int .i64 K, .int .i64 N, .int .i64 M, .slice xo m cx] 36)) 1 none) (by simp)
    have p3a : (World.drew (w.alloc (.cells #[.int .i64 K, .int .i64 N, .int .i64 M, .slice xo m cx] 36))).cell? ⟨w.heap.size, 3, none⟩ = some (.slice xo m cx) := q3
    refine regA (by kernel_rfl) (zs := A.map (.int .i64)) p3a (hx.grown hgd) hm rfl rfl rfl ?_
    rintro ⟨tm, df⟩ w2 ao cap hsz hdf hsame t7 hvo hg2
    have e := frame_but _ hsz hsame
    have g7 : tm.getD 7 undef = _ := getD_of t7
    obtain ⟨v30, g30⟩ : ∃ v, tm.getD 30 undef = v := ⟨_, rfl⟩
    obtain ⟨v31, g31⟩ : ∃ v, tm.getD 31 undef = v := ⟨_, rfl⟩
    obtain ⟨v32, g32⟩ : ∃ v, tm.getD 32 undef = v := ⟨_, rfl⟩
    obtain ⟨v33, g33⟩ : ∃ v, tm.getD 33 undef = v := ⟨_, rfl⟩
    obtain ⟨v34, g34⟩ : ∃ v, tm.getD 34 undef = v := ⟨_, rfl⟩
    obtain ⟨v35, g35⟩ : ∃ v, tm.getD 35 undef = v := ⟨_, rfl⟩
    obtain ⟨v36, g36⟩ : ∃ v, tm.getD 36 undef = v := ⟨_, rfl⟩
    obtain ⟨v37, g37⟩ : ∃ v, tm.getD 37 undef = v := ⟨_, rfl⟩
    obtain ⟨v38, g38⟩ : ∃ v, tm.getD 38 undef = v := ⟨_, rfl⟩
    obtain ⟨v39, g39⟩ : ∃ v, tm.getD 39 undef = v := ⟨_, rfl⟩
    simp only [List.foldl_cons, List.foldl_nil, g7, g30, g31, g32, g33, g34, g35, g36, g37, g38, g39, List.setIfInBounds_toArray, List.set_cons_succ, List.set_cons_zero] at e
    obtain rfl : df = [] := hdf
    clear hsz hsame t7 g7 g30 g31 g32 g33 g34 g35 g36 g37 g38 g39
    subst e
    have hsd : w.heap.size + 1 ≤ (World.drew (w.alloc (.cells #[.int .i64 K, .int .i64 N, .int .i64 M, .slice xo m cx] 36))).heap.size := by simp [World.drew]
    have p3 := hg2.cell p3a (by simp)
    have hG2 := grown_trans hgd hg2 (by simp)
    generalize (World.drew (w.alloc (.cells #[.int .i64 K, .int .i64 N, .int .i64 M, .slice xo m cx] 36))) = wd at *
    have hB := h.grown hG2
    have hvm : Vs w2 ao m cap (A.map (.int .i64)) := by
      have h8 := hvo.shows.begin
      rwa [List.length_map, hAl] at h8
    obtain ⟨ga, cur, rfl, hro, hcur, hga2⟩ := hvo.spoilable (by omega)
    have hs2 := hG2.size
    have hs22 := hg2.size
    have hgal := hro.lt
    clear hA q0 q1 q2 q3 hgd hg2
    go_wp2_with (go_at_call 22; refine (Ri.put_full _ b g bnd f m cap _ _ hB.r (by rw [List.length_map, hnl]; omega)).mono ?_)
    rintro e w3 ⟨rfl, hg3⟩
    have hr3 := hB.r.grown hg3
    have hd3 := hB.d.grown hg3
    have hc3 : Chg w2 w3 (two b g) := Chg.of_grown hg3 _
    have hC3 : Chg w w3 (three b g rb) := (Chg.of_grown hG2 _).trans (two_three hc3 rb)
    have hvo3 := hvo.grown hg3
    have hs3 := hc3.size
    have hx3 := hx.chg0 hC3 (fun h0 a ha => by rintro (e | e | e); exact (hxb h0 a ha).1 e; exact (hxb h0 a ha).2.1 e; exact (hxb h0 a ha).2.2 e)
    have r3 := hc3.cell p3 (by rintro (e | e) <;> (change w.heap.size = _ at e; omega))
    have k77 := hvo3.shows.at (j := m) (u := .int .i64 77) (by rw [List.getElem?_append_right (by simp; omega)]; simp [hAl])
    rw [Nat.zero_add] at k77
    have hvm3 : Vs w3 (some ⟨ga, 0, none⟩) m cap (A.map (.int .i64)) := by
      have h8 := hvo3.shows.begin
      rwa [List.length_map, hAl] at h8
    have hrm3 := hvo3.shows.room
    have hb0 : ¬ cap = 0 := by omega
    have hb1 : (0 : Int) ≤ (m : Int) + 1 := by omega
    have hb2 : (m : Int) + 1 ≤ (cap : Int) := by omega
    have hb3 : IntKind.i64.wrap ((m : Int) + 1) = (m : Int) + 1 := by rw [IntKind.wrap_i64]; omega
    have hb4 : ((m : Int) + 1).toNat = m + 1 := by omega
    have hb5 : (0 : Int) ≤ (m : Int) := by omega
    have hb6 : (m : Int) < (m : Int) + 1 := by omega
    have hb7 : m < m + 1 := by omega
    clear hvo hvm hro p3 hB
    have hgd3 : w3.grownBy w3.drew none := grown_drewN w3 1 none
    have u1 : w3.drew.cell? ⟨w.heap.size, 3, none⟩ = _ := hgd3.cell r3 (by simp)
    have u2 : w3.drew.cell? ⟨ga, m, none⟩ = _ := hgd3.cell k77 (by simp)
    go_wp2_with fail
    go_region_held3 (fun w' => w'.cell? ⟨w.heap.size, 3, none⟩ = some (.slice xo m cx) ∧ w'.cell? ⟨ga, m, none⟩ = some (.int .i64 77)) (first | exact ⟨r3, k77⟩ | exact ⟨u1, u2⟩ | exact ⟨x1, x2⟩ | exact ⟨y1, y2⟩)
      ((first
        | (go_at_call 8; refine (num_any _ _).mono ?_; rintro e w' ⟨rfl, hw'⟩; replace hw' := hw'.symm; subst hw')
        | (go_at_call 14; refine (same_yes _ _ _ m _ _ A (hvm3.grown hgd3) (hx3.grown hgd3) (by omega)).mono ?_; rintro e w4 ⟨rfl, hg4⟩; have hg34 := grown_trans hgd3 hg4 (by simp); have x1 := hg34.cell r3 (by simp); have x2 := hg34.cell k77 (by simp))
        | (go_at_call 31; refine (refPut_full _ rb bnd lo n c L (hd3.grown hg34) xo m cx (by omega)).mono ?_; rintro e w5 ⟨rfl, hg5⟩; have y1 := hg5.cell x1 (by simp); have y2 := hg5.cell x2 (by simp))))
    have hs4 := hg34.size
    have hg35 := grown_trans hg34 hg5 (by simp)
    have hvo5 := hvo3.grown hg35
    obtain ⟨ga2, cur5, ega, hro5, hcur5, _⟩ := hvo5.spoilable (by omega)
    cases ega
    have hr5 := hr3.grown hg35
    have hd5 := hd3.grown hg35
    have hs5 := hg35.size
    have hC5 : Chg w w5 (three b g rb) := hC3.trans (Chg.of_grown hg35 _)
    clear hvo5 hvo3 hvm3 hx3 hd3 hr3 hC3 hc3 x1 x2 y1 y2 u1 u2 r3 k77 hg5 hg4 hgd3 hg34 hg35
    go_wp2_with (go_at_call 32; refine (spoil_any _ ga m cap _ hro5 (by omega) (by omega)).mono ?_; rintro e w6 ⟨rfl, hc6⟩)
    go_ret
    have hs6 := hc6.size
    have hD : As w6 b g rb bnd f lo n c L := ⟨hr5.chg hc6 (fun e => by omega) (fun e => by omega), hd5.chg hc6 (fun e => by omega) (fun a ha e => by have h8 := hlo a ha; omega), h.ap, fun a ha => by have h8 := hlo a ha; omega⟩
    exact ⟨rfl, _, lo, n, c, L, hD, fun a ha => Or.inl ha, hC5.new hc6 (by omega)⟩

end Go.Proofs.Ytabnpgmkccmneaa
