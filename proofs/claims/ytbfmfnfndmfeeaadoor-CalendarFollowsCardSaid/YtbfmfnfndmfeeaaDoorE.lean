/- AddMonths and Day of both. -/
import Derived.Test.YtbfmfnfndmfeeaaDoorD
set_option linter.unusedVariables false
set_option linter.unusedSimpArgs false
namespace Go.Proofs.YtbfmfnfndmfeeaaDoor
open Go.Sort Go.ChangeShapes Go.WideShapes Go.ChangeAt Go.RowKit
open cal
def minI (a b : Int) : Int := if a ≤ b then a else b
/-- the answer, given what Split answers -/
def adV (y m d n : Int) : Int := ofV ((y * 12 + m - 1 + n) / 12) ((y * 12 + m - 1 + n) % 12 + 1) (minI d (ml ((y * 12 + m - 1 + n) / 12) ((y * 12 + m - 1 + n) % 12 + 1)))
def adE (y m d n : Int) : Int := ofE ((y * 12 + m - 1 + n) / 12) ((y * 12 + m - 1 + n) % 12 + 1) (minI d (ml ((y * 12 + m - 1 + n) / 12) ((y * 12 + m - 1 + n) % 12 + 1)))
theorem bD_split {d : Int} (h : bD d = true) : ∃ y m k, IsSplit d y m k := exists_split d (bD_true h).1 (bD_true h).2
theorem ofOk_out {y m d : Int} (h : y < 1970 ∨ 2243 < y) : ofOk y m d = false := decide_eq_false (by omega)

set_option maxHeartbeats 4000000 in
set_option maxRecDepth 20000 in
theorem add_ok {date y m d n : Int} (h : IsSplit date y m d) (hd : bD date = true) (hn0 : -10000 ≤ n) (hn1 : n ≤ 10000) (w : World) (hT : Tab w) :
    Calls Tryd.prog 21 #[.int .i64 date, .int .i64 n] w fun e w' => e = .returned (.tuple #[.int .i64 (adV y m d n), .int .i64 (adE y m d n)]) ∧ Below w.heap.size w w' := by
  have HT := Lib.hid hT
  clear hT
  have HD : Hid (∀ w, _) := Lib.hid (fun w => isDate_any date w)
  have HS : Hid (∀ w, Tab w → _) := Lib.hid (fun w hT => split_ok h hd w hT)
  have hy0 := h.y0
  have hy1 := h.y1
  have hm0 := h.m0
  have hm1 := h.m1
  have hd0 := h.d_in.1
  have hd1 : d ≤ 31 := Int.le_trans h.d_in.2 (ml_in y m).2
  have hk0 : 0 ≤ y * 12 + m - 1 + n := by omega
  have e1 := Int.tdiv_eq_ediv_of_nonneg (b := 12) hk0
  have e2 := Int.tmod_eq_emod_of_nonneg (b := 12) hk0
  rw [hd] at HD
  clear hd h
  unfold adV adE
  have hq0 : 0 ≤ (y * 12 + m - 1 + n) / 12 := by omega
  have hq1 : (y * 12 + m - 1 + n) / 12 ≤ 10000 := by omega
  have hr0 : 0 ≤ (y * 12 + m - 1 + n) % 12 := by omega
  have hr1 : (y * 12 + m - 1 + n) % 12 ≤ 11 := by omega
  obtain ⟨Q, hQ⟩ : ∃ Q, (y * 12 + m - 1 + n) / 12 = Q := ⟨_, rfl⟩
  obtain ⟨R, hR⟩ : ∃ R, (y * 12 + m - 1 + n) % 12 = R := ⟨_, rfl⟩
  have E1 := Lib.hid (e1.trans hQ)
  have E2 := Lib.hid (e2.trans hR)
  rw [hQ, hR]
  rw [hQ] at hq0 hq1
  rw [hR] at hr0 hr1
  clear e1 e2 hQ hR
  have HM : Hid (∀ w, Tab w → _) := Lib.hid (fun w hT => monthLength_any Q (R + 1) hq0 (by omega) (by omega) w hT)
  obtain ⟨l0, l1⟩ := ml_in Q (R + 1)
  obtain ⟨L, hL⟩ : ∃ L, ml Q (R + 1) = L := ⟨_, rfl⟩
  rw [hL] at HM l0 l1
  rw [hL]
  clear hL
  have f1 := E1.out
  have f2 := E2.out
  by_cases hmin : d ≤ L
  · have hmn : minI d L = d := if_pos hmin
    rw [hmn]
    clear hmn
    have HO : Hid (∀ w, Tab w → _) := Lib.hid (fun w hT => of_any Q (R + 1) d w hT)
    generalize ofV Q (R + 1) d = V at *
    generalize ofE Q (R + 1) d = E at *
    go_enter Tryd.func21, Tryd.ntmps21
    go_wp2_with fail
    refine (HD.out _).mono ?_
    rintro e w1 ⟨rfl, hb⟩
    have HB1 := Lib.hid hb
    clear hb
    go_wp2_with fail
    refine (HS.out _ (HT.out.call HB1.out)).mono ?_
    rintro e w2 ⟨rfl, hb⟩
    have HB2 := Lib.hid (beI HB1.out (Nat.le_refl _) hb)
    clear hb HB1
    go_wp2_with fail
    refine (HM.out _ (HT.out.call HB2.out)).mono ?_
    rintro e w3 ⟨rfl, hb⟩
    have HB3 := Lib.hid (beI HB2.out (Nat.le_refl _) hb)
    clear hb HB2
    go_wp2_with fail
    refine (HO.out _ (HT.out.call HB3.out)).mono ?_
    rintro e w4 ⟨rfl, hb⟩
    have HB9 := Lib.hid (beI HB3.out (Nat.le_refl _) hb)
    clear hb HB3
    go_wp2_with fail
    exact bodyPost_ret (v := .tuple #[.int .i64 _, .int .i64 _]) (by simp [results, Tryd.results21, go_sem]; exact ⟨rfl, rfl⟩) rfl ⟨by simp, HB9.out⟩
  · have hmn : minI d L = L := if_neg hmin
    have hmin2 : L < d := by omega
    rw [hmn]
    clear hmn hmin
    have HO : Hid (∀ w, Tab w → _) := Lib.hid (fun w hT => of_any Q (R + 1) L w hT)
    generalize ofV Q (R + 1) L = V at *
    generalize ofE Q (R + 1) L = E at *
    go_enter Tryd.func21, Tryd.ntmps21
    go_wp2_with fail
    refine (HD.out _).mono ?_
    rintro e w1 ⟨rfl, hb⟩
    have HB1 := Lib.hid hb
    clear hb
    go_wp2_with fail
    refine (HS.out _ (HT.out.call HB1.out)).mono ?_
    rintro e w2 ⟨rfl, hb⟩
    have HB2 := Lib.hid (beI HB1.out (Nat.le_refl _) hb)
    clear hb HB1
    go_wp2_with fail
    refine (HM.out _ (HT.out.call HB2.out)).mono ?_
    rintro e w3 ⟨rfl, hb⟩
    have HB3 := Lib.hid (beI HB2.out (Nat.le_refl _) hb)
    clear hb HB2
    go_wp2_with fail
    refine (HO.out _ (HT.out.call HB3.out)).mono ?_
    rintro e w4 ⟨rfl, hb⟩
    have HB9 := Lib.hid (beI HB3.out (Nat.le_refl _) hb)
    clear hb HB3
    go_wp2_with fail
    exact bodyPost_ret (v := .tuple #[.int .i64 _, .int .i64 _]) (by simp [results, Tryd.results21, go_sem]; exact ⟨rfl, rfl⟩) rfl ⟨by simp, HB9.out⟩

theorem add_no {date n : Int} (hn : bD date = false ∨ (bD date = true ∧ n < -10000) ∨ (bD date = true ∧ 10000 < n)) (w : World) :
    Calls Tryd.prog 21 #[.int .i64 date, .int .i64 n] w fun e w' => e = .returned (.tuple #[.int .i64 0, .int .i64 4]) ∧ Below w.heap.size w w' := by
  have HD : Hid (∀ w, _) := Lib.hid (fun w => isDate_any date w)
  rcases hn with hd | ⟨hd, h⟩ | ⟨hd, h⟩
  all_goals rw [hd] at HD
  all_goals clear hd
  all_goals go_enter Tryd.func21, Tryd.ntmps21
  all_goals go_wp2_with fail
  all_goals refine (HD.out _).mono ?_
  all_goals rintro e w1 ⟨rfl, hb⟩
  all_goals have HB9 := Lib.hid hb
  all_goals clear hb
  all_goals go_wp2_with fail
  all_goals exact bodyPost_ret (v := .tuple #[.int .i64 0, .int .i64 4]) (by simp [results, Tryd.results21, go_sem]) rfl ⟨rfl, HB9.out⟩

set_option maxHeartbeats 4000000 in
set_option maxRecDepth 20000 in
theorem radd_ok {date y m d n : Int} (h : IsSplit date y m d) (hd : bD date = true) (hn0 : -10000 ≤ n) (hn1 : n ≤ 10000) (w : World) :
    Calls Tryd.prog 22 #[.int .i64 date, .int .i64 n] w fun e w' => e = .returned (.tuple #[.int .i64 (adV y m d n), .int .i64 (adE y m d n)]) ∧ Below w.heap.size w w' := by
  have HD : Hid (∀ w, _) := Lib.hid (fun w => rIsDate_any date w)
  have HS : Hid (∀ w, _) := Lib.hid (fun w => rsplit_ok h hd w)
  have hy0 := h.y0
  have hy1 := h.y1
  have hm0 := h.m0
  have hm1 := h.m1
  have hd0 := h.d_in.1
  have hd1 : d ≤ 31 := Int.le_trans h.d_in.2 (ml_in y m).2
  have hk0 : 0 ≤ y * 12 + m - 1 + n := by omega
  have e1 := Int.tdiv_eq_ediv_of_nonneg (b := 12) hk0
  have e2 := Int.tmod_eq_emod_of_nonneg (b := 12) hk0
  rw [hd] at HD
  clear hd h
  unfold adV adE
  have hq0 : 0 ≤ (y * 12 + m - 1 + n) / 12 := by omega
  have hq1 : (y * 12 + m - 1 + n) / 12 ≤ 10000 := by omega
  have hr0 : 0 ≤ (y * 12 + m - 1 + n) % 12 := by omega
  have hr1 : (y * 12 + m - 1 + n) % 12 ≤ 11 := by omega
  have hin : (23640 ≤ y * 12 + m - 1 + n ∧ y * 12 + m - 1 + n ≤ 26927) ∨ (y * 12 + m - 1 + n < 23640 ∧ (y * 12 + m - 1 + n) / 12 < 1970) ∨ (26927 < y * 12 + m - 1 + n ∧ 2243 < (y * 12 + m - 1 + n) / 12) := by omega
  obtain ⟨Q, hQ⟩ : ∃ Q, (y * 12 + m - 1 + n) / 12 = Q := ⟨_, rfl⟩
  obtain ⟨R, hR⟩ : ∃ R, (y * 12 + m - 1 + n) % 12 = R := ⟨_, rfl⟩
  have E1 := Lib.hid (e1.trans hQ)
  have E2 := Lib.hid (e2.trans hR)
  rw [hQ, hR]
  rw [hQ] at hq0 hq1 hin
  rw [hR] at hr0 hr1
  clear e1 e2 hQ hR
  have HM : Hid (∀ w, _) := Lib.hid (fun w => days_any Q (R + 1) hq0 (by omega) (by omega) w)
  obtain ⟨l0, l1⟩ := ml_in Q (R + 1)
  obtain ⟨L, hL⟩ : ∃ L, ml Q (R + 1) = L := ⟨_, rfl⟩
  rw [hL] at HM l0 l1
  rw [hL]
  clear hL
  rcases hin with ⟨i0, i1⟩ | ⟨i0, i1⟩ | ⟨i0, i1⟩
  case inl =>
    have f1 := E1.out
    have f2 := E2.out
    by_cases hmin : d ≤ L
    · have hmn : minI d L = d := if_pos hmin
      rw [hmn]
      clear hmn
      have HO : Hid (∀ w, _) := Lib.hid (fun w => rof_any Q (R + 1) d w)
      generalize ofV Q (R + 1) d = V at *
      generalize ofE Q (R + 1) d = E at *
      go_enter Tryd.func22, Tryd.ntmps22
      go_wp2_with fail
      refine (HD.out _).mono ?_
      rintro e w1 ⟨rfl, hb⟩
      have HB1 := Lib.hid hb
      clear hb
      go_wp2_with fail
      refine (HS.out _).mono ?_
      rintro e w2 ⟨rfl, hb⟩
      have HB2 := Lib.hid (beI HB1.out (Nat.le_refl _) hb)
      clear hb HB1
      go_wp2_with fail
      refine (HM.out _).mono ?_
      rintro e w3 ⟨rfl, hb⟩
      have HB3 := Lib.hid (beI HB2.out (Nat.le_refl _) hb)
      clear hb HB2
      go_wp2_with fail
      refine (HO.out _).mono ?_
      rintro e w4 ⟨rfl, hb⟩
      have HB9 := Lib.hid (beI HB3.out (Nat.le_refl _) hb)
      clear hb HB3
      go_wp2_with fail
      exact bodyPost_ret (v := .tuple #[.int .i64 _, .int .i64 _]) (by simp [results, Tryd.results22, go_sem]; exact ⟨rfl, rfl⟩) rfl ⟨by simp, HB9.out⟩
    · have hmn : minI d L = L := if_neg hmin
      have hmin2 : L < d := by omega
      rw [hmn]
      clear hmn hmin
      have HO : Hid (∀ w, _) := Lib.hid (fun w => rof_any Q (R + 1) L w)
      generalize ofV Q (R + 1) L = V at *
      generalize ofE Q (R + 1) L = E at *
      go_enter Tryd.func22, Tryd.ntmps22
      go_wp2_with fail
      refine (HD.out _).mono ?_
      rintro e w1 ⟨rfl, hb⟩
      have HB1 := Lib.hid hb
      clear hb
      go_wp2_with fail
      refine (HS.out _).mono ?_
      rintro e w2 ⟨rfl, hb⟩
      have HB2 := Lib.hid (beI HB1.out (Nat.le_refl _) hb)
      clear hb HB1
      go_wp2_with fail
      refine (HM.out _).mono ?_
      rintro e w3 ⟨rfl, hb⟩
      have HB3 := Lib.hid (beI HB2.out (Nat.le_refl _) hb)
      clear hb HB2
      go_wp2_with fail
      refine (HM.out _).mono ?_
      rintro e w3 ⟨rfl, hb⟩
      have HB4 := Lib.hid (beI HB3.out (Nat.le_refl _) hb)
      clear hb HB3
      go_wp2_with fail
      refine (HO.out _).mono ?_
      rintro e w4 ⟨rfl, hb⟩
      have HB9 := Lib.hid (beI HB4.out (Nat.le_refl _) hb)
      clear hb HB4
      go_wp2_with fail
      exact bodyPost_ret (v := .tuple #[.int .i64 _, .int .i64 _]) (by simp [results, Tryd.results22, go_sem]; exact ⟨rfl, rfl⟩) rfl ⟨by simp, HB9.out⟩
  case inr.inl =>
    have hof : ofOk Q (R + 1) (minI d L) = false := ofOk_out (by omega)
    have hv : ofV Q (R + 1) (minI d L) = 0 := by unfold ofV; rw [hof]; rfl
    have he : ofE Q (R + 1) (minI d L) = 4 := by unfold ofE; rw [hof]; rfl
    rw [hv, he]
    clear hv he hof
    go_enter Tryd.func22, Tryd.ntmps22
    go_wp2_with fail
    refine (HD.out _).mono ?_
    rintro e w1 ⟨rfl, hb⟩
    have HB1 := Lib.hid hb
    clear hb
    go_wp2_with fail
    refine (HS.out _).mono ?_
    rintro e w2 ⟨rfl, hb⟩
    have HB2 := Lib.hid (beI HB1.out (Nat.le_refl _) hb)
    clear hb HB1
    go_wp2_with fail
    exact bodyPost_ret (v := .tuple #[.int .i64 _, .int .i64 _]) (by simp [results, Tryd.results22, go_sem]; exact ⟨rfl, rfl⟩) rfl ⟨by simp, HB2.out⟩
  case inr.inr =>
    have hof : ofOk Q (R + 1) (minI d L) = false := ofOk_out (by omega)
    have hv : ofV Q (R + 1) (minI d L) = 0 := by unfold ofV; rw [hof]; rfl
    have he : ofE Q (R + 1) (minI d L) = 4 := by unfold ofE; rw [hof]; rfl
    rw [hv, he]
    clear hv he hof
    go_enter Tryd.func22, Tryd.ntmps22
    go_wp2_with fail
    refine (HD.out _).mono ?_
    rintro e w1 ⟨rfl, hb⟩
    have HB1 := Lib.hid hb
    clear hb
    go_wp2_with fail
    refine (HS.out _).mono ?_
    rintro e w2 ⟨rfl, hb⟩
    have HB2 := Lib.hid (beI HB1.out (Nat.le_refl _) hb)
    clear hb HB1
    go_wp2_with fail
    exact bodyPost_ret (v := .tuple #[.int .i64 _, .int .i64 _]) (by simp [results, Tryd.results22, go_sem]; exact ⟨rfl, rfl⟩) rfl ⟨by simp, HB2.out⟩

theorem radd_no {date n : Int} (hn : bD date = false ∨ (bD date = true ∧ n < -10000) ∨ (bD date = true ∧ 10000 < n)) (w : World) :
    Calls Tryd.prog 22 #[.int .i64 date, .int .i64 n] w fun e w' => e = .returned (.tuple #[.int .i64 0, .int .i64 4]) ∧ Below w.heap.size w w' := by
  have HD : Hid (∀ w, _) := Lib.hid (fun w => rIsDate_any date w)
  rcases hn with hd | ⟨hd, h⟩ | ⟨hd, h⟩
  all_goals rw [hd] at HD
  all_goals clear hd
  all_goals go_enter Tryd.func22, Tryd.ntmps22
  all_goals go_wp2_with fail
  all_goals refine (HD.out _).mono ?_
  all_goals rintro e w1 ⟨rfl, hb⟩
  all_goals have HB9 := Lib.hid hb
  all_goals clear hb
  all_goals go_wp2_with fail
  all_goals exact bodyPost_ret (v := .tuple #[.int .i64 0, .int .i64 4]) (by simp [results, Tryd.results22, go_sem]) rfl ⟨rfl, HB9.out⟩

/-- both answer alike -/
theorem add_both (date n : Int) : ∃ V E : Int, (∀ w, Tab w → Calls Tryd.prog 21 #[.int .i64 date, .int .i64 n] w fun e w' => e = .returned (.tuple #[.int .i64 V, .int .i64 E]) ∧ Below w.heap.size w w') ∧
    (∀ w, Calls Tryd.prog 22 #[.int .i64 date, .int .i64 n] w fun e w' => e = .returned (.tuple #[.int .i64 V, .int .i64 E]) ∧ Below w.heap.size w w') := by
  by_cases hd : bD date = true
  · by_cases h0 : n < -10000
    · exact ⟨0, 4, fun w _ => add_no (.inr (.inl ⟨hd, h0⟩)) w, fun w => radd_no (.inr (.inl ⟨hd, h0⟩)) w⟩
    · by_cases h1 : 10000 < n
      · exact ⟨0, 4, fun w _ => add_no (.inr (.inr ⟨hd, h1⟩)) w, fun w => radd_no (.inr (.inr ⟨hd, h1⟩)) w⟩
      · obtain ⟨y, m, d, h⟩ := bD_split hd
        exact ⟨_, _, fun w hT => add_ok h hd (by omega) (by omega) w hT, fun w => radd_ok h hd (by omega) (by omega) w⟩
  · rw [Bool.not_eq_true] at hd
    exact ⟨0, 4, fun w _ => add_no (.inl hd) w, fun w => radd_no (.inl hd) w⟩

def dyOk (t : Int) : Bool := bT t && bD (t / 86400)
def dyD (t : Int) : Int := if dyOk t = true then t / 86400 else -1
def dyS (t : Int) : Int := if dyOk t = true then t % 86400 else -1
theorem bT_true {d : Int} (h : bT d = true) : 0 ≤ d ∧ d ≤ 1099511627776 := by simpa [bT] using h

set_option maxHeartbeats 1000000 in
theorem day_any (t : Int) (w : World) :
    Calls Tryd.prog 23 #[.int .i64 t] w fun e w' => e = .returned (.tuple #[.int .i64 (dyD t), .int .i64 (dyS t)]) ∧ Below w.heap.size w w' := by
  have HT : Hid (∀ w, _) := Lib.hid (fun w => isTime_any t w)
  unfold dyD dyS dyOk
  by_cases ht : bT t = true
  · obtain ⟨t0, t1⟩ := bT_true ht
    have e1 := Int.tdiv_eq_ediv_of_nonneg (b := 86400) t0
    have e2 := Int.tmod_eq_emod_of_nonneg (b := 86400) t0
    have HD : Hid (∀ w, _) := Lib.hid (fun w => isDate_any (t / 86400) w)
    have q0 : 0 ≤ t / 86400 := by omega
    have q1 : t / 86400 ≤ 1099511627776 := by omega
    rw [ht] at HT ⊢
    clear ht
    obtain ⟨Q, hQ⟩ : ∃ Q, t / 86400 = Q := ⟨_, rfl⟩
    obtain ⟨R, hR⟩ : ∃ R, t % 86400 = R := ⟨_, rfl⟩
    rw [hQ, hR]
    rw [hQ] at HD q0 q1 e1
    rw [hR] at e2
    clear hQ hR
    generalize bD Q = b at *
    cases b
    all_goals go_enter Tryd.func23, Tryd.ntmps23
    all_goals go_wp2_with fail
    all_goals refine (HT.out _).mono ?_
    all_goals rintro e w1 ⟨rfl, hb⟩
    all_goals have HB0 := Lib.hid hb
    all_goals clear hb
    all_goals go_wp2_with fail
    all_goals refine (HD.out _).mono ?_
    all_goals rintro e w2 ⟨rfl, hb⟩
    all_goals have HB9 := Lib.hid (beI HB0.out (Nat.le_refl _) hb)
    all_goals clear hb
    all_goals go_wp2_with fail
    · exact bodyPost_ret (v := .tuple #[.int .i64 (-1), .int .i64 (-1)]) (by simp [results, Tryd.results23, go_sem]) rfl ⟨by simp, HB9.out⟩
    · exact bodyPost_ret (v := .tuple #[.int .i64 _, .int .i64 _]) (by simp [results, Tryd.results23, go_sem]; exact ⟨rfl, rfl⟩) rfl ⟨by simp, HB9.out⟩
  · rw [Bool.not_eq_true] at ht
    rw [ht] at HT ⊢
    clear ht
    go_enter Tryd.func23, Tryd.ntmps23
    go_wp2_with fail
    refine (HT.out _).mono ?_
    rintro e w1 ⟨rfl, hb⟩
    have HB9 := Lib.hid hb
    clear hb
    go_wp2_with fail
    exact bodyPost_ret (v := .tuple #[.int .i64 (-1), .int .i64 (-1)]) (by simp [results, Tryd.results23, go_sem]) rfl ⟨by simp, HB9.out⟩

set_option maxHeartbeats 1000000 in
theorem rday_any (t : Int) (w : World) :
    Calls Tryd.prog 24 #[.int .i64 t] w fun e w' => e = .returned (.tuple #[.int .i64 (dyD t), .int .i64 (dyS t)]) ∧ Below w.heap.size w w' := by
  have HT : Hid (∀ w, _) := Lib.hid (fun w => isTime_any t w)
  unfold dyD dyS dyOk
  by_cases ht : bT t = true
  · obtain ⟨t0, t1⟩ := bT_true ht
    have e1 := Int.tdiv_eq_ediv_of_nonneg (b := 86400) t0
    have e2 := Int.tmod_eq_emod_of_nonneg (b := 86400) t0
    have HD : Hid (∀ w, _) := Lib.hid (fun w => rIsDate_any (t / 86400) w)
    have q0 : 0 ≤ t / 86400 := by omega
    have q1 : t / 86400 ≤ 1099511627776 := by omega
    rw [ht] at HT ⊢
    clear ht
    obtain ⟨Q, hQ⟩ : ∃ Q, t / 86400 = Q := ⟨_, rfl⟩
    obtain ⟨R, hR⟩ : ∃ R, t % 86400 = R := ⟨_, rfl⟩
    rw [hQ, hR]
    rw [hQ] at HD q0 q1 e1
    rw [hR] at e2
    clear hQ hR
    generalize bD Q = b at *
    cases b
    all_goals go_enter Tryd.func24, Tryd.ntmps24
    all_goals go_wp2_with fail
    all_goals refine (HD.out _).mono ?_
    all_goals rintro e w2 ⟨rfl, hb⟩
    all_goals have HB9 := Lib.hid (hb)
    all_goals clear hb
    all_goals go_wp2_with fail
    · exact bodyPost_ret (v := .tuple #[.int .i64 (-1), .int .i64 (-1)]) (by simp [results, Tryd.results24, go_sem]) rfl ⟨by simp, HB9.out⟩
    · exact bodyPost_ret (v := .tuple #[.int .i64 _, .int .i64 _]) (by simp [results, Tryd.results24, go_sem]; exact ⟨rfl, rfl⟩) rfl ⟨by simp, HB9.out⟩
  · rw [Bool.not_eq_true] at ht
    rw [ht] at HT ⊢
    have hh : t < 0 ∨ (0 ≤ t ∧ 1099511627776 < t) := by simp [bT] at ht; omega
    clear ht HT
    rcases hh with g | ⟨g, g2⟩
    all_goals go_enter Tryd.func24, Tryd.ntmps24
    all_goals go_wp2_with fail
    all_goals exact bodyPost_ret (v := .tuple #[.int .i64 (-1), .int .i64 (-1)]) (by simp [results, Tryd.results24, go_sem]) rfl ⟨by simp, Below.refl _ _⟩
end Go.Proofs.YtbfmfnfndmfeeaaDoor
