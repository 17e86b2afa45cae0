/- Of of both. -/
import Derived.Test.YtbfmfnfndmfeeaaDoorB
set_option linter.unusedVariables false
set_option linter.unusedSimpArgs false
namespace Go.Proofs.YtbfmfnfndmfeeaaDoor
open Go.Sort Go.ChangeShapes Go.WideShapes Go.ChangeAt Go.RowKit
open cal
theorem cum_in {y k : Int} (h0 : 1 ≤ k) (h1 : k ≤ 13) : 0 ≤ cum y k ∧ cum y k ≤ 366 := by
  have a := cum_mono (y := y) (Int.le_refl 1) h0
  have b := cum_mono (y := y) h0 h1
  have c := cum_year y
  have e := lp1_in y
  rw [cum_first] at a
  omega
theorem ys_in {y : Int} (h0 : 1970 ≤ y) (h1 : y ≤ 2244) : 0 ≤ ys y ∧ ys y ≤ 100076 := by
  have a := ys_mono h0
  have b := ys_mono h1
  rw [ys_first] at a
  rw [ys_last] at b
  exact ⟨a, b⟩
theorem beI {B : Nat} {w W w1 : World} (h : Below B w W) (hB : B ≤ w.heap.size) (hb : Below W.heap.size W w1) : Below B w w1 := h.trans (hb.mono (Nat.le_trans hB h.size))
set_option maxHeartbeats 1000000 in
theorem before_any (y : Int) (h0 : 1970 ≤ y) (h1 : y ≤ 2244) (w : World) : Calls Tryd.prog 35 #[.int .i64 y] w fun e w' => e = .returned (.int .i64 (ys y)) ∧ Below w.heap.size w w' := by
  obtain ⟨U, hU⟩ : ∃ U, ys y = U := ⟨_, rfl⟩
  have HU := Lib.hid hU
  rw [hU]
  clear hU
  go_enter Tryd.func35, Tryd.ntmps35
  go_wp2_with fail
  go_loopw [3, 4] (fun s t wr => ∃ k S : Int, 1970 ≤ k ∧ k ≤ y ∧ t = .int .i64 k ∧ s = .int .i64 S ∧ Hid (ys k = S) ∧ Below w.heap.size w wr) (fun _ t _ => (y - intOf t).toNat)
  case atStart => exact ⟨1970, 0, by omega, h0, rfl, rfl, Lib.hid ys_first, Below.refl _ _⟩
  case round =>
    obtain ⟨k, S, hk0, hk1, rfl, rfl, hS, hB⟩ := hrel
    obtain ⟨s0, s1⟩ := ys_in hk0 (Int.le_trans hk1 h1)
    rw [hS.out] at s0 s1
    have HB := Lib.hid hB
    clear hB
    by_cases hky : k < y
    · have HN := Lib.hid (ys_succ k)
      have HL : Hid (∀ w, _) := Lib.hid (fun w => rleap_any k (by omega) w)
      unfold lp1 at HN
      generalize lp k = b at *
      cases b
      · have HN2 := Lib.hid (show ys (k + 1) = S + 365 by rw [HN.out, hS.out]; simp)
        clear HN hS HU
        go_wp2_with fail
        refine (HL.out _).mono ?_
        rintro e w1 ⟨rfl, hb⟩
        have HB1 := Lib.hid (beI HB.out (Nat.le_refl _) hb)
        clear hb
        go_wp2_with fail
        go_round
        case rel => exact ⟨k + 1, S + 365, by omega, by omega, rfl, rfl, HN2, HB1.out⟩
        case measure => simp [intOf]; omega
      · have HN2 := Lib.hid (show ys (k + 1) = S + 365 + 1 by rw [HN.out, hS.out]; simp)
        clear HN hS HU
        go_wp2_with fail
        refine (HL.out _).mono ?_
        rintro e w1 ⟨rfl, hb⟩
        have HB1 := Lib.hid (beI HB.out (Nat.le_refl _) hb)
        clear hb
        go_wp2_with fail
        go_round
        case rel => exact ⟨k + 1, S + 365 + 1, by omega, by omega, rfl, rfl, HN2, HB1.out⟩
        case measure => simp [intOf]; omega
    · have hE : k = y := by omega
      subst hE
      have HE := Lib.hid (hS.out.symm.trans HU.out)
      clear hS HU
      go_wp2_with fail
      go_ret
      exact ⟨by rw [HE.out]; rfl, HB.out⟩
theorem ofOk_true {y m d : Int} (h : ofOk y m d = true) : 1970 ≤ y ∧ y ≤ 2243 ∧ 1 ≤ m ∧ m ≤ 12 ∧ 1 ≤ d ∧ d ≤ ml y m ∧ ys y + cum y m + d - 1 ≤ 99999 := of_decide_eq_true h
theorem ofOk_false {y m d : Int} (h : ofOk y m d = false) : y < 1970 ∨ 2243 < y ∨ m < 1 ∨ 12 < m ∨ d < 1 ∨ (1970 ≤ y ∧ y ≤ 2243 ∧ 1 ≤ m ∧ m ≤ 12 ∧ ml y m < d) ∨ (1970 ≤ y ∧ y ≤ 2243 ∧ 1 ≤ m ∧ m ≤ 12 ∧ 1 ≤ d ∧ d ≤ ml y m ∧ 99999 < ys y + cum y m + d - 1) := by
  have := of_decide_eq_false h
  omega

set_option maxHeartbeats 2000000 in
set_option maxRecDepth 20000 in
theorem of_lo (y m d V E : Int) (w : World) (hT : Tab w) (hy0 : 1970 ≤ y) (hy1 : y ≤ 2243) (hm0 : 1 ≤ m) (hm1 : m ≤ 12) (hd0 : 1 ≤ d) (hd1 : d ≤ ml y m) (hV : (ys y + cum y m + d - 1 ≤ 99999 ∧ V = ys y + cum y m + d - 1 ∧ E = 0) ∨ (99999 < ys y + cum y m + d - 1 ∧ V = 0 ∧ E = 4)) :
    Calls Tryd.prog 9 #[.int .i64 y, .int .i64 m, .int .i64 d] w fun e w' => e = .returned (.tuple #[.int .i64 V, .int .i64 E]) ∧ Below w.heap.size w w' := by
  have HT := Lib.hid hT
  clear hT
  obtain ⟨y2, y3⟩ := ys_in hy0 (show y ≤ 2244 by omega)
  obtain ⟨l0, l1⟩ := ml_in y m
  have hd2 : d ≤ 31 := Int.le_trans hd1 l1
  have HV := Lib.hid hV
  have HM : Hid (∀ w, Tab w → _) := Lib.hid (fun w hT => monthLength_any y m (by omega) hm0 hm1 w hT)
  have HY : Hid (∀ w, _) := Lib.hid (fun w => yearStart_any y (by omega) (by omega) w)
  obtain ⟨L, hL⟩ : ∃ L, ml y m = L := ⟨_, rfl⟩
  obtain ⟨Y, hY⟩ : ∃ Y, ys y = Y := ⟨_, rfl⟩
  rw [hL] at hd1 l0 l1 HM
  rw [hY] at y2 y3 HY HV
  clear hV hL hY
  go_enter Tryd.func9, Tryd.ntmps9
  go_wp2_with fail
  refine (HM.out _ (HT.out)).mono ?_
  rintro e w1 ⟨rfl, hb⟩
  have HB1 := Lib.hid hb
  clear hb
  go_wp2_with fail
  refine (HY.out _).mono ?_
  rintro e w2 ⟨rfl, hb⟩
  have HB2 := Lib.hid (beI HB1.out (Nat.le_refl _) hb)
  clear hb HB1 HM HY hd1
  go_wp2_with fail
  go_loopw [8, 9] (fun s t wr => ∃ k C : Int, 1 ≤ k ∧ k ≤ m ∧ t = .int .i64 k ∧ s = .int .i64 (Y + C + d - 1) ∧ Hid (cum y k = C) ∧ Below w.heap.size w wr) (fun _ t _ => (m - intOf t).toNat)
  case atStart => exact ⟨1, 0, by omega, hm0, rfl, by simp, Lib.hid (cum_first y), HB2.out⟩
  case round =>
    obtain ⟨k, C, hk0, hk1, rfl, rfl, hC, hB⟩ := hrel
    obtain ⟨c0, c1⟩ := cum_in (y := y) hk0 (show k ≤ 13 by omega)
    rw [hC.out] at c0 c1
    have HB := Lib.hid hB
    clear hB
    by_cases hkm : k < m
    · have HN := Lib.hid (cum_succ y k hk0)
      have HM : Hid (∀ w, Tab w → _) := Lib.hid (fun w hT => monthLength_any y k (by omega) hk0 (by omega) w hT)
      obtain ⟨l2, l3⟩ := ml_in y k
      generalize ml y k = L2 at *
      have HN2 := Lib.hid (show cum y (k + 1) = C + L2 by rw [HN.out, hC.out])
      clear HN hC HV
      go_wp2_with fail
      refine (HM.out _ (HT.out.call HB.out)).mono ?_
      rintro e w1 ⟨rfl, hb⟩
      have HB1 := Lib.hid (beI HB.out (Nat.le_refl _) hb)
      clear hb
      go_wp2_with fail
      go_round
      case rel => exact ⟨k + 1, C + L2, by omega, by omega, rfl, by congr 1; omega, HN2, HB1.out⟩
      case measure => simp [intOf]; omega
    · have hE : k = m := by omega
      subst hE
      rw [hC.out] at HV
      have HD : Hid (∀ w, _) := Lib.hid (fun w => isDate_any (Y + C + d - 1) w)
      clear hC
      rcases HV.out with ⟨g, rfl, rfl⟩ | ⟨g, rfl, rfl⟩
      · have hd : bD (Y + C + d - 1) = true := by simp [bD]; omega
        rw [hd] at HD
        clear hd
        go_wp2_with fail
        refine (HD.out _).mono ?_
        rintro e w1 ⟨rfl, hb⟩
        have HB1 := Lib.hid (beI HB.out (Nat.le_refl _) hb)
        clear hb
        go_wp2_with fail
        exact bodyPost_ret (v := .tuple #[.int .i64 _, .int .i64 _]) (by simp [results, Tryd.results9, go_sem]; exact ⟨rfl, rfl⟩) rfl ⟨by simp, HB1.out⟩
      · have hd : bD (Y + C + d - 1) = false := by simp [bD]; omega
        rw [hd] at HD
        clear hd
        go_wp2_with fail
        refine (HD.out _).mono ?_
        rintro e w1 ⟨rfl, hb⟩
        have HB1 := Lib.hid (beI HB.out (Nat.le_refl _) hb)
        clear hb
        go_wp2_with fail
        exact bodyPost_ret (v := .tuple #[.int .i64 _, .int .i64 _]) (by simp [results, Tryd.results9, go_sem]; exact ⟨rfl, rfl⟩) rfl ⟨by simp, HB1.out⟩

set_option maxHeartbeats 4000000 in
set_option maxRecDepth 20000 in
theorem of_any (y m d : Int) (w : World) (hT : Tab w) : Calls Tryd.prog 9 #[.int .i64 y, .int .i64 m, .int .i64 d] w fun e w' => e = .returned (.tuple #[.int .i64 (ofV y m d), .int .i64 (ofE y m d)]) ∧ Below w.heap.size w w' := by
  unfold ofV ofE
  by_cases h : ofOk y m d = true
  · obtain ⟨a, b, c, e, f, g, i⟩ := ofOk_true h
    rw [if_pos h, if_pos h]
    exact of_lo y m d _ _ w hT a b c e f g (.inl ⟨i, rfl, rfl⟩)
  · rw [Bool.not_eq_true] at h
    rw [if_neg (by rw [h]; decide), if_neg (by rw [h]; decide)]
    rcases ofOk_false h with h | h | h | h | h | ⟨a, b, c, e, f⟩ | ⟨a, b, c, e, f, g, i⟩
    case inr.inr.inr.inr.inr.inr => exact of_lo y m d _ _ w hT a b c e f g (.inr ⟨i, rfl, rfl⟩)
    case inr.inr.inr.inr.inr.inl =>
      have HM : Hid (∀ w, Tab w → _) := Lib.hid (fun w hT => monthLength_any y m (by omega) c e w hT)
      have HT := Lib.hid hT
      have l3 := (ml_in y m).1
      generalize ml y m = L at *
      clear hT
      have l0 : 1 ≤ d := by omega
      clear l3
      go_enter Tryd.func9, Tryd.ntmps9
      go_wp2_with fail
      refine (HM.out _ (HT.out)).mono ?_
      rintro e w1 ⟨rfl, hb⟩
      have HB1 := Lib.hid hb
      clear hb
      go_wp2_with fail
      exact bodyPost_ret (v := .tuple #[.int .i64 _, .int .i64 _]) (by simp [results, Tryd.results9, go_sem]; exact ⟨rfl, rfl⟩) rfl ⟨by simp, HB1.out⟩
    all_goals clear hT
    case inl =>
      go_enter Tryd.func9, Tryd.ntmps9
      go_wp2_with fail
      exact bodyPost_ret (v := .tuple #[.int .i64 _, .int .i64 _]) (by simp [results, Tryd.results9, go_sem]; exact ⟨rfl, rfl⟩) rfl ⟨by simp, Below.refl _ _⟩
    case inr.inl =>
      have h0 : 1970 ≤ y := by omega
      go_enter Tryd.func9, Tryd.ntmps9
      go_wp2_with fail
      exact bodyPost_ret (v := .tuple #[.int .i64 _, .int .i64 _]) (by simp [results, Tryd.results9, go_sem]; exact ⟨rfl, rfl⟩) rfl ⟨by simp, Below.refl _ _⟩
    case inr.inr.inl =>
      go_enter Tryd.func9, Tryd.ntmps9
      go_wp2_with fail
      all_goals exact bodyPost_ret (v := .tuple #[.int .i64 _, .int .i64 _]) (by simp [results, Tryd.results9, go_sem]; exact ⟨rfl, rfl⟩) rfl ⟨by simp, Below.refl _ _⟩
    case inr.inr.inr.inl =>
      have h0 : 1 ≤ m := by omega
      go_enter Tryd.func9, Tryd.ntmps9
      go_wp2_with fail
      all_goals exact bodyPost_ret (v := .tuple #[.int .i64 _, .int .i64 _]) (by simp [results, Tryd.results9, go_sem]; exact ⟨rfl, rfl⟩) rfl ⟨by simp, Below.refl _ _⟩
    case inr.inr.inr.inr.inl =>
      rcases Int.lt_or_le y 1970 with h1 | h1
      · go_enter Tryd.func9, Tryd.ntmps9
        go_wp2_with fail
        all_goals exact bodyPost_ret (v := .tuple #[.int .i64 _, .int .i64 _]) (by simp [results, Tryd.results9, go_sem]; exact ⟨rfl, rfl⟩) rfl ⟨by simp, Below.refl _ _⟩
      · go_enter Tryd.func9, Tryd.ntmps9
        go_wp2_with fail
        all_goals exact bodyPost_ret (v := .tuple #[.int .i64 _, .int .i64 _]) (by simp [results, Tryd.results9, go_sem]; exact ⟨rfl, rfl⟩) rfl ⟨by simp, Below.refl _ _⟩

set_option maxHeartbeats 2000000 in
set_option maxRecDepth 20000 in
theorem rof_lo (y m d V E : Int) (w : World) (hy0 : 1970 ≤ y) (hy1 : y ≤ 2243) (hm0 : 1 ≤ m) (hm1 : m ≤ 12) (hd0 : 1 ≤ d) (hd1 : d ≤ ml y m) (hV : (ys y + cum y m + d - 1 ≤ 99999 ∧ V = ys y + cum y m + d - 1 ∧ E = 0) ∨ (99999 < ys y + cum y m + d - 1 ∧ V = 0 ∧ E = 4)) :
    Calls Tryd.prog 10 #[.int .i64 y, .int .i64 m, .int .i64 d] w fun e w' => e = .returned (.tuple #[.int .i64 V, .int .i64 E]) ∧ Below w.heap.size w w' := by
  obtain ⟨y2, y3⟩ := ys_in hy0 (show y ≤ 2244 by omega)
  obtain ⟨l0, l1⟩ := ml_in y m
  have hd2 : d ≤ 31 := Int.le_trans hd1 l1
  have HV := Lib.hid hV
  have HM : Hid (∀ w, _) := Lib.hid (fun w => days_any y m (by omega) hm0 hm1 w)
  have HY : Hid (∀ w, _) := Lib.hid (fun w => before_any y (by omega) (by omega) w)
  obtain ⟨L, hL⟩ : ∃ L, ml y m = L := ⟨_, rfl⟩
  obtain ⟨Y, hY⟩ : ∃ Y, ys y = Y := ⟨_, rfl⟩
  rw [hL] at hd1 l0 l1 HM
  rw [hY] at y2 y3 HY HV
  clear hV hL hY
  go_enter Tryd.func10, Tryd.ntmps10
  go_wp2_with fail
  refine (HM.out _).mono ?_
  rintro e w1 ⟨rfl, hb⟩
  have HB1 := Lib.hid hb
  clear hb
  go_wp2_with fail
  refine (HY.out _).mono ?_
  rintro e w2 ⟨rfl, hb⟩
  have HB2 := Lib.hid (beI HB1.out (Nat.le_refl _) hb)
  clear hb HB1 HM HY hd1
  go_wp2_with fail
  go_loopw [8, 9] (fun s t wr => ∃ k C : Int, 1 ≤ k ∧ k ≤ m ∧ t = .int .i64 k ∧ s = .int .i64 (Y + C) ∧ Hid (cum y k = C) ∧ Below w.heap.size w wr) (fun _ t _ => (m - intOf t).toNat)
  case atStart => exact ⟨1, 0, by omega, hm0, rfl, by simp, Lib.hid (cum_first y), HB2.out⟩
  case round =>
    obtain ⟨k, C, hk0, hk1, rfl, rfl, hC, hB⟩ := hrel
    obtain ⟨c0, c1⟩ := cum_in (y := y) hk0 (show k ≤ 13 by omega)
    rw [hC.out] at c0 c1
    have HB := Lib.hid hB
    clear hB
    by_cases hkm : k < m
    · have HN := Lib.hid (cum_succ y k hk0)
      have HM : Hid (∀ w, _) := Lib.hid (fun w => days_any y k (by omega) hk0 (by omega) w)
      obtain ⟨l2, l3⟩ := ml_in y k
      generalize ml y k = L2 at *
      have HN2 := Lib.hid (show cum y (k + 1) = C + L2 by rw [HN.out, hC.out])
      clear HN hC HV
      go_wp2_with fail
      refine (HM.out _).mono ?_
      rintro e w1 ⟨rfl, hb⟩
      have HB1 := Lib.hid (beI HB.out (Nat.le_refl _) hb)
      clear hb
      go_wp2_with fail
      go_round
      case rel => exact ⟨k + 1, C + L2, by omega, by omega, rfl, by congr 1; omega, HN2, HB1.out⟩
      case measure => simp [intOf]; omega
    · have hE : k = m := by omega
      subst hE
      rw [hC.out] at HV
      have HD : Hid (∀ w, _) := Lib.hid (fun w => isDate_any (Y + C + d - 1) w)
      clear hC
      rcases HV.out with ⟨g, rfl, rfl⟩ | ⟨g, rfl, rfl⟩
      · have g2 : decide (99999 < Y + C + (d - 1)) = false := by rw [decide_eq_false_iff_not]; omega
        have g3 : Y + C + (d - 1) ≤ 99999 := by omega
        clear HD
        go_wp2_with fail
        exact bodyPost_ret (v := .tuple #[.int .i64 _, .int .i64 _]) (by simp [results, Tryd.results10, go_sem]; exact ⟨rfl, rfl⟩) rfl ⟨by simp; omega, HB.out⟩
      · have g2 : decide (99999 < Y + C + (d - 1)) = true := by rw [decide_eq_true_iff]; omega
        have g3 : 99999 < Y + C + (d - 1) := by omega
        clear HD
        go_wp2_with fail
        exact bodyPost_ret (v := .tuple #[.int .i64 _, .int .i64 _]) (by simp [results, Tryd.results10, go_sem]; exact ⟨rfl, rfl⟩) rfl ⟨by simp, HB.out⟩

set_option maxHeartbeats 4000000 in
set_option maxRecDepth 20000 in
theorem rof_any (y m d : Int) (w : World) : Calls Tryd.prog 10 #[.int .i64 y, .int .i64 m, .int .i64 d] w fun e w' => e = .returned (.tuple #[.int .i64 (ofV y m d), .int .i64 (ofE y m d)]) ∧ Below w.heap.size w w' := by
  unfold ofV ofE
  by_cases h : ofOk y m d = true
  · obtain ⟨a, b, c, e, f, g, i⟩ := ofOk_true h
    rw [if_pos h, if_pos h]
    exact rof_lo y m d _ _ w a b c e f g (.inl ⟨i, rfl, rfl⟩)
  · rw [Bool.not_eq_true] at h
    rw [if_neg (by rw [h]; decide), if_neg (by rw [h]; decide)]
    rcases ofOk_false h with h | h | h | h | h | ⟨a, b, c, e, f⟩ | ⟨a, b, c, e, f, g, i⟩
    case inr.inr.inr.inr.inr.inr => exact rof_lo y m d _ _ w a b c e f g (.inr ⟨i, rfl, rfl⟩)
    case inr.inr.inr.inr.inr.inl =>
      have HM : Hid (∀ w, _) := Lib.hid (fun w => days_any y m (by omega) c e w)
      skip
      have l3 := (ml_in y m).1
      generalize ml y m = L at *
      skip
      have l0 : 1 ≤ d := by omega
      clear l3
      go_enter Tryd.func10, Tryd.ntmps10
      go_wp2_with fail
      refine (HM.out _).mono ?_
      rintro e w1 ⟨rfl, hb⟩
      have HB1 := Lib.hid hb
      clear hb
      go_wp2_with fail
      exact bodyPost_ret (v := .tuple #[.int .i64 _, .int .i64 _]) (by simp [results, Tryd.results10, go_sem]; exact ⟨rfl, rfl⟩) rfl ⟨by simp, HB1.out⟩
    all_goals skip
    case inl =>
      go_enter Tryd.func10, Tryd.ntmps10
      go_wp2_with fail
      exact bodyPost_ret (v := .tuple #[.int .i64 _, .int .i64 _]) (by simp [results, Tryd.results10, go_sem]; exact ⟨rfl, rfl⟩) rfl ⟨by simp, Below.refl _ _⟩
    case inr.inl =>
      have h0 : 1970 ≤ y := by omega
      go_enter Tryd.func10, Tryd.ntmps10
      go_wp2_with fail
      exact bodyPost_ret (v := .tuple #[.int .i64 _, .int .i64 _]) (by simp [results, Tryd.results10, go_sem]; exact ⟨rfl, rfl⟩) rfl ⟨by simp, Below.refl _ _⟩
    case inr.inr.inl =>
      go_enter Tryd.func10, Tryd.ntmps10
      go_wp2_with fail
      all_goals exact bodyPost_ret (v := .tuple #[.int .i64 _, .int .i64 _]) (by simp [results, Tryd.results10, go_sem]; exact ⟨rfl, rfl⟩) rfl ⟨by simp, Below.refl _ _⟩
    case inr.inr.inr.inl =>
      have h0 : 1 ≤ m := by omega
      go_enter Tryd.func10, Tryd.ntmps10
      go_wp2_with fail
      all_goals exact bodyPost_ret (v := .tuple #[.int .i64 _, .int .i64 _]) (by simp [results, Tryd.results10, go_sem]; exact ⟨rfl, rfl⟩) rfl ⟨by simp, Below.refl _ _⟩
    case inr.inr.inr.inr.inl =>
      rcases Int.lt_or_le y 1970 with h1 | h1
      · go_enter Tryd.func10, Tryd.ntmps10
        go_wp2_with fail
        all_goals exact bodyPost_ret (v := .tuple #[.int .i64 _, .int .i64 _]) (by simp [results, Tryd.results10, go_sem]; exact ⟨rfl, rfl⟩) rfl ⟨by simp, Below.refl _ _⟩
      · go_enter Tryd.func10, Tryd.ntmps10
        go_wp2_with fail
        all_goals exact bodyPost_ret (v := .tuple #[.int .i64 _, .int .i64 _]) (by simp [results, Tryd.results10, go_sem]; exact ⟨rfl, rfl⟩) rfl ⟨by simp, Below.refl _ _⟩
end Go.Proofs.YtbfmfnfndmfeeaaDoor
