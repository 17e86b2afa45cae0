/- The reference's IsCurrency, Check and Round. -/
import Derived.Test.YtpabgmdgoghahaaDoorDf
import Derived.Test.YtpabgmdgoghahaaDoorU
set_option linter.unusedVariables false
set_option linter.unusedSimpArgs false
namespace Go.Proofs.YtpabgmdgoghahaaDoor.div
open Go.Sort Go.ChangeShapes Go.WideShapes Go.ChangeAt Go.RowKit
theorem rcur1_any (s : ByteArray) (w : World) (hs : s.size ≤ maxLen) :
    Calls Tryd.prog 50 #[.string s] w fun e w' => e = .returned (.bool (curL s.data.toList)) ∧ w = w' := by
  unfold maxLen at hs
  go_enter Tryd.func50, Tryd.ntmps50
  go_wp2_with fail
  go_loop [3] (fun i => ∃ k : Nat, k ≤ s.size ∧ k ≤ 3 ∧ i = .int .i64 k ∧ Hid ((s.data.toList.take k).all (fun c => capB (c.toNat : Int)) = true)) (fun i => s.size - (intOf i).toNat)
  case atStart => exact ⟨0, by omega, by omega, rfl, Lib.hid (by simp)⟩
  case round =>
    obtain ⟨k, hk, hk3, rfl, hall⟩ := hrel
    by_cases hlt : k < s.size
    · by_cases h3 : k < 3
      · have hb0 : (0 : Int) ≤ (s[k].toNat : Int) := by omega
        have hb1 : (s[k].toNat : Int) ≤ 255 := by have := s[k].toNat_lt; omega
        by_cases c1 : 65 ≤ (s[k].toNat : Int)
        · by_cases c2 : (s[k].toNat : Int) ≤ 90
          · have HC := Lib.hid (capB_yes ⟨c1, c2⟩)
            go_wp2_with fail
            go_round
            case rel => exact ⟨k + 1, by omega, by omega, by go_num, curL_step s k hlt hall HC.out⟩
            case measure => simp [intOf]; omega
          · have HC := Lib.hid (capB_nay (c := (s[k].toNat : Int)) (by omega))
            go_wp2_with fail
            go_ret
            exact ⟨ret_bool (curL_bad s k hlt HC.out).symm, rfl⟩
        · have HC := Lib.hid (capB_nay (c := (s[k].toNat : Int)) (by omega))
          go_wp2_with fail
          go_ret
          exact ⟨ret_bool (curL_bad s k hlt HC.out).symm, rfl⟩
      · obtain rfl : k = 3 := by omega
        have hne : ((s.size : Int) == 3) = false := by rw [beq_eq_false_iff_ne]; omega
        have HE := Lib.hid (curL_no s (by omega))
        go_wp2_with fail
        go_ret
        exact ⟨ret_bool HE.out.symm, rfl⟩
    · have HE := Lib.hid (curL_end s k hk hlt hall)
      go_wp2_with fail
      go_ret
      exact ⟨ret_bool HE.out, rfl⟩
theorem rwithin_ok (a : Int) (h0 : -4503599627370496 ≤ a) (h1 : a ≤ 4503599627370496) (w : World) : Calls Tryd.prog 51 #[.int .i64 a] w fun e w' => e = .returned (.bool true) ∧ w = w' := by
  go_enter Tryd.func51, Tryd.ntmps51
  go_wp2_with fail
  go_ret
  exact ⟨rfl, rfl⟩
theorem rwithin_no (a : Int) (h : a < -4503599627370496 ∨ 4503599627370496 < a) (w : World) : Calls Tryd.prog 51 #[.int .i64 a] w fun e w' => e = .returned (.bool false) ∧ w = w' := by
  rcases h with h | h
  · have h1 : decide (-4503599627370496 ≤ a) = false := decide_eq_false (by omega)
    go_enter Tryd.func51, Tryd.ntmps51
    go_wp2_with fail
    go_ret
    exact ⟨rfl, rfl⟩
  · have h0 : -4503599627370496 ≤ a := by omega
    have h1 : decide (a ≤ 4503599627370496) = false := decide_eq_false (by omega)
    go_enter Tryd.func51, Tryd.ntmps51
    go_wp2_with fail
    go_ret
    exact ⟨rfl, rfl⟩
/-- the word of money's Check -/
def mchk (a : Int) (c : ByteArray) : Int := if curL c.data.toList = false then 11 else if -4503599627370496 ≤ a ∧ a ≤ 4503599627370496 then 0 else 4
theorem rmcheck_any (a : Int) (c : ByteArray) (hc : c.size ≤ maxLen) (w : World) :
    Calls Tryd.prog 36 #[mo a c] w fun e w' => e = .returned (.int .i64 (mchk a c)) ∧ Below w.heap.size w w' := by
  have h1 := fun w => rcur1_any c w hc
  unfold mchk mo
  generalize curL c.data.toList = b at *
  have H1 := Lib.hid h1
  clear h1 hc
  cases b
  · rw [if_pos rfl]
    go_enter Tryd.func36, Tryd.ntmps36
    go_wp2_with fail
    refine (H1.out _).mono ?_
    rintro e w1 ⟨rfl, rfl⟩
    go_wp2_with fail
    go_ret
    exact ⟨rfl, al (Below.refl _ _)⟩
  · rw [if_neg (by simp)]
    by_cases h : -4503599627370496 ≤ a ∧ a ≤ 4503599627370496
    · rw [if_pos h]
      have H2 := Lib.hid (rwithin_ok a h.1 h.2)
      clear h
      go_enter Tryd.func36, Tryd.ntmps36
      go_wp2_with fail
      refine (H1.out _).mono ?_
      rintro e w1 ⟨rfl, rfl⟩
      go_wp2_with fail
      refine (H2.out _).mono ?_
      rintro e w1 ⟨rfl, rfl⟩
      go_wp2_with fail
      go_ret
      exact ⟨rfl, al (Below.refl _ _)⟩
    · rw [if_neg h]
      have H2 := Lib.hid (rwithin_no a (by omega))
      clear h
      go_enter Tryd.func36, Tryd.ntmps36
      go_wp2_with fail
      refine (H1.out _).mono ?_
      rintro e w1 ⟨rfl, rfl⟩
      go_wp2_with fail
      refine (H2.out _).mono ?_
      rintro e w1 ⟨rfl, rfl⟩
      go_wp2_with fail
      go_ret
      exact ⟨rfl, al (Below.refl _ _)⟩
/-- whether a quotient is rounded up -/
def upI (q r d mode : Int) : Bool := (mode == 2 && decide (0 < r)) || (mode == 3 && decide (d ≤ 2 * r)) || (mode == 4 && (decide (d < 2 * r) || (decide (2 * r = d) && decide (q % 2 = 1))))
theorem round_any (q r d mode : Int) (q0 : 0 ≤ q) (q1 : q ≤ 4503599627370497) (r0 : 0 ≤ r) (r1 : r ≤ 70368744177664) (d0 : 1 ≤ d) (d1 : d ≤ 70368744177664) (m1 : 1 ≤ mode) (m2 : mode ≤ 4) (w : World) :
    Calls Tryd.prog 53 #[.int .i64 q, .int .i64 r, .int .i64 d, .int .i64 mode] w fun e w' => e = .returned (.int .i64 (q + bI (upI q r d mode))) ∧ w = w' := by
  have hT : q + bI true = q + 1 := rfl
  have hF : q + bI false = q := by simp [bI]
  rcases (show mode = 1 ∨ mode = 2 ∨ mode = 3 ∨ mode = 4 from by omega) with rfl | rfl | rfl | rfl
  · have e : upI q r d 1 = false := by simp [upI]
    rw [e, hF]
    go_enter Tryd.func53, Tryd.ntmps53
    go_wp2_with fail
    go_ret
    exact ⟨rfl, rfl⟩
  · have e : upI q r d 2 = decide (0 < r) := by simp [upI]
    rw [e]
    by_cases c : 0 < r
    · rw [decide_eq_true c, hT]
      go_enter Tryd.func53, Tryd.ntmps53
      go_wp2_with fail
      go_ret
      exact ⟨rfl, rfl⟩
    · rw [decide_eq_false c, hF]
      go_enter Tryd.func53, Tryd.ntmps53
      go_wp2_with fail
      go_ret
      exact ⟨rfl, rfl⟩
  · have e : upI q r d 3 = decide (d ≤ 2 * r) := by simp [upI]
    rw [e]
    by_cases c : d ≤ 2 * r
    · rw [decide_eq_true c, hT]
      go_enter Tryd.func53, Tryd.ntmps53
      go_wp2_with fail
      go_ret
      exact ⟨rfl, rfl⟩
    · rw [decide_eq_false c, hF]
      go_enter Tryd.func53, Tryd.ntmps53
      go_wp2_with fail
      go_ret
      exact ⟨rfl, rfl⟩
  · have e : upI q r d 4 = (decide (d < 2 * r) || (decide (2 * r = d) && decide (q % 2 = 1))) := by simp [upI]
    rw [e]
    have qm : q.tmod 2 = q % 2 := Int.tmod_eq_emod_of_nonneg q0
    by_cases c1 : d < 2 * r
    · rw [decide_eq_true c1, Bool.true_or, hT]
      go_enter Tryd.func53, Tryd.ntmps53
      go_wp2_with fail
      go_ret
      exact ⟨rfl, rfl⟩
    · rw [decide_eq_false c1, Bool.false_or]
      by_cases c2 : 2 * r = d
      · have d2 : (2 * r == d) = true := by rw [beq_iff_eq]; exact c2
        rw [decide_eq_true c2, Bool.true_and]
        by_cases c3 : q % 2 = 1
        · have d3 : (q % 2 == 1) = true := by rw [beq_iff_eq]; exact c3
          rw [decide_eq_true c3, hT]
          clear c2 c3
          go_enter Tryd.func53, Tryd.ntmps53
          go_wp2_with fail
          go_ret
          exact ⟨rfl, rfl⟩
        · have d3 : (q % 2 == 1) = false := beq_eq_false_iff_ne.2 c3
          rw [decide_eq_false c3, hF]
          clear c2 c3
          go_enter Tryd.func53, Tryd.ntmps53
          go_wp2_with fail
          go_ret
          exact ⟨rfl, rfl⟩
      · have d2 : (2 * r == d) = false := beq_eq_false_iff_ne.2 c2
        rw [decide_eq_false c2, Bool.false_and, hF]
        clear c2
        go_enter Tryd.func53, Tryd.ntmps53
        go_wp2_with fail
        go_ret
        exact ⟨rfl, rfl⟩
end Go.Proofs.YtpabgmdgoghahaaDoor.div
