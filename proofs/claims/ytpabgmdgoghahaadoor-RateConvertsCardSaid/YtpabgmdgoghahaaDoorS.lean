/- Scale and Convert, where the product has one word. -/
import Derived.Test.YtpabgmdgoghahaaDoorL
set_option linter.unusedVariables false
set_option linter.unusedSimpArgs false
namespace Go.Proofs.YtpabgmdgoghahaaDoor
open Go.Sort Go.ChangeShapes Go.WideShapes Go.ChangeAt Go.RowKit
theorem cur_no (s : ByteArray) (hs : s.size ≤ maxLen) (h : curL s.data.toList = false) (w : World) :
    Calls Tryd.prog 30 #[.string s] w fun e w' => e = .returned (.bool false) ∧ w = w' := by
  have := cur_any s w hs
  rw [h] at this
  exact this
theorem mcheck_ok (a : Int) (c : ByteArray) (hc : c.size ≤ maxLen) (h : curL c.data.toList = true) (h0 : -4503599627370496 ≤ a) (h1 : a ≤ 4503599627370496) (w : World) :
    Calls Tryd.prog 34 #[mo a c] w fun e w' => e = .returned (.int .i64 0) ∧ Below w.heap.size w w' := by
  have HC := Lib.hid (cur_yes c hc h)
  unfold mo
  clear hc h
  go_enter Tryd.func34, Tryd.ntmps34
  go_wp2_with fail
  refine (HC.out _).mono ?_
  rintro e w1 ⟨rfl, rfl⟩
  go_wp2_with fail
  go_ret
  exact ⟨rfl, al (Below.refl _ _)⟩
theorem mcheck_no (a : Int) (c : ByteArray) (hc : c.size ≤ maxLen) (h : curL c.data.toList = false) (w : World) :
    Calls Tryd.prog 34 #[mo a c] w fun e w' => e = .returned (.int .i64 11) ∧ Below w.heap.size w w' := by
  have HC := Lib.hid (cur_no c hc h)
  unfold mo
  clear hc h
  go_enter Tryd.func34, Tryd.ntmps34
  go_wp2_with fail
  refine (HC.out _).mono ?_
  rintro e w1 ⟨rfl, rfl⟩
  go_wp2_with fail
  go_ret
  exact ⟨rfl, al (Below.refl _ _)⟩
theorem magn_any (a : Int) (h0 : -4503599627370496 ≤ a) (h1 : a ≤ 4503599627370496) (w : World) : Calls Tryd.prog 47 #[.int .i64 a] w fun e w' => e = .returned (.int .u64 (a.natAbs : Nat)) ∧ w = w' := by
  by_cases hs : a < 0
  · have e1 : ((a.natAbs : Nat) : Int) = -a := by omega
    rw [e1]; clear e1
    have g1 : 0 ≤ -a := by omega
    have g2 : -a ≤ 4503599627370496 := by omega
    have hd : decide (a < 0) = true := decide_eq_true hs
    go_enter Tryd.func47, Tryd.ntmps47
    go_wp2_with fail
    go_ret
    exact ⟨rfl, rfl⟩
  · have e1 : ((a.natAbs : Nat) : Int) = a := by omega
    rw [e1]; clear e1
    exact magn_s a (by omega) h1 w
def upB (q r L : Nat) (mode : Int) : Bool := (mode == 2 && decide (0 < r)) || (mode == 3 && decide (L ≤ 2 * r)) || (mode == 4 && (decide (L < 2 * r) || (decide (2 * r = L) && decide (q % 2 = 1))))
theorem up_any (q r L : Nat) (mode : Int) (hq : q ≤ 4503599627370496) (hr : r ≤ 4503599627370496) (hL : L ≤ 4503599627370496) (m1 : 1 ≤ mode) (m2 : mode ≤ 4) (w : World) :
    Calls Tryd.prog 49 #[.int .u64 q, .int .u64 r, .int .u64 L, .int .i64 mode] w fun e w' => e = .returned (.bool (upB q r L mode)) ∧ w = w' := by
  have q0 : (q : Int) ≤ 4503599627370496 := by omega
  have r0 : (r : Int) ≤ 4503599627370496 := by omega
  have l0 : (L : Int) ≤ 4503599627370496 := by omega
  rcases (show mode = 1 ∨ mode = 2 ∨ mode = 3 ∨ mode = 4 from by omega) with rfl | rfl | rfl | rfl
  · have e : upB q r L 1 = false := by simp [upB]
    rw [e]
    go_enter Tryd.func49, Tryd.ntmps49
    go_wp2_with fail
    go_ret
    exact ⟨rfl, rfl⟩
  · have e : upB q r L 2 = decide ((0 : Int) < (r : Int)) := by simp [upB]
    rw [e]
    generalize hb : decide ((0 : Int) < (r : Int)) = b
    go_enter Tryd.func49, Tryd.ntmps49
    go_wp2_with fail
    go_ret
    exact ⟨by simp [go_sem, ← hb], rfl⟩
  · have e : upB q r L 3 = decide ((L : Int) ≤ 2 * (r : Int)) := by simp [upB]; omega
    rw [e]
    go_enter Tryd.func49, Tryd.ntmps49
    go_wp2_with fail
    go_ret
    exact ⟨by simp [go_sem], rfl⟩
  · have e : upB q r L 4 = (decide ((L : Int) < 2 * (r : Int)) || (decide (2 * (r : Int) = (L : Int)) && decide ((q : Int) % 2 = 1))) := by
      simp only [upB, show ((4 : Int) == 2) = false from rfl, show ((4 : Int) == 3) = false from rfl, show ((4 : Int) == 4) = true from rfl, Bool.false_and, Bool.false_or, Bool.true_and]
      congr 1
      · exact decide_eq_decide.2 (by omega)
      · congr 1 <;> exact decide_eq_decide.2 (by omega)
    rw [e]
    have q1 : (q : Int).tmod 2 = (q : Int) % 2 := Int.tmod_eq_emod_of_nonneg (by omega)
    by_cases c1 : (L : Int) < 2 * (r : Int)
    · have d1 : decide ((L : Int) < 2 * (r : Int)) = true := decide_eq_true c1
      rw [d1, Bool.true_or]
      go_enter Tryd.func49, Tryd.ntmps49
      go_wp2_with fail
      go_ret
      exact ⟨rfl, rfl⟩
    · have d1 : decide ((L : Int) < 2 * (r : Int)) = false := decide_eq_false c1
      rw [d1, Bool.false_or]
      by_cases c2 : 2 * (r : Int) = (L : Int)
      · have d2 : (2 * (r : Int) == (L : Int)) = true := by rw [beq_iff_eq]; exact c2
        rw [decide_eq_true c2, Bool.true_and]
        by_cases c3 : (q : Int) % 2 = 1
        · have d3 : ((q : Int) % 2 == 1) = true := by rw [beq_iff_eq]; exact c3
          rw [decide_eq_true c3]
          clear c1 c2 c3
          go_enter Tryd.func49, Tryd.ntmps49
          go_wp2_with fail
          go_ret
          exact ⟨rfl, rfl⟩
        · have d3 : ((q : Int) % 2 == 1) = false := beq_eq_false_iff_ne.2 c3
          rw [decide_eq_false c3]
          clear c1 c2 c3
          go_enter Tryd.func49, Tryd.ntmps49
          go_wp2_with fail
          go_ret
          exact ⟨rfl, rfl⟩
      · have d2 : (2 * (r : Int) == (L : Int)) = false := beq_eq_false_iff_ne.2 c2
        rw [decide_eq_false c2, Bool.false_and]
        clear c1 c2
        go_enter Tryd.func49, Tryd.ntmps49
        go_wp2_with fail
        go_ret
        exact ⟨rfl, rfl⟩
end Go.Proofs.YtpabgmdgoghahaaDoor
