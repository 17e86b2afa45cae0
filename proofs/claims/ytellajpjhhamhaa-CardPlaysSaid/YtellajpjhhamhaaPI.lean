/- Check of the program. -/
import Derived.Test.YtellajpjhhamhaaPH
set_option linter.unusedVariables false
set_option linter.unusedSimpArgs false
namespace Go.Proofs.Ytellajpjhhamhaa
open Go.Sort Go.ChangeShapes Go.WideShapes Go.ChangeAt Go.RowKit
theorem isD_long {s : ByteArray} (h : 12 ≤ s.size) : isD s = allD s.data.toList := by
  unfold isD
  rw [size_pos_list (by omega)]
  simp
set_option maxHeartbeats 1000000 in
theorem check_any (s : ByteArray) (hs : s.size ≤ 200) (w : World) : Calls Try.prog 24 #[.string s] w fun e w' => e = .returned (.int .i64 (chkP s)) ∧ Below w.heap.size w w' := by
  have RD := Lib.hid (fun w => isdigits_any s w (by unfold maxLen; omega))
  have RL := Lib.hid (fun w => luhn_any s hs w)
  unfold chkP
  have hsi : (s.size : Int) ≤ 200 := by omega
  by_cases h1 : s.size < 12
  · rw [if_pos h1]
    have c1 : decide ((s.size : Int) < 12) = true := decide_eq_true (by omega)
    clear h1 hs
    go_enter Try.func24, Try.ntmps24
    go_wp2_with fail
    go_ret
    exact ⟨rfl, Below.refl _ _⟩
  · rw [if_neg h1]
    have c1 : decide ((s.size : Int) < 12) = false := decide_eq_false (by omega)
    rw [isD_long (by omega)] at RD
    by_cases h2 : 19 < s.size
    · rw [if_pos h2]
      have c2 : decide (19 < (s.size : Int)) = true := decide_eq_true (by omega)
      clear h1 h2 hs
      go_enter Try.func24, Try.ntmps24
      go_wp2_with fail
      go_ret
      exact ⟨rfl, Below.refl _ _⟩
    · rw [if_neg h2]
      have c2 : decide (19 < (s.size : Int)) = false := decide_eq_false (by omega)
      clear h1 h2 hs
      cases hd : allD s.data.toList
      · rw [if_pos rfl]
        rw [hd] at RD
        clear hd
        go_enter Try.func24, Try.ntmps24
        go_wp2_with (go_at_call 38; refine (RD.out _).mono ?_; rintro e w' ⟨rfl, rfl⟩)
        go_ret
        exact ⟨rfl, Below.refl _ _⟩
      · rw [if_neg (by simp)]
        rw [hd] at RD
        clear hd
        cases hl : luhB s
        · rw [if_pos rfl]
          rw [hl] at RL
          clear hl
          go_enter Try.func24, Try.ntmps24
          go_wp2_with (first | (go_at_call 38; refine (RD.out _).mono ?_; rintro e w' ⟨rfl, rfl⟩) | (go_at_call 39; refine (RL.out _).mono ?_; rintro e w1 ⟨rfl, hb⟩; obtain ⟨d1, o1, rfl⟩ := regrow_of hb; clear hb))
          go_ret
          exact ⟨rfl, bre_ (Below.refl _ _) _ _⟩
        · rw [if_neg (by simp)]
          rw [hl] at RL
          clear hl
          go_enter Try.func24, Try.ntmps24
          go_wp2_with (first | (go_at_call 38; refine (RD.out _).mono ?_; rintro e w' ⟨rfl, rfl⟩) | (go_at_call 39; refine (RL.out _).mono ?_; rintro e w1 ⟨rfl, hb⟩; obtain ⟨d1, o1, rfl⟩ := regrow_of hb; clear hb))
          go_ret
          exact ⟨rfl, bre_ (Below.refl _ _) _ _⟩
end Go.Proofs.Ytellajpjhhamhaa
