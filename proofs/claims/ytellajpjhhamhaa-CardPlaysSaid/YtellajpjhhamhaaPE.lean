/- Check, CheckDigit of the reference. -/
import Derived.Test.YtellajpjhhamhaaPD
set_option linter.unusedVariables false
set_option linter.unusedSimpArgs false
namespace Go.Proofs.Ytellajpjhhamhaa
open Go.Sort Go.ChangeShapes Go.WideShapes Go.ChangeAt Go.RowKit
def chkP (s : ByteArray) : Int := if s.size < 12 then 1 else if 19 < s.size then 3 else if allD s.data.toList = false then 2 else if luhB s = false then 9 else 0
set_option maxHeartbeats 1000000 in
theorem rcheck_any (s : ByteArray) (hs : s.size ≤ 200) (w : World) : Calls Try.prog 27 #[.string s] w fun e w' => e = .returned (.int .i64 (chkP s)) ∧ w' = w := by
  have RD := Lib.hid (fun w => rdigits_any s w (by unfold maxLen; omega))
  have RL := Lib.hid (fun w => rluhn_any s hs w)
  unfold chkP
  have hsi : (s.size : Int) ≤ 200 := by omega
  by_cases h1 : s.size < 12
  · rw [if_pos h1]
    have c1 : decide ((s.size : Int) < 12) = true := decide_eq_true (by omega)
    clear h1 hs
    go_enter Try.func27, Try.ntmps27
    go_wp2_with fail
    go_ret
    exact ⟨rfl, rfl⟩
  · rw [if_neg h1]
    have c1 : decide ((s.size : Int) < 12) = false := decide_eq_false (by omega)
    by_cases h2 : 19 < s.size
    · rw [if_pos h2]
      have c2 : decide (19 < (s.size : Int)) = true := decide_eq_true (by omega)
      clear h1 h2 hs
      go_enter Try.func27, Try.ntmps27
      go_wp2_with fail
      go_ret
      exact ⟨rfl, rfl⟩
    · rw [if_neg h2]
      have c2 : decide (19 < (s.size : Int)) = false := decide_eq_false (by omega)
      clear h1 h2 hs
      cases hd : allD s.data.toList
      · rw [if_pos rfl]
        rw [hd] at RD
        clear hd
        go_enter Try.func27, Try.ntmps27
        go_wp2_with (go_at_call 40; refine (RD.out _).mono ?_; rintro e w' ⟨rfl, rfl⟩)
        go_ret
        exact ⟨rfl, rfl⟩
      · rw [if_neg (by simp)]
        rw [hd] at RD
        clear hd
        cases hl : luhB s
        · rw [if_pos rfl]
          rw [hl] at RL
          clear hl
          go_enter Try.func27, Try.ntmps27
          go_wp2_with (first | (go_at_call 40; refine (RD.out _).mono ?_; rintro e w' ⟨rfl, rfl⟩) | (go_at_call 41; refine (RL.out _).mono ?_; rintro e w' ⟨rfl, rfl⟩))
          go_ret
          exact ⟨rfl, rfl⟩
        · rw [if_neg (by simp)]
          rw [hl] at RL
          clear hl
          go_enter Try.func27, Try.ntmps27
          go_wp2_with (first | (go_at_call 40; refine (RD.out _).mono ?_; rintro e w' ⟨rfl, rfl⟩) | (go_at_call 41; refine (RL.out _).mono ?_; rintro e w' ⟨rfl, rfl⟩))
          go_ret
          exact ⟨rfl, rfl⟩
end Go.Proofs.Ytellajpjhhamhaa
