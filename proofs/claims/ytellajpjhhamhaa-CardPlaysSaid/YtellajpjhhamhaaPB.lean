/- Digits of the reference. -/
import Derived.Test.YtellajpjhhamhaaPA
set_option linter.unusedVariables false
set_option linter.unusedSimpArgs false
namespace Go.Proofs.Ytellajpjhhamhaa
open Go.Sort Go.ChangeShapes Go.WideShapes Go.ChangeAt Go.RowKit
set_option maxHeartbeats 400000 in
theorem rdigits_any (s : ByteArray) (w : World) (hs : s.size ≤ maxLen) : Calls Try.prog 40 #[.string s] w fun e w' => e = .returned (.bool (allD s.data.toList)) ∧ w' = w := by
  unfold maxLen at hs
  have hs' : (s.size : Int) ≤ 9223372036854775807 := by omega
  obtain ⟨B, hB⟩ : ∃ B, B = allD s.data.toList := ⟨_, rfl⟩
  rw [← hB]
  have HB := Lib.hid hB
  clear hB
  go_enter Try.func40, Try.ntmps40
  go_wp2_with fail
  go_loop [3] (fun i => ∃ k : Nat, k ≤ s.size ∧ i = .int .i64 k ∧ Hid (allD (s.data.toList.take k) = true)) (fun i => s.size - (intOf i).toNat)
  case atStart => exact ⟨0, Nat.zero_le _, rfl, Lib.hid rfl⟩
  case round =>
    obtain ⟨k, hk, rfl, hA⟩ := hrel
    by_cases hlt : k < s.size
    · have ht := allD_take s k hlt
      have hf := allD_false s k hlt
      rw [hA.out, Bool.true_and] at ht
      have hlt' : (k : Int) < (s.size : Int) := by omega
      have hge' : 0 ≤ (k : Int) := by omega
      have HT := Lib.hid ht
      have HFn := Lib.hid hf
      have hdg : dgB s[k].toNat = (!decide ((s[k].toNat : Int) < 48) && !decide (57 < (s[k].toNat : Int))) := by
        unfold dgB
        rw [Bool.eq_iff_iff]
        simp
        omega
      clear ht hf
      cases h1 : decide ((s[k].toNat : Int) < 48)
      · cases h2 : decide (57 < (s[k].toNat : Int))
        · have hd : dgB s[k].toNat = true := by rw [hdg, h1, h2]; rfl
          have HY := Lib.hid (HT.out.trans hd)
          clear hd hdg
          go_wp2_with fail
          go_round
          case rel => exact ⟨k + 1, by omega, by go_num, Lib.hid HY.out⟩
          case measure => simp [intOf]; omega
        · have hd : dgB s[k].toNat = false := by rw [hdg, h1, h2]; rfl
          have HN := Lib.hid (HFn.out hd)
          clear hd hdg
          go_wp2_with fail
          go_ret
          exact ⟨by rw [HB.out, HN.out]; rfl, rfl⟩
      · have hd : dgB s[k].toNat = false := by rw [hdg, h1]; rfl
        have HN := Lib.hid (HFn.out hd)
        clear hd hdg
        go_wp2_with fail
        go_ret
        exact ⟨by rw [HB.out, HN.out]; rfl, rfl⟩
    · have hge : ¬ (k : Int) < (s.size : Int) := by omega
      have hall : allD s.data.toList = true := by have := hA.out; rwa [List.take_of_length_le (by simp; omega)] at this
      have HA := Lib.hid hall
      clear hall hA
      go_wp2_with fail
      go_ret
      exact ⟨by rw [HB.out, HA.out]; rfl, rfl⟩
end Go.Proofs.Ytellajpjhhamhaa
