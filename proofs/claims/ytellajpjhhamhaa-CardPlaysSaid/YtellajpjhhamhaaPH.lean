/- Luhn, Check of the program. -/
import Derived.Test.YtellajpjhhamhaaPG
set_option linter.unusedVariables false
set_option linter.unusedSimpArgs false
namespace Go.Proofs.Ytellajpjhhamhaa
open Go.Sort Go.ChangeShapes Go.WideShapes Go.ChangeAt Go.RowKit
theorem bre_ {w W : World} (h : Below w.heap.size w W) (d : Nat) (os : Array Obj) : Below w.heap.size w (grow (redrawn W d) os) := below_re h h.size d os
set_option maxHeartbeats 1000000 in
theorem luhn_any (s : ByteArray) (hs : s.size ≤ 200) (w : World) : Calls Try.prog 39 #[.string s] w fun e w' => e = .returned (.bool (luhB s)) ∧ Below w.heap.size w w' := by
  have S1 := Lib.hid (fun w => sum_any s hs w)
  have hg : allD s.data.toList = true → 0 ≤ lsum s.data.toList s.size 1 s.size ∧ lsum s.data.toList s.size 1 s.size ≤ 1800 := fun hd => by
    have := lsum_in hd s.size 1 s.size (Nat.le_refl _)
    omega
  obtain ⟨B, hB⟩ : ∃ B, B = luhB s := ⟨_, rfl⟩
  rw [← hB]
  unfold luhB at hB
  generalize lsum s.data.toList s.size 1 s.size = g at *
  obtain ⟨z, hz⟩ : ∃ z, (s.toList == []) = z := ⟨_, rfl⟩
  have h0b : (s.toList != []) = !z := by rw [bne, hz]
  have h0c : s.toList.isEmpty = z := by rw [← hz]; cases h : s.toList with | nil => rfl | cons a r => rfl
  cases hd : allD s.data.toList
  · rw [hd] at S1 hB
    have HB := Lib.hid (show B = false by rw [hB]; simp)
    rw [if_neg (by simp)] at S1
    clear hB hd hs hg
    cases z
    · go_enter Try.func39, Try.ntmps39
      go_wp2_with fail
      refine (S1.out _).mono ?_
      rintro e w1 ⟨rfl, hb⟩
      have HW := Lib.hid hb
      clear hb
      go_wp2_with fail
      go_ret
      exact ⟨by rw [HB.out]; rfl, HW.out⟩
    · have h0d : s.toList = [] := by simpa using hz
      go_enter Try.func39, Try.ntmps39
      go_wp2_with fail
      refine (S1.out _).mono ?_
      rintro e w1 ⟨rfl, hb⟩
      have HW := Lib.hid hb
      clear hb
      go_wp2_with fail
      go_ret
      exact ⟨by rw [HB.out]; rfl, HW.out⟩
  · obtain ⟨g0, g1⟩ := hg hd
    rw [hd] at S1 hB
    rw [if_pos rfl] at S1
    obtain ⟨Z, hZ⟩ : ∃ Z, (g % 10 == 0) = Z := ⟨_, rfl⟩
    have HB := Lib.hid (show B = (!z && Z) by rw [hB, hz, hZ]; simp)
    clear hB hd hs hg
    cases z
    · go_enter Try.func39, Try.ntmps39
      go_wp2_with fail
      refine (S1.out _).mono ?_
      rintro e w1 ⟨rfl, hb⟩
      have HW := Lib.hid hb
      clear hb
      go_wp2_with fail
      go_ret
      exact ⟨by rw [HB.out]; rfl, HW.out⟩
    · have h0d : s.toList = [] := by simpa using hz
      go_enter Try.func39, Try.ntmps39
      go_wp2_with fail
      refine (S1.out _).mono ?_
      rintro e w1 ⟨rfl, hb⟩
      have HW := Lib.hid hb
      clear hb
      go_wp2_with fail
      go_ret
      exact ⟨by rw [HB.out]; rfl, HW.out⟩
end Go.Proofs.Ytellajpjhhamhaa
