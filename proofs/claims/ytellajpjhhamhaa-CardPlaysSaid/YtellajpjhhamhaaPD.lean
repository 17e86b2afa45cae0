/- Luhn of the reference. -/
import Derived.Test.YtellajpjhhamhaaPC
set_option linter.unusedVariables false
set_option linter.unusedSimpArgs false
namespace Go.Proofs.Ytellajpjhhamhaa
open Go.Sort Go.ChangeShapes Go.WideShapes Go.ChangeAt Go.RowKit
theorem lsum_in {s : ByteArray} (hd : allD s.data.toList = true) (n f : Int) (k : Nat) (hk : k ≤ s.size) : 0 ≤ lsum s.data.toList n f k ∧ lsum s.data.toList n f k ≤ 9 * k := by
  induction k with
  | zero => exact ⟨Int.le_refl _, Int.le_refl _⟩
  | succ k ih =>
    have ih := ih (by omega)
    obtain ⟨v0, v1, ve⟩ := dig_at hd k (by omega)
    rw [lsum_succ, ve]
    unfold lz
    split
    · split <;> omega
    · omega
def luhB (s : ByteArray) : Bool := !(s.toList == []) && (allD s.data.toList && (lsum s.data.toList s.size 1 s.size % 10 == 0))
theorem size_zero_l {s : ByteArray} (h : s.size = 0) : (s.toList == []) = true := by
  rw [beq_iff_eq, ByteArray.toList_eq]
  exact List.eq_nil_of_length_eq_zero (Array.length_toList.trans h)
set_option maxHeartbeats 1000000 in
theorem rluhn_any (s : ByteArray) (hs : s.size ≤ 200) (w : World) : Calls Try.prog 41 #[.string s] w fun e w' => e = .returned (.bool (luhB s)) ∧ w' = w := by
  have RD := Lib.hid (fun w => rdigits_any s w (by unfold maxLen; omega))
  obtain ⟨B, hB⟩ : ∃ B, B = luhB s := ⟨_, rfl⟩
  rw [← hB]
  unfold luhB at hB
  cases h0 : (s.toList == [])
  · have h0b : (s.toList != []) = true := by rw [bne, h0]; rfl
    have h0c : s.toList.isEmpty = false := by cases h : s.toList with | nil => rw [h] at h0; cases h0 | cons a r => rfl
    cases hd : allD s.data.toList
    · rw [hd] at RD hB
      have HB := Lib.hid (show B = false by rw [hB, h0]; rfl)
      clear hB hd hs
      go_enter Try.func41, Try.ntmps41
      go_wp2_with (go_at_call 40; refine (RD.out _).mono ?_; rintro e w' ⟨rfl, rfl⟩)
      go_ret
      exact ⟨by rw [HB.out]; rfl, rfl⟩
    · have RS := Lib.hid (fun w => rsum_any s 1 (by omega) hs hd w)
      have hg := lsum_in hd s.size 1 s.size (Nat.le_refl _)
      rw [hd] at RD hB
      generalize lsum s.data.toList s.size 1 s.size = g at *
      have g0 := hg.1
      have g1 : g ≤ 1800 := by omega
      obtain ⟨Z, hZ⟩ : ∃ Z, (g % 10 == 0) = Z := ⟨_, rfl⟩
      have HB := Lib.hid (show B = Z by rw [hB, h0, hZ]; simp)
      clear hB hd hs hg
      go_enter Try.func41, Try.ntmps41
      go_wp2_with (first | (go_at_call 40; refine (RD.out _).mono ?_; rintro e w' ⟨rfl, rfl⟩) | (go_at_call 44; refine (RS.out _).mono ?_; rintro e w' ⟨rfl, rfl⟩))
      go_ret
      exact ⟨by rw [HB.out]; rfl, rfl⟩
  · have h0b : (s.toList != []) = false := by rw [bne, h0]; rfl
    have h0c : s.toList = [] := by simpa using h0
    have HB := Lib.hid (show B = false by rw [hB, h0]; rfl)
    clear hB hs
    go_enter Try.func41, Try.ntmps41
    go_wp2_with fail
    go_ret
    exact ⟨by rw [HB.out]; rfl, rfl⟩
end Go.Proofs.Ytellajpjhhamhaa
