import Derived.Test.YtlkbghdeingimaaA
import Derived.Deep.RegionHeld3
import Derived.Deep.Light
set_option linter.unusedVariables false
set_option linter.unusedSimpArgs false
namespace Go.Proofs.Ytlkbghdeingimaa
open Go.ChangeShapes Go.WideShapes Go.ChangeAt Go.RowKit

def capB (c : Int) : Bool := decide (65 ≤ c ∧ c ≤ 90)
def curL (l : List UInt8) : Bool := decide (l.length = 3) && l.all fun c => capB (c.toNat : Int)
def amtB (n least : Int) : Bool := decide (least ≤ n ∧ n ≤ 999999999999)
def timeB (n : Int) : Bool := decide (0 ≤ n ∧ n ≤ 1099511627776)

theorem amt_any (n least : Int) (w : World) :
    Calls Try.prog 26 #[.int .i64 n, .int .i64 least] w fun e w' => e = .returned (.bool (amtB n least)) ∧ w = w' := by
  go_enter Try.func26, Try.ntmps26
  go_wp2
  all_goals
    go_ret
    exact ⟨ret_bool (by rw [Bool.eq_iff_iff]; simp [amtB] <;> omega), rfl⟩
theorem time_any (n : Int) (w : World) :
    Calls Try.prog 27 #[.int .i64 n] w fun e w' => e = .returned (.bool (timeB n)) ∧ w = w' := by
  go_enter Try.func27, Try.ntmps27
  go_wp2
  all_goals
    go_ret
    exact ⟨ret_bool (by rw [Bool.eq_iff_iff]; simp [timeB] <;> omega), rfl⟩
def inB (n lo hi : Int) : Bool := decide (lo ≤ n ∧ n ≤ hi)
theorem within_any (n lo hi : Int) (w : World) :
    Calls Try.prog 31 #[.int .i64 n, .int .i64 lo, .int .i64 hi] w fun e w' => e = .returned (.bool (inB n lo hi)) ∧ w = w' := by
  go_enter Try.func31, Try.ntmps31
  go_wp2
  all_goals
    go_ret
    exact ⟨ret_bool (by rw [Bool.eq_iff_iff]; simp [inB] <;> omega), rfl⟩

theorem id_parts (c : Int) : (idB c = true ∧ (97 ≤ c ∧ c ≤ 122 ∨ 65 ≤ c ∧ c ≤ 90 ∨ 48 ≤ c ∧ c ≤ 57 ∨ 95 ≤ c ∧ c ≤ 95 ∨ 45 ≤ c ∧ c ≤ 45)) ∨
    (idB c = false ∧ (c < 45 ∨ 45 < c ∧ c < 48 ∨ 57 < c ∧ c < 65 ∨ 90 < c ∧ c < 95 ∨ 95 < c ∧ c < 97 ∨ 122 < c)) := by
  cases h : idB c
  · right; simp [idB] at h; exact ⟨rfl, by omega⟩
  · left; simp [idB] at h; exact ⟨rfl, by omega⟩
theorem idB_yes {c : Int} (h : 97 ≤ c ∧ c ≤ 122 ∨ 65 ≤ c ∧ c ≤ 90 ∨ 48 ≤ c ∧ c ≤ 57 ∨ c = 95 ∨ c = 45) : idB c = true := by simpa [idB] using h
theorem idB_nay {c : Int} (h : ¬ (97 ≤ c ∧ c ≤ 122 ∨ 65 ≤ c ∧ c ≤ 90 ∨ 48 ≤ c ∧ c ≤ 57 ∨ c = 95 ∨ c = 45)) : idB c = false := by simpa [idB] using h
set_option maxHeartbeats 1000000 in
theorem rid_any (s : ByteArray) (w : World) (hs : s.size ≤ maxLen) :
    Calls Try.prog 29 #[.string s] w fun e w' => e = .returned (.bool (idL s.data.toList)) ∧ w = w' := by
  unfold maxLen at hs
  by_cases h0 : s.size = 0
  · have HF := Lib.hid (idL_no s (Or.inl h0))
    have h1 : (s.size : Int) < 1 := by omega
    clear h0
    go_enter Try.func29, Try.ntmps29
    go_wp2
    go_ret
    exact ⟨ret_bool HF.out.symm, rfl⟩
  · by_cases h16 : s.size ≤ 16
    · go_enter Try.func29, Try.ntmps29
      go_wp2_with fail
      go_loop [3] (fun i => ∃ k : Nat, k ≤ s.size ∧ i = .int .i64 k ∧ Hid ((s.data.toList.take k).all (fun c => idB (c.toNat : Int)) = true)) (fun i => s.size - (intOf i).toNat)
      case atStart => exact ⟨0, by omega, rfl, Lib.hid (by simp)⟩
      case round =>
        obtain ⟨k, hk, rfl, hall⟩ := hrel
        by_cases hlt : k < s.size
        · have hb0 : (0 : Int) ≤ (s[k].toNat : Int) := by omega
          have hb1 : (s[k].toNat : Int) ≤ 255 := by have := s[k].toNat_lt; omega
          go_wp2_with fail
          all_goals first
            | (go_round
               case rel => exact ⟨k + 1, by omega, by go_num, idL_step s k hlt hall (idB_yes (by go_light; simp only [Bool.not_eq_true', Bool.not_eq_false', decide_eq_true_eq, decide_eq_false_iff_not, beq_iff_eq, beq_eq_false_iff_ne, ne_eq] at *; omega))⟩
               case measure => simp [intOf]; omega)
            | (go_ret
               exact ⟨ret_bool (idL_bad s k hlt (idB_nay (by go_light; simp only [Bool.not_eq_true', Bool.not_eq_false', decide_eq_true_eq, decide_eq_false_iff_not, beq_iff_eq, beq_eq_false_iff_ne, ne_eq] at *; omega))).symm, rfl⟩)
        · go_wp2_with fail
          go_ret
          exact ⟨ret_bool (idL_good s h16 h0 k hk hlt hall).symm, rfl⟩
    · have HF := Lib.hid (idL_no s (Or.inr (by omega)))
      go_enter Try.func29, Try.ntmps29
      go_wp2_with fail
      go_ret
      exact ⟨ret_bool HF.out.symm, rfl⟩
end Go.Proofs.Ytlkbghdeingimaa
