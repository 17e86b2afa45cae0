/- Long division: the shifted numbers. -/
import Derived.Test.YtpabgmdgoghahaaDoorDa
import Derived.Laws.BitsAllLaws
import Derived.Laws.Bits64b
import Derived.Lib.ItoaNum
import Derived.Lib.Mul64
set_option linter.unusedVariables false
set_option linter.unusedSimpArgs false
namespace Go.Proofs.YtpabgmdgoghahaaDoor.div
open Go.Sort Go.ChangeShapes Go.WideShapes Go.ChangeAt Go.RowKit
theorem shift_of (y : Nat) (h0 : 1 ≤ y) (h1 : y < 2 ^ 64) : ∃ s : Nat, s ≤ 63 ∧ (64 - (Lib.bitLen y : Int)) = (s : Int) ∧ 2 ^ 63 ≤ y * 2 ^ s ∧ y * 2 ^ s < 2 ^ 64 := by
  obtain ⟨b1, b2, b3⟩ := Lib.bitLenAux_bounds 64 y h1 (by omega)
  have hb : Lib.bitLen y = Lib.bitLenAux 64 y := rfl
  rw [← hb] at b1 b2 b3
  generalize Lib.bitLen y = bl at *
  have hbl : bl ≤ 64 := by
    rcases Nat.lt_or_ge 64 bl with h | h
    · have : 2 ^ 64 ≤ 2 ^ (bl - 1) := Nat.pow_le_pow_right (by decide) (by omega)
      omega
    · exact h
  refine ⟨64 - bl, by omega, by omega, ?_, ?_⟩
  · have : 2 ^ (bl - 1) * 2 ^ (64 - bl) ≤ y * 2 ^ (64 - bl) := Nat.mul_le_mul_right _ b2
    rw [← Nat.pow_add, show bl - 1 + (64 - bl) = 63 from by omega] at this
    exact this
  · have : y * 2 ^ (64 - bl) < 2 ^ bl * 2 ^ (64 - bl) := Nat.mul_lt_mul_of_pos_right b3 (Nat.pow_pos (by decide))
    rw [← Nat.pow_add, show bl + (64 - bl) = 64 from by omega] at this
    exact this
/-- the words of a dividend that is shifted -/
theorem words (hi lo y s : Nat) (hs : s ≤ 63) (hlo : lo < 2 ^ 64) (hhi : hi < y) (hY : y * 2 ^ s < 2 ^ 64) :
    (hi * 2 ^ s) ||| (lo / 2 ^ (64 - s)) = hi * 2 ^ s + lo / 2 ^ (64 - s) ∧ hi * 2 ^ s < 2 ^ 64 ∧ lo / 2 ^ (64 - s) < 2 ^ 64 ∧ hi * 2 ^ s + lo / 2 ^ (64 - s) < y * 2 ^ s ∧
    (hi * 2 ^ s + lo / 2 ^ (64 - s)) * 2 ^ 64 + lo * 2 ^ s % 2 ^ 64 = (hi * 2 ^ 64 + lo) * 2 ^ s := by
  have hp : 0 < 2 ^ s := Nat.pow_pos (by decide)
  have e64 : 2 ^ (64 - s) * 2 ^ s = 2 ^ 64 := by rw [← Nat.pow_add]; congr 1; omega
  have hl : lo / 2 ^ (64 - s) < 2 ^ s := by
    rw [Nat.div_lt_iff_lt_mul (Nat.pow_pos (by decide)), Nat.mul_comm, e64]
    exact hlo
  have h1 : hi * 2 ^ s < 2 ^ 64 := Nat.lt_trans (Nat.mul_lt_mul_of_pos_right hhi hp) hY
  have h2 : (hi + 1) * 2 ^ s ≤ y * 2 ^ s := Nat.mul_le_mul_right _ hhi
  rw [Nat.add_mul, Nat.one_mul] at h2
  have hd : lo * 2 ^ s / 2 ^ 64 = lo / 2 ^ (64 - s) := by
    rw [← e64]; exact Nat.mul_div_mul_right _ _ hp
  have hdm := Nat.div_add_mod (lo * 2 ^ s) (2 ^ 64)
  rw [hd] at hdm
  refine ⟨nat_join s _ _ (Nat.mul_mod_left _ _) hl, h1, ?_, by omega, ?_⟩
  · have : lo / 2 ^ (64 - s) ≤ lo := Nat.div_le_self _ _
    omega
  · rw [Nat.add_mul (hi * 2 ^ 64), Nat.add_mul (hi * 2 ^ s), Nat.mul_right_comm hi, Nat.add_assoc, Nat.mul_comm (lo / 2 ^ (64 - s)), hdm]
end Go.Proofs.YtpabgmdgoghahaaDoor.div
