/- Divide of the reference: bit by bit. -/
import Derived.Test.YtpabgmdgoghahaaDoorDd
set_option linter.unusedVariables false
set_option linter.unusedSimpArgs false
namespace Go.Proofs.YtpabgmdgoghahaaDoor.div
open Go.Sort Go.ChangeShapes Go.WideShapes Go.ChangeAt Go.RowKit
def capQ (x : Nat) : Int := if x ≤ 4503599627370496 then (x : Int) else 4503599627370497
theorem capQ_in (x : Nat) : 0 ≤ capQ x ∧ capQ x ≤ 4503599627370497 := by unfold capQ; split <;> omega
/-- one bit more -/
theorem bit_more (a n d k : Nat) (hd : 1 ≤ d) : n / 2 ^ k = 2 * (n / 2 ^ (k + 1)) + n / 2 ^ k % 2 ∧
    n / 2 ^ k * a / d = 2 * (n / 2 ^ (k + 1) * a / d) + (2 * (n / 2 ^ (k + 1) * a % d) + n / 2 ^ k % 2 * a) / d ∧
    n / 2 ^ k * a % d = (2 * (n / 2 ^ (k + 1) * a % d) + n / 2 ^ k % 2 * a) % d := by
  have h1 : n / 2 ^ (k + 1) = n / 2 ^ k / 2 := by rw [Nat.pow_succ, Nat.div_div_eq_div_mul]
  have h0 : n / 2 ^ k = 2 * (n / 2 ^ (k + 1)) + n / 2 ^ k % 2 := by rw [h1]; omega
  have e : n / 2 ^ k * a = d * (2 * (n / 2 ^ (k + 1) * a / d)) + (2 * (n / 2 ^ (k + 1) * a % d) + n / 2 ^ k % 2 * a) := by
    have hm := Nat.div_add_mod (n / 2 ^ (k + 1) * a) d
    have hx : n / 2 ^ k * a = 2 * (n / 2 ^ (k + 1) * a) + n / 2 ^ k % 2 * a := by
      rw [← Nat.mul_assoc, ← Nat.add_mul, ← h0]
    rw [hx, Nat.mul_left_comm d 2]
    generalize n / 2 ^ k % 2 * a = B at *
    generalize n / 2 ^ (k + 1) * a % d = R at *
    generalize d * (n / 2 ^ (k + 1) * a / d) = T at *
    omega
  refine ⟨h0, ?_, ?_⟩
  · rw [e, Nat.mul_add_div (by omega)]
  · rw [e, Nat.mul_add_mod]
theorem and_one (x : Nat) (hx : x < 2 ^ 62) : bits .and .i64 (x : Int) 1 = ((x % 2 : Nat) : Int) := by
  have h := bits_nat .i64 62 (by decide) (fun n h0 h1 => by rw [IntKind.wrap_i64]; omega) x 1 hx (by decide)
  have e : x &&& 1 = x % 2 := Nat.and_one_is_mod x
  rw [e] at h
  exact h.1
end Go.Proofs.YtpabgmdgoghahaaDoor.div
