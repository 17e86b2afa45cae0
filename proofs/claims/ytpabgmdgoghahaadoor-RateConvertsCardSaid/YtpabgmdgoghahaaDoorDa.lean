/- Long division in base 2^32: the numbers. -/
import Derived.Test.YtpabgmdgoghahaaDoorL
set_option linter.unusedVariables false
set_option linter.unusedSimpArgs false
namespace Go.Proofs.YtpabgmdgoghahaaDoor.div
/-- what is known of a digit that is tried: 'q' is not too small, and 'rh' is what is left of the first word -/
structure Dig (un u d1 d0 q rh : Nat) : Prop where
  left : rh + q * d1 = un
  low : (un * 4294967296 + u) / (d1 * 4294967296 + d0) ≤ q
  top : q ≤ 4294967297
section
variable {un u d1 d0 q rh : Nat}
theorem dig_start (h1 : 2147483648 ≤ d1) (h2 : d1 < 4294967296) (h3 : d0 < 4294967296) (hu : u < 4294967296) (hun : un < d1 * 4294967296 + d0) : Dig un u d1 d0 (un / d1) (un % d1) ∧ un % d1 < 4294967296 := by
  have hm := Nat.mod_lt un (show d1 > 0 by omega)
  refine ⟨⟨?_, ?_, ?_⟩, by omega⟩
  · rw [Nat.mul_comm]; have := Nat.div_add_mod un d1; omega
  · rw [Nat.le_div_iff_mul_le (by omega)]
    have h := Nat.div_mul_le_self (un * 4294967296 + u) (d1 * 4294967296 + d0)
    generalize (un * 4294967296 + u) / (d1 * 4294967296 + d0) = t at *
    rw [Nat.mul_add, ← Nat.mul_assoc] at h
    generalize t * d1 = x at *
    have : x * 4294967296 < (un + 1) * 4294967296 := by omega
    omega
  · have : un / d1 < 4294967298 := by
      rw [Nat.div_lt_iff_lt_mul (show 0 < d1 by omega)]
      omega
    omega
theorem dig_stop (h1 : 2147483648 ≤ d1) (hi : Dig un u d1 d0 q rh) (hc : q * d0 ≤ 4294967296 * rh + u) : q = (un * 4294967296 + u) / (d1 * 4294967296 + d0) := by
  refine Nat.le_antisymm ?_ hi.low
  rw [Nat.le_div_iff_mul_le (by omega), Nat.mul_add, ← Nat.mul_assoc]
  have := hi.left
  generalize q * d1 = x at *
  generalize q * d0 = y at *
  omega
theorem dig_next (h1 : 2147483648 ≤ d1) (hun : un < d1 * 4294967296 + d0) (hu : u < 4294967296) (hi : Dig un u d1 d0 q rh) (hc : 4294967296 ≤ q ∨ 4294967296 * rh + u < q * d0) :
    1 ≤ q ∧ Dig un u d1 d0 (q - 1) (rh + d1) ∧ q - 1 ≤ 4294967296 := by
  have hlt : (un * 4294967296 + u) / (d1 * 4294967296 + d0) < q := by
    rcases hc with hc | hc
    · refine Nat.lt_of_lt_of_le ?_ hc
      rw [Nat.div_lt_iff_lt_mul (show 0 < d1 * 4294967296 + d0 by omega)]
      omega
    · rw [Nat.div_lt_iff_lt_mul (show 0 < d1 * 4294967296 + d0 by omega), Nat.mul_add, ← Nat.mul_assoc]
      have := hi.left
      generalize q * d1 = x at *
      generalize q * d0 = y at *
      omega
  have ht := hi.top
  have hl := hi.left
  have hq1 : 1 ≤ q := Nat.lt_of_le_of_lt (Nat.zero_le _) hlt
  obtain ⟨p, rfl⟩ : ∃ p, q = p + 1 := ⟨q - 1, by omega⟩
  refine ⟨by omega, ⟨?_, Nat.le_of_lt_succ hlt, ?_⟩, ?_⟩ <;> simp only [Nat.add_sub_cancel]
  rotate_left
  · omega
  · omega
  rw [Nat.add_mul, Nat.one_mul] at hl
  omega
theorem dig_leave (h1 : 2147483648 ≤ d1) (h3 : d0 < 4294967296) (hi : Dig un u d1 d0 q rh) (hq : q ≤ 4294967296) (hr : 4294967296 ≤ rh) : q = (un * 4294967296 + u) / (d1 * 4294967296 + d0) := by
  refine dig_stop h1 hi ?_
  have : q * d0 ≤ 4294967296 * d0 := Nat.mul_le_mul_right _ hq
  omega
end
/-- a digit and what is left -/
theorem dig_rest (un u Y q : Nat) (hY : 0 < Y) (h : q = (un * 4294967296 + u) / Y) : un * 4294967296 + u = q * Y + (un * 4294967296 + u) % Y ∧ (un * 4294967296 + u) % Y < Y := by
  subst h
  refine ⟨?_, Nat.mod_lt _ hY⟩
  exact (Nat.div_add_mod' _ _).symm
theorem lin (H u1 u0 x y r1 r0 : Nat) (e1 : H * 4294967296 + u1 = x + r1) (e0 : r1 * 4294967296 + u0 = y + r0) : (H * 4294967296 + u1) * 4294967296 + u0 = x * 4294967296 + y + r0 := by
  rw [e1, Nat.add_mul, Nat.add_assoc, e0, ← Nat.add_assoc]
/-- two digits are the quotient -/
theorem two_digits (H u1 u0 Y q1 r1 q0 r0 : Nat) (e1 : H * 4294967296 + u1 = q1 * Y + r1) (e0 : r1 * 4294967296 + u0 = q0 * Y + r0) (hr : r0 < Y) :
    ((H * 4294967296 + u1) * 4294967296 + u0) / Y = q1 * 4294967296 + q0 ∧ ((H * 4294967296 + u1) * 4294967296 + u0) % Y = r0 := by
  have e : (H * 4294967296 + u1) * 4294967296 + u0 = Y * (q1 * 4294967296 + q0) + r0 := by
    rw [Nat.mul_add, ← Nat.mul_assoc, Nat.mul_comm Y q1, Nat.mul_comm Y q0]
    exact lin _ _ _ _ _ _ _ e1 e0
  rw [e]
  exact ⟨by rw [Nat.mul_add_div (by omega), Nat.div_eq_of_lt hr, Nat.add_zero], by rw [Nat.mul_add_mod, Nat.mod_eq_of_lt hr]⟩
/-- shifted back -/
theorem unshift (U y s : Nat) : (U * 2 ^ s) / (y * 2 ^ s) = U / y ∧ (U * 2 ^ s) % (y * 2 ^ s) / 2 ^ s = U % y := by
  have hp : 0 < 2 ^ s := Nat.pow_pos (by decide)
  exact ⟨Nat.mul_div_mul_right _ _ hp, by rw [Nat.mul_mod_mul_right, Nat.mul_div_cancel _ hp]⟩
end Go.Proofs.YtpabgmdgoghahaaDoor.div
