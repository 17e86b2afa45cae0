/- What the rounding is: the numbers. -/
import Derived.Test.YtpabgmdgoghahaaDoorU
set_option linter.unusedVariables false
set_option linter.unusedSimpArgs false
namespace Go.Proofs.YtpabgmdgoghahaaDoor
open Go.Sort Go.ChangeShapes Go.WideShapes Go.ChangeAt Go.RowKit
theorem sgn_mul (a Q L : Int) : sgn a Q * L = sgn a (Q * L) := by
  unfold sgn; split
  · rw [Int.neg_mul]
  · rfl
theorem sgn_abs (a : Int) (K : Nat) : a * (K : Int) = sgn a ((a.natAbs * K : Nat) : Int) := by
  unfold sgn; split
  · have hn : ((a.natAbs : Nat) : Int) = -a := by omega
    rw [Int.natCast_mul, hn, Int.neg_mul, Int.neg_neg]
  · have hn : ((a.natAbs : Nat) : Int) = a := by omega
    rw [Int.natCast_mul, hn]
/-- what is known of an amount that is converted -/
structure Rnd (a : Int) (L : Nat) (mode x X Y : Int) : Prop where
  x0 : -2199023255552 ≤ x
  x1 : x ≤ 2199023255552
  X0 : -1099511627776 ≤ X
  X1 : X ≤ 1099511627776
  Y0 : -4398046511104 ≤ Y
  Y1 : Y ≤ 4398046511104
  down : mode = 1 → ((Y - X).natAbs : Int) < L ∧ Y.natAbs ≤ X.natAbs
  up : mode = 2 → ((Y - X).natAbs : Int) < L ∧ X.natAbs ≤ Y.natAbs
  half : mode = 3 ∨ mode = 4 → 2 * ((Y - X).natAbs : Int) ≤ L
theorem rnd (a : Int) (K L : Nat) (mode : Int) (a0 : -1048576 ≤ a) (a1 : a ≤ 1048576) (k1 : 1 ≤ K) (k2 : K ≤ 1048576) (l1 : 1 ≤ L) (l2 : L ≤ 1048576) (m1 : 1 ≤ mode) (m2 : mode ≤ 4) :
    a.natAbs * K < 18446744073709551616 ∧ a.natAbs * K / L < 4503599627370496 ∧
    ∃ x X Y, sgn a (((a.natAbs * K / L : Nat) : Int) + bI (upB (a.natAbs * K / L) (a.natAbs * K % L) L mode)) = x ∧ a * (K : Int) = X ∧ x * (L : Int) = Y ∧ Rnd a L mode x X Y := by
  have hP : a.natAbs * K ≤ 1048576 * 1048576 := Nat.mul_le_mul (by omega) k2
  have hX := sgn_abs a K
  generalize a.natAbs * K = P at *
  have hq := Nat.div_le_self P L
  have hTr := Nat.div_add_mod P L
  have hr := Nat.mod_lt P (show L > 0 by omega)
  generalize hqq : P / L = q at *
  generalize hrr : P % L = r at *
  have hT : (q : Int) * (L : Int) = ((L * q : Nat) : Int) := by rw [Int.natCast_mul, Int.mul_comm]
  refine ⟨by omega, by omega, _, _, _, rfl, rfl, rfl, ?_⟩
  rw [hX, sgn_mul, Int.add_mul, hT]
  generalize L * q = T at *
  have hQ : 0 ≤ bI (upB q r L mode) ∧ bI (upB q r L mode) ≤ 1 := by unfold bI; split <;> omega
  have hc : (upB q r L mode = true ∧ bI (upB q r L mode) = 1 ∧ bI (upB q r L mode) * (L : Int) = L) ∨ (upB q r L mode = false ∧ bI (upB q r L mode) = 0 ∧ bI (upB q r L mode) * (L : Int) = 0) := by
    cases upB q r L mode
    · exact .inr ⟨rfl, rfl, by simp [bI]⟩
    · exact .inl ⟨rfl, rfl, by simp [bI]⟩
  have hmode : mode = 1 ∨ mode = 2 ∨ mode = 3 ∨ mode = 4 := by omega
  have u1 : mode = 1 → upB q r L mode = false := by rintro rfl; simp [upB]
  have u2 : mode = 2 → upB q r L mode = decide (0 < r) := by rintro rfl; simp [upB]
  have u3 : mode = 3 → upB q r L mode = decide (L ≤ 2 * r) := by rintro rfl; simp [upB]
  have u4 : mode = 4 → (upB q r L mode = true → L ≤ 2 * r) ∧ (upB q r L mode = false → 2 * r ≤ L) := by
    rintro rfl
    refine ⟨fun h => ?_, fun h => ?_⟩
    · simp [upB] at h; omega
    · simp [upB] at h; omega
  unfold sgn
  rcases hc with ⟨h1, h2, h3⟩ | ⟨h1, h2, h3⟩
  · rw [h3, h2]
    have v2 : mode = 2 → 0 < r := fun h => by have := u2 h; rw [h1] at this; exact of_decide_eq_true this.symm
    have v3 : mode = 3 → L ≤ 2 * r := fun h => by have := u3 h; rw [h1] at this; exact of_decide_eq_true this.symm
    have v4 : mode = 4 → L ≤ 2 * r := fun h => (u4 h).1 h1
    have v1 : mode ≠ 1 := fun h => by have := u1 h; rw [h1] at this; cases this
    clear u1 u2 u3 u4 hX hT hQ
    split
    · constructor <;> omega
    · constructor <;> omega
  · rw [h3, h2]
    have v2 : mode = 2 → r = 0 := fun h => by have := u2 h; rw [h1] at this; have := of_decide_eq_false this.symm; omega
    have v3 : mode = 3 → 2 * r < L := fun h => by have := u3 h; rw [h1] at this; have := of_decide_eq_false this.symm; omega
    have v4 : mode = 4 → 2 * r ≤ L := fun h => (u4 h).2 h1
    clear u1 u2 u3 u4 hX hT hQ
    split
    · constructor <;> omega
    · constructor <;> omega
theorem gcdI_nat (L K : Nat) : gcdI (L : Int) (K : Int) = (Nat.gcd L K : Nat) := by unfold gcdI; simp
/-- back by the inverse rate -/
theorem back (a : Int) (K L : Nat) (x : Int) (hx : x * (L : Int) = a * (K : Int)) (k1 : 1 ≤ K) (l1 : 1 ≤ L) :
    ∃ K' L' : Nat, redN (L : Int) (K : Int) = K' ∧ redD (L : Int) (K : Int) = L' ∧ 1 ≤ K' ∧ K' ≤ L ∧ 1 ≤ L' ∧ L' ≤ K ∧ x.natAbs * K' / L' = a.natAbs ∧ x.natAbs * K' % L' = 0 ∧ (∀ mode, upB a.natAbs 0 L' mode = false) ∧ sgn x a.natAbs = a := by
  have g0 : 0 < Nat.gcd L K := Nat.gcd_pos_of_pos_left K (by omega)
  have hn : x.natAbs * L = a.natAbs * K := by
    have := congrArg Int.natAbs hx
    rwa [Int.natAbs_mul, Int.natAbs_mul, Int.natAbs_natCast, Int.natAbs_natCast] at this
  have d1 := Nat.div_mul_cancel (Nat.gcd_dvd_left L K)
  have d2 := Nat.div_mul_cancel (Nat.gcd_dvd_right L K)
  have e1 : redN (L : Int) (K : Int) = ((L / Nat.gcd L K : Nat) : Int) := by
    unfold redN; rw [if_neg (by omega), gcdI_nat, Int.natCast_ediv]
  have e2 : redD (L : Int) (K : Int) = ((K / Nat.gcd L K : Nat) : Int) := by
    unfold redD; rw [if_neg (by omega), gcdI_nat, Int.natCast_ediv]
  have r := red_range (L : Int) (K : Int) (by omega) (by omega)
  rw [e1, e2] at r
  generalize Nat.gcd L K = g at *
  generalize L / g = K' at *
  generalize K / g = L' at *
  have hc : x.natAbs * K' = a.natAbs * L' := by
    have : x.natAbs * K' * g = a.natAbs * L' * g := by rw [Nat.mul_assoc, Nat.mul_assoc, d1, d2, hn]
    exact Nat.eq_of_mul_eq_mul_right g0 this
  refine ⟨K', L', e1, e2, by omega, by omega, by omega, by omega, ?_, ?_, ?_, ?_⟩
  · rw [hc]; exact Nat.mul_div_cancel _ (by omega)
  · rw [hc]; exact Nat.mul_mod_left _ _
  · intro mode
    have : 0 < L' := by omega
    have h1 : decide (L' ≤ 2 * 0) = false := decide_eq_false (by omega)
    have h2 : decide (2 * 0 = L') = false := decide_eq_false (by omega)
    have h3 : decide (L' < 2 * 0) = false := decide_eq_false (by omega)
    simp only [upB, h1, h2, h3]
    simp
  · unfold sgn
    split
    · rename_i hneg
      have h1 : x * (L : Int) < 0 := Int.mul_neg_of_neg_of_pos hneg (by omega)
      have h2 : a < 0 := by
        rcases Int.lt_or_le a 0 with h | h
        · exact h
        · have := Int.mul_nonneg h (show (0 : Int) ≤ (K : Int) by omega)
          omega
      omega
    · rename_i hneg
      have h1 : 0 ≤ x * (L : Int) := Int.mul_nonneg (by omega) (by omega)
      have h2 : 0 ≤ a := by
        rcases Int.lt_or_le a 0 with h | h
        · have := Int.mul_neg_of_neg_of_pos h (show (0 : Int) < (K : Int) by omega)
          omega
        · exact h
      omega
end Go.Proofs.YtpabgmdgoghahaaDoor
