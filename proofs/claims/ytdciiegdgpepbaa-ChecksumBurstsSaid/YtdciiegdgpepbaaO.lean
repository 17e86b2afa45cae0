/- A string with a burst of bits turned, bit by bit. -/
import Derived.Test.YtdciiegdgpepbaaN
set_option linter.unusedVariables false
set_option linter.unusedSimpArgs false
namespace Go.Proofs.Ytdciiegdgpepbaa
def bcond (s : ByteArray) (p x k : Nat) : Bool := x.testBit k && decide (p + k < 8 * s.size)
def flipB (t : ByteArray) (n : Nat) : ByteArray := setB t (n / 8) (UInt8.ofNat (byteAt t (n / 8) ^^^ 2 ^ (n % 8)))
def brs (s : ByteArray) (p x : Nat) : Nat → ByteArray
  | 0 => s
  | k + 1 => if bcond s p x k then flipB (brs s p x k) (p + k) else brs s p x k
def brc (s : ByteArray) (p x : Nat) : Nat → Bool
  | 0 => false
  | k + 1 => brc s p x k || bcond s p x k
theorem flipB_size (t : ByteArray) (n : Nat) : (flipB t n).size = t.size := setB_size _ _ _
theorem pow8 (n : Nat) : 2 ^ (n % 8) < 256 := Nat.lt_of_le_of_lt (Nat.pow_le_pow_right (n := 2) (by omega) (show n % 8 ≤ 7 by omega)) (by omega)
theorem flipB_bit (t : ByteArray) {q : Nat} (hq : q / 8 < t.size) (n : Nat) : bitAt (flipB t q) n = (bitAt t n ^^ decide (n = q)) := by
  unfold bitAt flipB
  by_cases h : n / 8 = q / 8
  · rw [h, byteAt_setB_eq t _ hq, UInt8.toNat_ofNat', Nat.mod_eq_of_lt (Nat.xor_lt_two_pow (n := 8) (byteAt_lt t _) (pow8 q)), Nat.testBit_xor, Nat.testBit_two_pow]
    congr 1
    rw [decide_eq_decide]
    omega
  · rw [byteAt_setB_ne t _ h, decide_eq_false (by omega)]
    simp
theorem brs_size (s : ByteArray) (p x : Nat) : ∀ k, (brs s p x k).size = s.size
  | 0 => rfl
  | k + 1 => by
    show (if bcond s p x k then flipB (brs s p x k) (p + k) else brs s p x k).size = s.size
    split
    · rw [flipB_size]; exact brs_size s p x k
    · exact brs_size s p x k
theorem brs_bit (s : ByteArray) (p x : Nat) (n : Nat) : ∀ k, bitAt (brs s p x k) n = (bitAt s n ^^ (decide (p ≤ n ∧ n < p + k) && bcond s p x (n - p)))
  | 0 => by
    show bitAt s n = _
    rw [decide_eq_false (by omega)]
    simp
  | k + 1 => by
    have ih := brs_bit s p x n k
    show bitAt (if bcond s p x k then flipB (brs s p x k) (p + k) else brs s p x k) n = _
    cases hc : bcond s p x k
    · rw [if_neg (by simp), ih]
      congr 1
      by_cases hn : n = p + k
      · subst hn
        rw [show p + k - p = k by omega, hc]
        simp
      · congr 1
        rw [decide_eq_decide]
        omega
    · rw [if_pos rfl]
      have hlt : p + k < 8 * s.size := by
        unfold bcond at hc
        simp at hc
        exact hc.2
      rw [flipB_bit _ (by rw [brs_size]; omega), ih]
      by_cases hn : n = p + k
      · subst hn
        rw [show p + k - p = k by omega, hc, decide_eq_false (by omega), decide_eq_true (by omega), decide_eq_true (by omega)]
        simp
      · rw [decide_eq_false hn, show decide (p ≤ n ∧ n < p + (k + 1)) = decide (p ≤ n ∧ n < p + k) by rw [decide_eq_decide]; omega]
        simp
theorem brc_iff (s : ByteArray) (p x : Nat) : ∀ k, brc s p x k = true ↔ ∃ j, j < k ∧ bcond s p x j = true
  | 0 => by
    constructor
    · intro h; cases h
    · rintro ⟨j, h, _⟩; omega
  | k + 1 => by
    show (brc s p x k || bcond s p x k) = true ↔ _
    rw [Bool.or_eq_true, brc_iff s p x k]
    constructor
    · rintro (⟨j, h1, h2⟩ | h)
      · exact ⟨j, by omega, h2⟩
      · exact ⟨k, by omega, h⟩
    · rintro ⟨j, h1, h2⟩
      rcases Nat.lt_or_ge j k with h | h
      · exact .inl ⟨j, h, h2⟩
      · obtain rfl : j = k := by omega
        exact .inr h2
theorem brs_same (s : ByteArray) (p x : Nat) : ∀ k, brc s p x k = false → brs s p x k = s
  | 0, _ => rfl
  | k + 1, h => by
    have h' : (brc s p x k || bcond s p x k) = false := h
    rw [Bool.or_eq_false_iff] at h'
    show (if bcond s p x k then flipB (brs s p x k) (p + k) else brs s p x k) = s
    rw [h'.2, if_neg (by simp), brs_same s p x k h'.1]
theorem burst_crc (s : ByteArray) (p x : Nat) (hp : p < 8 * s.size) : (crcOf (brs s p x 32) != crcOf s) = brc s p x 32 := by
  cases hc : brc s p x 32
  · rw [brs_same s p x 32 hc]
    simp
  · obtain ⟨j, hj, hb⟩ := (brc_iff s p x 32).1 hc
    unfold bcond at hb
    simp at hb
    obtain ⟨hb1, hb2⟩ := hb
    have hne : crcOf s ≠ crcOf (brs s p x 32) := by
      refine burst_ne (p := p) (x := x) (m := min 32 (8 * s.size - p)) (brs_size s p x 32).symm (Nat.min_le_left _ _) (by omega) ?_ ?_ ?_ ?_
      · intro n hn
        rw [brs_bit, decide_eq_false (by omega)]
        simp
      · intro i hi
        rw [brs_bit, decide_eq_true (by omega), show p + i - p = i by omega]
        have : bcond s p x i = x.testBit i := by
          unfold bcond
          rw [decide_eq_true (by omega), Bool.and_true]
        rw [this]
        simp
      · intro n hn
        rw [brs_bit]
        have : (decide (p ≤ n ∧ n < p + 32) && bcond s p x (n - p)) = false := by
          unfold bcond
          by_cases h : p ≤ n ∧ n < p + 32
          · rw [decide_eq_false (p := p + (n - p) < 8 * s.size) (by omega)]
            simp
          · rw [decide_eq_false h]
            simp
        rw [this]
        simp
      · intro h0
        have h1 : (x % 2 ^ min 32 (8 * s.size - p)).testBit j = true := by
          rw [Nat.testBit_mod_two_pow, hb1, decide_eq_true (by omega)]
          rfl
        rw [h0, Nat.zero_testBit] at h1
        cases h1
    simp
    exact fun h => hne h.symm
end Go.Proofs.Ytdciiegdgpepbaa
