/- The checksum bit by bit; what a burst of at most 32 bits does to it. -/
import Derived.Test.YtdciiegdgpepbaaM
set_option linter.unusedVariables false
set_option linter.unusedSimpArgs false
namespace Go.Proofs.Ytdciiegdgpepbaa
theorem stp_xor (a b : Nat) : stp (a ^^^ b) = stp a ^^^ stp b := by
  unfold stp
  have h2 : (a ^^^ b) / 2 = a / 2 ^^^ b / 2 := Nat.xor_div_two
  have h1 : (a ^^^ b) % 2 = (a + b) % 2 := by
    have h := Nat.xor_mod_two_pow (a := a) (b := b) (n := 1)
    rw [Nat.pow_one] at h
    rw [h]
    rcases Nat.mod_two_eq_zero_or_one a with ha | ha <;> rcases Nat.mod_two_eq_zero_or_one b with hb | hb <;> rw [ha, hb, Nat.add_mod, ha, hb] <;> rfl
  rw [h2, h1]
  rcases Nat.mod_two_eq_zero_or_one a with ha | ha <;> rcases Nat.mod_two_eq_zero_or_one b with hb | hb
  · rw [if_neg (by omega), if_neg (by omega), if_neg (by omega)]
  · rw [if_pos (by omega), if_neg (by omega), if_pos (by omega), Nat.xor_assoc]
  · rw [if_pos (by omega), if_pos (by omega), if_neg (by omega), Nat.xor_assoc, Nat.xor_assoc, Nat.xor_comm (b / 2)]
  · rw [if_neg (by omega), if_pos (by omega), if_pos (by omega)]
    rw [Nat.xor_assoc, ← Nat.xor_assoc 3988292384, Nat.xor_comm 3988292384 (b / 2), Nat.xor_assoc (b / 2), Nat.xor_self, Nat.xor_zero]
theorem stps_xor (a b : Nat) : ∀ k, stps k (a ^^^ b) = stps k a ^^^ stps k b
  | 0 => rfl
  | k + 1 => by
    show stp (stps k (a ^^^ b)) = stp (stps k a) ^^^ stp (stps k b)
    rw [stps_xor a b k, stp_xor]
theorem stps_zero : ∀ k, stps k 0 = 0
  | 0 => rfl
  | k + 1 => by show stp (stps k 0) = 0; rw [stps_zero k]; rfl
theorem stps_pow (j : Nat) : ∀ k, k ≤ j → stps k (2 ^ j) = 2 ^ (j - k)
  | 0, _ => rfl
  | k + 1, h => by
    show stp (stps k (2 ^ j)) = _
    rw [stps_pow j k (by omega), show j - k = (j - (k + 1)) + 1 by omega, Nat.pow_succ]
    unfold stp
    rw [if_neg (by omega)]
    omega
def b2n (b : Bool) : Nat := if b then 1 else 0
theorem mod_succ (x m : Nat) : x % 2 ^ (m + 1) = x % 2 ^ m ^^^ (b2n (x.testBit m) * 2 ^ m) := by
  apply Nat.eq_of_testBit_eq
  intro i
  rw [Nat.testBit_mod_two_pow, Nat.testBit_xor, Nat.testBit_mod_two_pow]
  unfold b2n
  cases hb : x.testBit m
  · simp
    rcases Nat.lt_or_ge i m with h | h
    · simp [h, show i < m + 1 by omega]
    · rcases Nat.eq_or_lt_of_le h with h2 | h2
      · subst h2; simp [hb]
      · simp [show ¬ i < m by omega, show ¬ i < m + 1 by omega]
  · simp [Nat.testBit_two_pow]
    rcases Nat.lt_or_ge i m with h | h
    · simp [h, show i < m + 1 by omega, show ¬ m = i by omega]
    · rcases Nat.eq_or_lt_of_le h with h2 | h2
      · subst h2; simp [hb]
      · simp [show ¬ i < m by omega, show ¬ i < m + 1 by omega, show ¬ m = i by omega]
/-- the bit n of a string, and the register behind n bits -/
def bitAt (s : ByteArray) (n : Nat) : Bool := (byteAt s (n / 8)).testBit (n % 8)
def regAt (s : ByteArray) : Nat → Nat
  | 0 => 4294967295
  | n + 1 => stp (regAt s n ^^^ b2n (bitAt s n))
theorem feed (c b : Nat) (s : ByteArray) (n : Nat) (hb : ∀ j, j < 8 → bitAt s (n + j) = b.testBit j) (hc : regAt s n = c) : ∀ k, k ≤ 8 → regAt s (n + k) = stps k (c ^^^ b % 2 ^ k)
  | 0, _ => by
    show regAt s n = c ^^^ b % 2 ^ 0
    rw [hc, Nat.pow_zero, Nat.mod_one, Nat.xor_zero]
  | k + 1, h => by
    show stp (regAt s (n + k) ^^^ b2n (bitAt s (n + k))) = stp (stps k (c ^^^ b % 2 ^ (k + 1)))
    rw [feed c b s n hb hc k (by omega), hb k (by omega), mod_succ, ← Nat.xor_assoc, stps_xor (c ^^^ b % 2 ^ k)]
    congr 2
    unfold b2n
    cases b.testBit k
    · simp [stps_zero]
    · simp [stps_pow k k (Nat.le_refl _)]
theorem crc_reg (s : ByteArray) : ∀ k, crcAt s k = regAt s (8 * k)
  | 0 => rfl
  | k + 1 => by
    have h := feed (regAt s (8 * k)) (byteAt s k) s (8 * k) (fun j hj => by
      unfold bitAt
      rw [show (8 * k + j) / 8 = k by omega, show (8 * k + j) % 8 = j by omega]) rfl 8 (Nat.le_refl _)
    show stps 8 (crcAt s k ^^^ byteAt s k) = regAt s (8 * k + 8)
    rw [h, crc_reg s k, Nat.mod_eq_of_lt (byteAt_lt s k)]
theorem regAt_lt (s : ByteArray) : ∀ n, regAt s n < 4294967296
  | 0 => by show 4294967295 < _; omega
  | n + 1 => stp_lt (xor_lt32 (regAt_lt s n) (by unfold b2n; split <;> omega))
theorem b2n_xor (a b : Bool) : b2n a ^^^ b2n b = b2n (a ^^ b) := by cases a <;> cases b <;> rfl
/-- two strings alike but for a burst x at p -/
theorem diff_before {s t : ByteArray} {p : Nat} (h : ∀ n, n < p → bitAt s n = bitAt t n) : ∀ n, n ≤ p → regAt s n = regAt t n
  | 0, _ => rfl
  | n + 1, hn => by
    show stp (regAt s n ^^^ b2n (bitAt s n)) = stp (regAt t n ^^^ b2n (bitAt t n))
    rw [diff_before h n (by omega), h n (by omega)]
theorem xor_mid (a b c d : Nat) : (a ^^^ b) ^^^ (c ^^^ d) = (a ^^^ c) ^^^ (b ^^^ d) := by
  rw [Nat.xor_assoc, Nat.xor_assoc, ← Nat.xor_assoc b, Nat.xor_comm b c, Nat.xor_assoc c]
theorem diff_in {s t : ByteArray} {p x m : Nat} (h : ∀ n, n < p → bitAt s n = bitAt t n) (hx : ∀ j, j < m → (bitAt s (p + j) ^^ bitAt t (p + j)) = x.testBit j) :
    ∀ k, k ≤ m → regAt s (p + k) ^^^ regAt t (p + k) = stps k (x % 2 ^ k)
  | 0, _ => by
    show regAt s p ^^^ regAt t p = x % 2 ^ 0
    rw [diff_before h p (Nat.le_refl _), Nat.xor_self, Nat.pow_zero, Nat.mod_one]
  | k + 1, hk => by
    show stp (regAt s (p + k) ^^^ b2n (bitAt s (p + k))) ^^^ stp (regAt t (p + k) ^^^ b2n (bitAt t (p + k))) = stp (stps k (x % 2 ^ (k + 1)))
    rw [← stp_xor, xor_mid, diff_in h hx k (by omega), b2n_xor, hx k (by omega), mod_succ, stps_xor]
    congr 2
    unfold b2n
    cases x.testBit k
    · simp [stps_zero]
    · simp [stps_pow k k (Nat.le_refl _)]
theorem diff_behind {s t : ByteArray} {q : Nat} (h : ∀ n, q ≤ n → bitAt s n = bitAt t n) (hne : regAt s q ≠ regAt t q) : ∀ k, regAt s (q + k) ≠ regAt t (q + k)
  | 0 => hne
  | k + 1 => fun he => by
    have he : stp (regAt s (q + k) ^^^ b2n (bitAt s (q + k))) = stp (regAt t (q + k) ^^^ b2n (bitAt t (q + k))) := he
    rw [h (q + k) (by omega)] at he
    have hb : b2n (bitAt t (q + k)) < 4294967296 := by unfold b2n; split <;> omega
    have := stp_inj (xor_lt32 (regAt_lt s _) hb) (xor_lt32 (regAt_lt t _) hb) he
    exact diff_behind h hne k (xor_cancel_right this)
theorem burst_ne {s t : ByteArray} {p x m : Nat} (hsz : s.size = t.size) (hm : m ≤ 32) (hp : p + m ≤ 8 * s.size) (h : ∀ n, n < p → bitAt s n = bitAt t n) (hx : ∀ j, j < m → (bitAt s (p + j) ^^ bitAt t (p + j)) = x.testBit j)
    (hb : ∀ n, p + m ≤ n → bitAt s n = bitAt t n) (hne : x % 2 ^ m ≠ 0) : crcOf s ≠ crcOf t := by
  intro he
  unfold crcOf at he
  rw [← hsz] at he
  have he := xor_cancel_right he
  rw [crc_reg, crc_reg] at he
  have hd := diff_in h hx m (Nat.le_refl _)
  have hq : regAt s (p + m) ≠ regAt t (p + m) := by
    intro h2
    rw [h2, Nat.xor_self] at hd
    have hl : x % 2 ^ m < 4294967296 := Nat.lt_of_lt_of_le (Nat.mod_lt _ (Nat.two_pow_pos m)) (Nat.pow_le_pow_right (n := 2) (by omega) hm)
    exact hne (stps_inj hl (by omega) m (hd.symm.trans (stps_zero m).symm))
  have := diff_behind hb hq (8 * s.size - (p + m))
  rw [show p + m + (8 * s.size - (p + m)) = 8 * s.size by omega] at this
  exact this he
end Go.Proofs.Ytdciiegdgpepbaa
