/- plain.IsDigit, checksum.value, and the number that value returns. -/
import Derived.Test.YtdciiegdgpepbaaA
import Derived.OpenShut
import Derived.Below
set_option linter.unusedVariables false
set_option linter.unusedSimpArgs false
namespace Go.Proofs.Ytdciiegdgpepbaa
open Go.ChangeShapes Go.WideShapes Go.ChangeAt Go.RowKit
def digV (b : Nat) : Nat := if 48 ≤ b ∧ b ≤ 57 then b - 48 else 0
/-- the number of the j bytes behind k -/
def valAt (s : ByteArray) (k : Nat) : Nat → Nat
  | 0 => 0
  | j + 1 => 10 * valAt s k j + digV (byteAt s (k + j))
def valOf (s : ByteArray) : Nat := valAt s (s.size - 8) (s.size - (s.size - 8))
theorem digV_lt (b : Nat) : digV b ≤ 9 := by unfold digV; split <;> omega
theorem valAt_lt (s : ByteArray) (k : Nat) : ∀ j, valAt s k j < 10 ^ j
  | 0 => by show 0 < 1; omega
  | j + 1 => by
    have h := valAt_lt s k j
    have hd := digV_lt (byteAt s (k + j))
    show 10 * valAt s k j + digV _ < 10 ^ (j + 1)
    rw [Nat.pow_succ]; omega
theorem valAt_lt8 (s : ByteArray) (k : Nat) {j : Nat} (hj : j ≤ 8) : valAt s k j < 100000000 :=
  Nat.lt_of_lt_of_le (valAt_lt s k j) (Nat.pow_le_pow_right (by omega) hj)
theorem valOf_lt (s : ByteArray) : valOf s < 100000000 := valAt_lt8 s _ (by omega)
theorem digit_any (b : Int) (w : World) (h0 : 0 ≤ b) (h1 : b ≤ 255) :
    Calls Try.prog 26 #[.int .u8 b] w fun e w' => e = .returned (.bool (decide (48 ≤ b ∧ b ≤ 57))) ∧ w = w' := by
  go_enter Try.func26, Try.ntmps26
  by_cases h2 : 48 ≤ b
  · by_cases h3 : b ≤ 57
    · go_wp2_with fail
      go_ret
      refine ⟨?_, rfl⟩
      rw [decide_eq_true ⟨h2, h3⟩]; rfl
    · go_wp2_with fail
      go_ret
      refine ⟨?_, rfl⟩
      rw [decide_eq_false (by omega)]; rfl
  · go_wp2_with fail
    go_ret
    refine ⟨?_, rfl⟩
    rw [decide_eq_false (by omega)]; rfl
theorem value_any (s : ByteArray) (w : World) (hs : s.size ≤ 1000000) :
    Calls Try.prog 23 #[.string s] w fun e w' => e = .returned (.int .i64 (valOf s)) ∧ w = w' := by
  obtain ⟨k, hk⟩ : ∃ k, s.size - 8 = k := ⟨_, rfl⟩
  have hks : k ≤ s.size ∧ s.size - k ≤ 8 := by omega
  have hval : valOf s = valAt s k (s.size - k) := by unfold valOf; rw [hk]
  rw [hval]
  clear hval
  by_cases h8 : 8 < s.size
  · have h0 : (s.size : Int) - 8 = (k : Int) := by omega
    clear hk
    go_enter Try.func23, Try.ntmps23
    go_wp2_with fail
    go_loop [3, 4] (fun c i => ∃ (j : Nat), j ≤ s.size - k ∧ i = .int .i64 ((k + j : Nat) : Int) ∧ c = .int .i64 (valAt s k j)) (fun _ i => s.size - (intOf i).toNat)
    case atStart =>
      exact ⟨0, Nat.zero_le _, by first | rfl | (rw [Nat.add_zero]), rfl⟩
    case round =>
      obtain ⟨j, hj, rfl, rfl⟩ := hrel
      by_cases hlt : k + j < s.size
      · have hv := valAt_lt8 s k (j := j) (by omega)
        have hv' := valAt_lt8 s k (j := j + 1) (by omega)
        have hb := byteAt_lt s (k + j)
        have hbe := byteAt_eq hlt
        have hnx : valAt s k (j + 1) = 10 * valAt s k j + digV (byteAt s (k + j)) := rfl
        rw [hbe] at hb hnx
        have hnx := Lib.hid hnx
        by_cases hd : 48 ≤ s[k + j].toNat ∧ s[k + j].toNat ≤ 57
        · go_wp2_with (go_at_call 26; refine (digit_any (s[k + j].toNat : Int) _ (by omega) (by omega)).mono ?_; rintro e w1 ⟨rfl, rfl⟩)
          go_ways
          have hnx := hnx.out
          rw [digV, if_pos hd] at hnx
          exact ⟨⟨j + 1, by omega, congrArg (Value.int .i64) (by omega), congrArg (Value.int .i64) (by omega)⟩, by show s.size - ((k : Int) + (j : Int) + 1).toNat < s.size - (((k + j : Nat) : Int)).toNat; omega⟩
        · go_wp2_with (go_at_call 26; refine (digit_any (s[k + j].toNat : Int) _ (by omega) (by omega)).mono ?_; rintro e w1 ⟨rfl, rfl⟩)
          go_ways
          have hnx := hnx.out
          rw [digV, if_neg hd] at hnx
          exact ⟨⟨j + 1, by omega, congrArg (Value.int .i64) (by omega), congrArg (Value.int .i64) (by omega)⟩, by show s.size - ((k : Int) + (j : Int) + 1).toNat < s.size - (((k + j : Nat) : Int)).toNat; omega⟩
      · go_wp2_with fail
        go_ret
        obtain rfl : j = s.size - k := by omega
        exact ⟨rfl, rfl⟩
  · obtain rfl : k = 0 := by omega
    clear hk
    go_enter Try.func23, Try.ntmps23
    go_wp2_with fail
    go_loop [3, 4] (fun c i => ∃ (j : Nat), j ≤ s.size - 0 ∧ i = .int .i64 (j : Int) ∧ c = .int .i64 (valAt s 0 j)) (fun _ i => s.size - (intOf i).toNat)
    case atStart =>
      exact ⟨0, Nat.zero_le _, rfl, rfl⟩
    case round =>
      obtain ⟨j, hj, rfl, rfl⟩ := hrel
      by_cases hlt : j < s.size
      · have hv := valAt_lt8 s 0 (j := j) (by omega)
        have hv' := valAt_lt8 s 0 (j := j + 1) (by omega)
        have hb := byteAt_lt s j
        have hbe := byteAt_eq hlt
        have hnx : valAt s 0 (j + 1) = 10 * valAt s 0 j + digV (byteAt s j) := by show 10 * valAt s 0 j + digV (byteAt s (0 + j)) = _; rw [Nat.zero_add]
        rw [hbe] at hb hnx
        have hnx := Lib.hid hnx
        by_cases hd : 48 ≤ s[j].toNat ∧ s[j].toNat ≤ 57
        · go_wp2_with (go_at_call 26; refine (digit_any (s[j].toNat : Int) _ (by omega) (by omega)).mono ?_; rintro e w1 ⟨rfl, rfl⟩)
          go_ways
          have hnx := hnx.out
          rw [digV, if_pos hd] at hnx
          exact ⟨⟨j + 1, by omega, congrArg (Value.int .i64) (by omega), congrArg (Value.int .i64) (by omega)⟩, by show s.size - ((j : Int) + 1).toNat < s.size - ((j : Int)).toNat; omega⟩
        · go_wp2_with (go_at_call 26; refine (digit_any (s[j].toNat : Int) _ (by omega) (by omega)).mono ?_; rintro e w1 ⟨rfl, rfl⟩)
          go_ways
          have hnx := hnx.out
          rw [digV, if_neg hd] at hnx
          exact ⟨⟨j + 1, by omega, congrArg (Value.int .i64) (by omega), congrArg (Value.int .i64) (by omega)⟩, by show s.size - ((j : Int) + 1).toNat < s.size - ((j : Int)).toNat; omega⟩
      · go_wp2_with fail
        go_ret
        obtain rfl : j = s.size - 0 := by omega
        exact ⟨rfl, rfl⟩
end Go.Proofs.Ytdciiegdgpepbaa
