/- The numbers of layer 7 over the natural numbers: the CRC's step, the CRC and the hash of a string up to a byte; their ranges. Contracts of both Crc and both Hash. -/
import Derived.Test.YtdciiegdgpepbaaRows
import Derived.WalkKit
import Derived.ProofKit
import Derived.WalkSpells
import Derived.WalkLawsBesides
import Derived.Laws.BitsAllLaws
import Derived.Lib.Hide
set_option linter.unusedVariables false
set_option linter.unusedSimpArgs false
namespace Go.Proofs.Ytdciiegdgpepbaa
open Go.ChangeShapes Go.WideShapes Go.ChangeAt Go.RowKit


def byteAt (s : ByteArray) (k : Nat) : Nat := if h : k < s.size then s[k].toNat else 0
theorem byteAt_eq {s : ByteArray} {k : Nat} (h : k < s.size) : byteAt s k = s[k].toNat := by simp [byteAt, h]
theorem byteAt_lt (s : ByteArray) (k : Nat) : byteAt s k < 256 := by
  unfold byteAt; split
  · exact UInt8.toNat_lt _
  · omega

def stp (c : Nat) : Nat := if c % 2 = 1 then (c / 2) ^^^ 3988292384 else c / 2
def stps : Nat → Nat → Nat
  | 0, c => c
  | k + 1, c => stp (stps k c)
def crcAt (s : ByteArray) : Nat → Nat
  | 0 => 4294967295
  | k + 1 => stps 8 (crcAt s k ^^^ byteAt s k)
def crcOf (s : ByteArray) : Nat := crcAt s s.size ^^^ 4294967295
def hashAt (s : ByteArray) : Nat → Nat
  | 0 => 14695981039346656037
  | k + 1 => ((hashAt s k ^^^ byteAt s k) * 1099511628211) % 18446744073709551616
def hashOf (s : ByteArray) : Nat := hashAt s s.size

theorem xor_lt32 {a b : Nat} (ha : a < 4294967296) (hb : b < 4294967296) : a ^^^ b < 4294967296 := Nat.xor_lt_two_pow (n := 32) (by omega) (by omega)
theorem xor_lt64 {a b : Nat} (ha : a < 18446744073709551616) (hb : b < 18446744073709551616) : a ^^^ b < 18446744073709551616 := Nat.xor_lt_two_pow (n := 64) (by omega) (by omega)
theorem stp_lt {c : Nat} (h : c < 4294967296) : stp c < 4294967296 := by
  unfold stp; split
  · exact xor_lt32 (by omega) (by omega)
  · omega
theorem stps_lt {c : Nat} (h : c < 4294967296) : ∀ k, stps k c < 4294967296
  | 0 => h
  | k + 1 => stp_lt (stps_lt h k)
theorem crcAt_lt (s : ByteArray) : ∀ k, crcAt s k < 4294967296
  | 0 => by show 4294967295 < _; omega
  | k + 1 => stps_lt (xor_lt32 (crcAt_lt s k) (by have := byteAt_lt s k; omega)) 8
theorem crcOf_lt (s : ByteArray) : crcOf s < 4294967296 := xor_lt32 (crcAt_lt s _) (by omega)
theorem hashAt_lt (s : ByteArray) : ∀ k, hashAt s k < 18446744073709551616
  | 0 => by show 14695981039346656037 < _; omega
  | k + 1 => Nat.mod_lt _ (by omega)
theorem hashOf_lt (s : ByteArray) : hashOf s < 18446744073709551616 := hashAt_lt s _

theorem and1 {x : Nat} (h : x < 4294967296) : bits .and .u32 (x : Int) 1 = ((x % 2 : Nat) : Int) := by
  have := u32_and_nat x 1 h (by omega)
  rw [Nat.and_one_is_mod] at this
  exact this

theorem crc_try (s : ByteArray) (w : World) (hs : s.size ≤ maxLen) :
    Calls Try.prog 10 #[.string s] w fun e w' => e = .returned (.int .u32 (crcOf s)) ∧ w = w' := by
  unfold maxLen at hs
  go_enter Try.func10, Try.ntmps10
  go_wp2_with fail
  go_loop [3, 8] (fun c i => ∃ (k : Nat), k ≤ s.size ∧ i = .int .i64 k ∧ c = .int .u32 (crcAt s k)) (fun _ i => s.size - (intOf i).toNat)
  case atStart => exact ⟨0, Nat.zero_le _, rfl, rfl⟩
  case round =>
    obtain ⟨k, hk, rfl, rfl⟩ := hrel
    by_cases hlt : k < s.size
    · have hv := crcAt_lt s k
      have hb := byteAt_lt s k
      have hbe := byteAt_eq hlt
      have hx := u32_xor_nat (crcAt s k) (byteAt s k) hv (by omega)
      rw [hbe] at hx hb
      have hxl := xor_lt32 hv (show s[k].toNat < 4294967296 by omega)
      go_wp2_with fail
      go_loop [3, 17] (fun c i => ∃ (j : Nat), j ≤ 8 ∧ i = .int .i64 j ∧ c = .int .u32 (stps j (crcAt s k ^^^ s[k].toNat))) (fun _ i => 8 - (intOf i).toNat)
      case atStart => exact ⟨0, Nat.zero_le _, rfl, rfl⟩
      case round =>
        obtain ⟨j, hj, rfl, rfl⟩ := hrel
        have hy := stps_lt hxl j
        have hnx : stps (j + 1) (crcAt s k ^^^ s[k].toNat) = stp (stps j (crcAt s k ^^^ s[k].toNat)) := rfl
        have hend : stps 8 (crcAt s k ^^^ s[k].toNat) = crcAt s (k + 1) := by show _ = stps 8 (crcAt s k ^^^ byteAt s k); rw [hbe]
        generalize hye : stps j (crcAt s k ^^^ s[k].toNat) = y at hy hnx
        by_cases hlt2 : j < 8
        · have h1 := and1 hy
          have h2 : bits .xor .u32 ((y : Int) / 2) 3988292384 = ((y / 2 ^^^ 3988292384 : Nat) : Int) := u32_xor_nat (y / 2) 3988292384 (by omega) (by omega)
          have hnx' := hnx
          clear hnx hye
          unfold stp at hnx'
          by_cases hodd : y % 2 = 1
          · have hb2 : ((y : Int) % 2 == 1) = true := by simp; omega
            rw [if_pos hodd, ← Int.ofNat_inj] at hnx'
            rw [← hnx'] at h2
            clear hnx'
            go_wp2_with fail
            go_ways
            exact ⟨⟨j + 1, by omega, rfl, rfl⟩, by show 8 - ((j : Int) + 1).toNat < 8 - (j : Int).toNat; omega⟩
          · have hb2 : ((y : Int) % 2 == 1) = false := by simp; omega
            rw [if_neg hodd] at hnx'
            go_wp2_with fail
            go_ways
            exact ⟨⟨j + 1, by omega, rfl, by rw [hnx']; rfl⟩, by show 8 - ((j : Int) + 1).toNat < 8 - (j : Int).toNat; omega⟩
        · obtain rfl : j = 8 := by omega
          rw [hend] at hye
          clear hend hnx
          go_wp2_with fail
          go_ways
          exact ⟨⟨k + 1, by omega, rfl, by rw [hye]⟩, by show s.size - ((k : Int) + 1).toNat < s.size - (k : Int).toNat; omega⟩
    · go_wp2_with fail
      go_ret
      obtain rfl : k = s.size := by omega
      refine ⟨?_, rfl⟩
      have hz := u32_xor_nat (crcAt s s.size) 4294967295 (crcAt_lt s _) (by omega)
      show Ending.returned (Value.int .u32 (bits BinOp.xor .u32 (↑(crcAt s s.size)) 4294967295)) = _
      exact congrArg (fun x => Ending.returned (Value.int .u32 x)) hz
theorem refcrc_try (s : ByteArray) (w : World) (hs : s.size ≤ maxLen) :
    Calls Try.prog 11 #[.string s] w fun e w' => e = .returned (.int .u32 (crcOf s)) ∧ w = w' := by
  unfold maxLen at hs
  go_enter Try.func11, Try.ntmps11
  go_wp2_with fail
  go_loop [3, 4] (fun c i => ∃ (k : Nat), k ≤ s.size ∧ i = .int .i64 k ∧ c = .int .u32 (crcAt s k)) (fun _ i => s.size - (intOf i).toNat)
  case atStart => exact ⟨0, Nat.zero_le _, rfl, rfl⟩
  case round =>
    obtain ⟨k, hk, rfl, rfl⟩ := hrel
    by_cases hlt : k < s.size
    · have hv := crcAt_lt s k
      have hb := byteAt_lt s k
      have hbe := byteAt_eq hlt
      have hx := u32_xor_nat (crcAt s k) (byteAt s k) hv (by omega)
      rw [hbe] at hx hb
      have hxl := xor_lt32 hv (show s[k].toNat < 4294967296 by omega)
      go_wp2_with fail
      go_loop [3, 5] (fun c i => ∃ (j : Nat), j ≤ 8 ∧ i = .int .i64 j ∧ c = .int .u32 (stps j (crcAt s k ^^^ s[k].toNat))) (fun _ i => 8 - (intOf i).toNat)
      case atStart => exact ⟨0, Nat.zero_le _, rfl, rfl⟩
      case round =>
        obtain ⟨j, hj, rfl, rfl⟩ := hrel
        have hy := stps_lt hxl j
        have hnx : stps (j + 1) (crcAt s k ^^^ s[k].toNat) = stp (stps j (crcAt s k ^^^ s[k].toNat)) := rfl
        have hend : stps 8 (crcAt s k ^^^ s[k].toNat) = crcAt s (k + 1) := by show _ = stps 8 (crcAt s k ^^^ byteAt s k); rw [hbe]
        generalize hye : stps j (crcAt s k ^^^ s[k].toNat) = y at hy hnx
        by_cases hlt2 : j < 8
        · have h1 := and1 hy
          have h2 : bits .xor .u32 ((y : Int) / 2) 3988292384 = ((y / 2 ^^^ 3988292384 : Nat) : Int) := u32_xor_nat (y / 2) 3988292384 (by omega) (by omega)
          have hnx' := hnx
          clear hnx hye
          unfold stp at hnx'
          by_cases hodd : y % 2 = 1
          · have hb2 : ((y : Int) % 2 == 1) = true := by simp; omega
            rw [if_pos hodd, ← Int.ofNat_inj] at hnx'
            rw [← hnx'] at h2
            clear hnx'
            go_wp2_with fail
            go_ways
            exact ⟨⟨j + 1, by omega, rfl, rfl⟩, by show 8 - ((j : Int) + 1).toNat < 8 - (j : Int).toNat; omega⟩
          · have hb2 : ((y : Int) % 2 == 1) = false := by simp; omega
            rw [if_neg hodd] at hnx'
            go_wp2_with fail
            go_ways
            exact ⟨⟨j + 1, by omega, rfl, by rw [hnx']; rfl⟩, by show 8 - ((j : Int) + 1).toNat < 8 - (j : Int).toNat; omega⟩
        · obtain rfl : j = 8 := by omega
          rw [hend] at hye
          clear hend hnx
          go_wp2_with fail
          go_ways
          exact ⟨⟨k + 1, by omega, rfl, by rw [hye]⟩, by show s.size - ((k : Int) + 1).toNat < s.size - (k : Int).toNat; omega⟩
    · go_wp2_with fail
      go_ret
      obtain rfl : k = s.size := by omega
      refine ⟨?_, rfl⟩
      have hz := u32_xor_nat (crcAt s s.size) 4294967295 (crcAt_lt s _) (by omega)
      show Ending.returned (Value.int .u32 (bits BinOp.xor .u32 (↑(crcAt s s.size)) 4294967295)) = _
      exact congrArg (fun x => Ending.returned (Value.int .u32 x)) hz
theorem hash_try (s : ByteArray) (w : World) (hs : s.size ≤ maxLen) :
    Calls Try.prog 12 #[.string s] w fun e w' => e = .returned (.int .u64 (hashOf s)) ∧ w = w' := by
  unfold maxLen at hs
  go_enter Try.func12, Try.ntmps12
  go_wp2_with fail
  go_loop [3, 7] (fun c i => ∃ (k : Nat), k ≤ s.size ∧ i = .int .i64 k ∧ c = .int .u64 (hashAt s k)) (fun _ i => s.size - (intOf i).toNat)
  case atStart => exact ⟨0, Nat.zero_le _, rfl, rfl⟩
  case round =>
    obtain ⟨k, hk, rfl, rfl⟩ := hrel
    by_cases hlt : k < s.size
    · have hv := hashAt_lt s k
      have hb := byteAt_lt s k
      have hbe := byteAt_eq hlt
      have hx := u64_xor_nat (hashAt s k) (byteAt s k) hv (by omega)
      have hnx : hashAt s (k + 1) = ((hashAt s k ^^^ byteAt s k) * 1099511628211) % 18446744073709551616 := rfl
      have hxl := xor_lt64 hv (show byteAt s k < 18446744073709551616 by omega)
      rw [hbe] at hx hb hnx hxl
      generalize hashAt s k ^^^ s[k].toNat = y at hx hnx hxl
      go_wp2_with fail
      go_ways
      refine ⟨⟨k + 1, by omega, rfl, ?_⟩, by show s.size - ((k : Int) + 1).toNat < s.size - (k : Int).toNat; omega⟩
      rw [hnx]
      rfl
    · go_wp2_with fail
      go_ret
      obtain rfl : k = s.size := by omega
      exact ⟨rfl, rfl⟩
theorem refhash_try (s : ByteArray) (w : World) (hs : s.size ≤ maxLen) :
    Calls Try.prog 13 #[.string s] w fun e w' => e = .returned (.int .u64 (hashOf s)) ∧ w = w' := by
  unfold maxLen at hs
  go_enter Try.func13, Try.ntmps13
  go_wp2_with fail
  go_loop [3, 4] (fun c i => ∃ (k : Nat), k ≤ s.size ∧ i = .int .i64 k ∧ c = .int .u64 (hashAt s k)) (fun _ i => s.size - (intOf i).toNat)
  case atStart => exact ⟨0, Nat.zero_le _, rfl, rfl⟩
  case round =>
    obtain ⟨k, hk, rfl, rfl⟩ := hrel
    by_cases hlt : k < s.size
    · have hv := hashAt_lt s k
      have hb := byteAt_lt s k
      have hbe := byteAt_eq hlt
      have hx := u64_xor_nat (hashAt s k) (byteAt s k) hv (by omega)
      have hnx : hashAt s (k + 1) = ((hashAt s k ^^^ byteAt s k) * 1099511628211) % 18446744073709551616 := rfl
      have hxl := xor_lt64 hv (show byteAt s k < 18446744073709551616 by omega)
      rw [hbe] at hx hb hnx hxl
      generalize hashAt s k ^^^ s[k].toNat = y at hx hnx hxl
      go_wp2_with fail
      go_ways
      refine ⟨⟨k + 1, by omega, rfl, ?_⟩, by show s.size - ((k : Int) + 1).toNat < s.size - (k : Int).toNat; omega⟩
      rw [hnx]
      rfl
    · go_wp2_with fail
      go_ret
      obtain rfl : k = s.size := by omega
      exact ⟨rfl, rfl⟩
end Go.Proofs.Ytdciiegdgpepbaa
