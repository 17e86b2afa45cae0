/- What the numbers of layer 7 keep: the CRC's step is one to one, a string with one byte changed has another checksum, the seal's eight digits tell the checksum; what is sealed is opened. -/
import Derived.Test.YtdciiegdgpepbaaE
set_option linter.unusedVariables false
set_option linter.unusedSimpArgs false
namespace Go.Proofs.Ytdciiegdgpepbaa
open Go.ChangeShapes Go.WideShapes Go.ChangeAt Go.RowKit
theorem xor_cancel_right {a b c : Nat} (h : a ^^^ c = b ^^^ c) : a = b := by
  have := congrArg (· ^^^ c) h
  simpa [Nat.xor_assoc, Nat.xor_self] using this
theorem xor_cancel_left {a b c : Nat} (h : c ^^^ a = c ^^^ b) : a = b := by
  rw [Nat.xor_comm c a, Nat.xor_comm c b] at h
  exact xor_cancel_right h
theorem top_of {c : Nat} (h : c < 2147483648) : (c ^^^ 3988292384).testBit 31 = true := by
  rw [Nat.testBit_xor, Nat.testBit_lt_two_pow (show c < 2 ^ 31 by omega)]
  decide
theorem stp_inj {a b : Nat} (ha : a < 4294967296) (hb : b < 4294967296) (h : stp a = stp b) : a = b := by
  unfold stp at h
  split at h <;> split at h
  · have := xor_cancel_right h
    omega
  · exfalso
    have h1 := top_of (c := a / 2) (by omega)
    rw [h, Nat.testBit_lt_two_pow (show b / 2 < 2 ^ 31 by omega)] at h1
    cases h1
  · exfalso
    have h1 := top_of (c := b / 2) (by omega)
    rw [← h, Nat.testBit_lt_two_pow (show a / 2 < 2 ^ 31 by omega)] at h1
    cases h1
  · omega
theorem stps_inj {a b : Nat} (ha : a < 4294967296) (hb : b < 4294967296) : ∀ k, stps k a = stps k b → a = b
  | 0, h => h
  | k + 1, h => stps_inj ha hb k (stp_inj (stps_lt ha k) (stps_lt hb k) h)
theorem byte_lt32 (s : ByteArray) (k : Nat) : byteAt s k < 4294967296 := by have := byteAt_lt s k; omega
/-- two strings alike but for the byte at m -/
theorem crcAt_same {s t : ByteArray} {m : Nat} (h : ∀ k, k < m → byteAt s k = byteAt t k) : ∀ k, k ≤ m → crcAt s k = crcAt t k
  | 0, _ => rfl
  | k + 1, hk => by
    show stps 8 (crcAt s k ^^^ byteAt s k) = stps 8 (crcAt t k ^^^ byteAt t k)
    rw [crcAt_same h k (by omega), h k (by omega)]
theorem crcAt_ne {s t : ByteArray} {m : Nat} (hne : byteAt s m ≠ byteAt t m) (h : ∀ k, k ≠ m → byteAt s k = byteAt t k) : ∀ j, crcAt s (m + 1 + j) ≠ crcAt t (m + 1 + j)
  | 0 => fun he => by
    have h2 := stps_inj (xor_lt32 (crcAt_lt s m) (byte_lt32 s m)) (xor_lt32 (crcAt_lt t m) (byte_lt32 t m)) 8 he
    rw [crcAt_same (fun k hk => h k (by omega)) m (Nat.le_refl _)] at h2
    exact hne (xor_cancel_left h2)
  | j + 1 => fun he => by
    have h2 : crcAt s (m + 1 + j) ^^^ byteAt s (m + 1 + j) = crcAt t (m + 1 + j) ^^^ byteAt t (m + 1 + j) := stps_inj (xor_lt32 (crcAt_lt s _) (byte_lt32 s _)) (xor_lt32 (crcAt_lt t _) (byte_lt32 t _)) 8 he
    rw [h (m + 1 + j) (by omega)] at h2
    exact crcAt_ne hne h j (xor_cancel_right h2)
theorem crcOf_ne {s t : ByteArray} {m : Nat} (hsz : s.size = t.size) (hm : m < s.size) (hne : byteAt s m ≠ byteAt t m) (h : ∀ k, k ≠ m → byteAt s k = byteAt t k) : crcOf s ≠ crcOf t := by
  intro he
  unfold crcOf at he
  rw [← hsz] at he
  have := xor_cancel_right he
  have h2 := crcAt_ne hne h (s.size - (m + 1))
  rw [show m + 1 + (s.size - (m + 1)) = s.size by omega] at h2
  exact h2 this

theorem hexd_inj {a b : Nat} (ha : a < 16) (hb : b < 16) (h : UInt8.ofNat ((hexd a : Nat) : Int).toNat = UInt8.ofNat ((hexd b : Nat) : Int).toNat) : a = b := by
  have h := congrArg UInt8.toNat h
  simp only [Int.toNat_natCast, UInt8.toNat_ofNat'] at h
  unfold hexd at h
  split at h <;> split at h <;> omega
theorem sealB_inj {a b : Nat} (ha : a < 4294967296) (hb : b < 4294967296) (h : sealB a = sealB b) : a = b := by
  have h := congrArg ByteArray.data h
  unfold sealB bs8 at h
  simp only [Array.mk.injEq, List.cons.injEq, and_true] at h
  obtain ⟨h0, h1, h2, h3, h4, h5, h6, h7⟩ := h
  have h0 := hexd_inj (by omega) (by omega) h0
  have h1 := hexd_inj (by omega) (by omega) h1
  have h2 := hexd_inj (by omega) (by omega) h2
  have h3 := hexd_inj (by omega) (by omega) h3
  have h4 := hexd_inj (by omega) (by omega) h4
  have h5 := hexd_inj (by omega) (by omega) h5
  have h6 := hexd_inj (by omega) (by omega) h6
  have h7 := hexd_inj (by omega) (by omega) h7
  omega
theorem sealB_size (c : Nat) : (sealB c).size = 8 := rfl
theorem body_app (s : ByteArray) (c : Nat) : bodyOf (s ++ sealB c) = s := by
  unfold bodyOf
  rw [ByteArray.size_append, sealB_size, Nat.add_sub_cancel]
  exact ByteArray.extract_append_eq_left rfl
theorem tail_app (s : ByteArray) (c : Nat) : tailOf (s ++ sealB c) = sealB c := by
  unfold tailOf
  rw [ByteArray.size_append, sealB_size, Nat.add_sub_cancel]
  exact ByteArray.extract_append_eq_right rfl rfl
theorem open_app (s : ByteArray) (c : Nat) (hc : c < 4294967296) : (openS (s ++ sealB c) = if c = crcOf s then s else ⟨#[]⟩) ∧ openE (s ++ sealB c) = if c = crcOf s then 0 else 9 := by
  have hsz : ¬ (s ++ sealB c).size < 8 := by rw [ByteArray.size_append, sealB_size]; omega
  unfold openS openE
  rw [if_neg hsz, if_neg hsz, body_app, tail_app]
  by_cases h : c = crcOf s
  · subst h
    simp
  · rw [if_neg h, if_neg h]
    have : ¬ ((sealB (crcOf s)).toList == (sealB c).toList) = true := by
      intro h2
      exact h (sealB_inj (crcOf_lt s) hc (toList_inj (by simpa using h2))).symm
    rw [if_neg this, if_neg this]
    exact ⟨rfl, rfl⟩
theorem open_then (s : ByteArray) (h : openE s = 0) : sealOf (openS s) = s := by
  unfold openE at h
  unfold openS
  split at h
  · cases h
  · rename_i h8
    rw [if_neg h8]
    split at h
    · rename_i ht
      rw [if_pos ht]
      have := seals_iff s
      rw [ht] at this
      exact toList_inj (by simpa using this)
    · cases h
theorem open_else (s : ByteArray) (h : openE s ≠ 0) : openS s = ⟨#[]⟩ := by
  unfold openE at h
  unfold openS
  split
  · rfl
  · rename_i h8
    rw [if_neg h8] at h
    split
    · rename_i ht
      rw [if_pos ht] at h
      exact absurd rfl h
    · rfl
theorem openE_cases (s : ByteArray) : openE s = 0 ∨ openE s = 1 ∨ openE s = 9 := by
  unfold openE
  split
  · exact .inr (.inl rfl)
  · split
    · exact .inl rfl
    · exact .inr (.inr rfl)
end Go.Proofs.Ytdciiegdgpepbaa
