/- A string with one byte set; the bytes that a conversion lays. -/
import Derived.Test.YtdciiegdgpepbaaK
set_option linter.unusedVariables false
set_option linter.unusedSimpArgs false
namespace Go.Proofs.Ytdciiegdgpepbaa
open Go.ChangeShapes Go.WideShapes Go.ChangeAt Go.RowKit
def setB (s : ByteArray) (m : Nat) (x : UInt8) : ByteArray := ⟨s.data.setIfInBounds m x⟩
theorem setB_size (s : ByteArray) (m : Nat) (x : UInt8) : (setB s m x).size = s.size := by
  show (s.data.setIfInBounds m x).size = s.data.size
  simp
theorem byteAt_data (s : ByteArray) {k : Nat} (h : k < s.size) : byteAt s k = (s.data[k]'h).toNat := by
  rw [byteAt_eq h]; rfl
theorem byteAt_setB_ne (s : ByteArray) {m k : Nat} (x : UInt8) (hk : k ≠ m) : byteAt (setB s m x) k = byteAt s k := by
  by_cases h : k < s.size
  · rw [byteAt_data s h, byteAt_data (setB s m x) (by rw [setB_size]; exact h)]
    exact congrArg UInt8.toNat (Array.getElem_setIfInBounds_ne h (Ne.symm hk))
  · unfold byteAt
    rw [dif_neg h, dif_neg (by rw [setB_size]; exact h)]
theorem byteAt_setB_eq (s : ByteArray) {m : Nat} (x : UInt8) (h : m < s.size) : byteAt (setB s m x) m = x.toNat := by
  rw [byteAt_data (setB s m x) (by rw [setB_size]; exact h)]
  exact congrArg UInt8.toNat (Array.getElem_setIfInBounds_self (by simpa using h))
theorem setB_append (s z : ByteArray) {m : Nat} (x : UInt8) (h : m < s.size) : setB (s ++ z) m x = setB s m x ++ z := by
  apply ByteArray.ext
  show ((s ++ z).data.setIfInBounds m x) = (setB s m x ++ z).data
  rw [ByteArray.data_append, ByteArray.data_append]
  show _ = s.data.setIfInBounds m x ++ z.data
  rw [Array.setIfInBounds_append_left h]
theorem byteAt_append (s z : ByteArray) {m : Nat} (h : m < s.size) : byteAt (s ++ z) m = byteAt s m := by
  have h2 : m < (s ++ z).size := by rw [ByteArray.size_append]; omega
  rw [byteAt_data (s ++ z) h2, byteAt_data s h]
  have : (s ++ z).data[m]'h2 = s.data[m]'h := by
    simp only [ByteArray.data_append]
    exact Array.getElem_append_left h
  rw [this]
theorem row_at (t : ByteArray) (cap : Nat) {j : Nat} (h : j < t.size) : (bytesRow t cap)[j]? = some (.int .u8 (byteAt t j : Int)) := by
  unfold bytesRow
  rw [Array.getElem?_append_left (by simpa using h), Array.getElem?_map, Array.getElem?_eq_getElem h, byteAt_data t h]
  rfl
theorem row_size (t : ByteArray) (cap : Nat) : t.size ≤ (bytesRow t cap).size := by
  unfold bytesRow
  simp
theorem xor_ne {a b : Nat} (h : b ≠ 0) : a ^^^ b ≠ a := fun he => h (by
  have : a ^^^ b = a ^^^ 0 := by simpa using he
  exact xor_cancel_left this)
/-- the checksum of a string with one byte turned -/
theorem crc_turn (s : ByteArray) {m b : Nat} (hm : m < s.size) (hb : b ≠ 0) (hb2 : b < 256) : crcOf (setB s m (UInt8.ofNat (byteAt s m ^^^ b))) ≠ crcOf s := by
  refine crcOf_ne (m := m) (setB_size _ _ _) (by rw [setB_size]; exact hm) ?_ (fun k hk => byteAt_setB_ne s _ hk)
  rw [byteAt_setB_eq s _ hm, UInt8.toNat_ofNat', Nat.mod_eq_of_lt (Nat.xor_lt_two_pow (n := 8) (byteAt_lt s m) hb2)]
  exact xor_ne hb
theorem open_turn (s : ByteArray) {m b : Nat} (hm : m < s.size) (hb : b ≠ 0) (hb2 : b < 256) : openE (setB (sealOf s) m (UInt8.ofNat (byteAt s m ^^^ b))) = 9 := by
  unfold sealOf
  rw [setB_append s _ _ hm, (open_app _ _ (crcOf_lt s)).2, if_neg (crc_turn s hm hb hb2).symm]
end Go.Proofs.Ytdciiegdgpepbaa
