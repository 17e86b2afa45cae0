/- isWhole of the program. -/
import Derived.Test.YtompeealmgdfhaaDoorW
set_option linter.unusedVariables false
set_option linter.unusedSimpArgs false
namespace Go.Proofs.YtompeealmgdfhaaDoor
open Go.Sort Go.ChangeShapes Go.WideShapes Go.ChangeAt Go.RowKit
open div
def isW (s : ByteArray) : Bool := isD s && ((s.toList == [48]) || !(s.data.toList.head? == some 48))
theorem isD_size {s : ByteArray} (h : isD s = true) : 0 < s.size := by
  rcases Nat.eq_zero_or_pos s.size with h0 | h0
  · unfold isD at h; rw [size_zero_list h0] at h; simp at h
  · exact h0
theorem head_is (s : ByteArray) (h : 0 < s.size) : (s.data.toList.head? == some 48) = (((s[0]'h).toNat : Int) == 48) := by
  have e : s.data.toList.head? = some (s[0]'h) := by
    rw [List.head?_eq_getElem?]
    simp [ByteArray.getElem_eq_getElem_data]
  rw [e, Bool.eq_iff_iff]
  simp only [beq_iff_eq, Option.some.injEq]
  constructor
  · intro h; rw [h]; rfl
  · intro h; exact UInt8.toNat_inj.1 (by have h48 : (48 : UInt8).toNat = 48 := rfl; omega)
theorem whole_any (s : ByteArray) (hs : s.size ≤ maxLen) (w : World) : Calls Tryd.prog 52 #[.string s] w fun e w' => e = .returned (.bool (isW s)) ∧ w' = w := by
  have HD := Lib.hid (fun w => isdigits_any s w hs)
  cases hd : isD s
  · have e : isW s = false := by unfold isW; rw [hd]; rfl
    rw [e]
    rw [hd] at HD
    clear hs hd e
    go_enter Tryd.func52, Tryd.ntmps52
    go_wp2_with (go_at_call 51; refine (HD.out _).mono ?_; rintro e w' ⟨rfl, rfl⟩)
    go_ret
    exact ⟨rfl, rfl⟩
  · have hp := isD_size hd
    have e : isW s = ((s.toList == [48]) || !(((s[0]'hp).toNat : Int) == 48)) := by unfold isW; rw [hd, head_is s hp]; rfl
    rw [e]
    rw [hd] at HD
    have hpi : (0 : Int) < (s.size : Int) := by omega
    obtain ⟨B, hB⟩ : ∃ B, (s.toList == [48]) = B := ⟨_, rfl⟩
    rw [hB]
    clear hs hd e
    cases B
    · obtain ⟨D, hD⟩ : ∃ D, (((s[0]'hp).toNat : Int) == 48) = D := ⟨_, rfl⟩
      have hD2 : (((s[0]'hp).toNat : Int) != 48) = !D := by rw [bne, hD]
      rw [hD]
      go_enter Tryd.func52, Tryd.ntmps52
      go_wp2_with (go_at_call 51; refine (HD.out _).mono ?_; rintro e w' ⟨rfl, rfl⟩)
      go_ret
      exact ⟨by simp_all, rfl⟩
    · go_enter Tryd.func52, Tryd.ntmps52
      go_wp2_with (go_at_call 51; refine (HD.out _).mono ?_; rintro e w' ⟨rfl, rfl⟩)
      go_ret
      exact ⟨rfl, rfl⟩
end Go.Proofs.YtompeealmgdfhaaDoor
