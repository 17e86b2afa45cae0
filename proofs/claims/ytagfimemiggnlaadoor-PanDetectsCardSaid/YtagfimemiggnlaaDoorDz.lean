/- The law PanDetects: all ways of its walk together. -/
import Derived.Test.YtagfimemiggnlaaDoorDu
import Derived.Test.YtagfimemiggnlaaDoorDv
import Derived.Test.YtagfimemiggnlaaDoorDw
import Derived.Test.YtagfimemiggnlaaDoorDx
import Derived.Test.YtagfimemiggnlaaDoorDy
set_option linter.unusedVariables false
set_option linter.unusedSimpArgs false
namespace Go.Proofs.YtagfimemiggnlaaDoor
open Go.Sort Go.ChangeShapes Go.WideShapes Go.ChangeAt Go.RowKit
theorem panDetects.walk (s : ByteArray) (at_ dg : Int) (w : World) (hs : s.size ≤ maxLen) (ha : (Lit.int .u8 at_).wf = true) (hd : (Lit.int .u8 dg).wf = true) (hT : TabP w) :
    Calls Tryd.prog 7 #[.string s, .int .u8 at_, .int .u8 dg] w fun e w' => e = .returned (.bool true) ∧ Below w.heap.size w w' := by
  by_cases h100 : 100 < s.size
  · exact detLong s at_ dg w (decide_eq_true (by omega)) hT
  have c0 : decide ((100 : Int) < (s.size : Int)) = false := decide_eq_false (by omega)
  have hsz : s.size ≤ 100 := by omega
  cases hl : luhB s
  · exact detNot s at_ dg w c0 hsz hl hT
  have hne : s.size ≠ 0 := by
    intro h
    rw [luhB_L] at hl
    exact ((luhL_iff _).1 hl).1 (List.eq_nil_of_length_eq_zero h)
  obtain ⟨a0, a1⟩ := wf_u8d ha
  obtain ⟨g0, g1⟩ := wf_u8d hd
  have hD : 48 ≤ 48 + dg % 10 ∧ 48 + dg % 10 ≤ 57 := by omega
  have hm0 : 0 ≤ at_ % (s.size : Int) := Int.emod_nonneg _ (by omega)
  have hm1 : at_ % (s.size : Int) < s.size := Int.emod_lt_of_pos _ (by omega)
  obtain ⟨i, hi⟩ : ∃ i : Nat, at_ % (s.size : Int) = i := ⟨(at_ % (s.size : Int)).toNat, by omega⟩
  have hil : i < s.size := by omega
  cases i with
  | zero =>
    have eI := Lib.hid (show at_ % (s.size : Int) = 0 from hi)
    by_cases hq : 48 + dg % 10 = (s[0].toNat : Int)
    · exact detze s at_ dg w c0 hsz hl ha hd _ hD (Lib.hid rfl) hil eI hq hT
    · exact detzn s at_ dg w c0 hsz hl ha hd _ hD (Lib.hid rfl) hil eI hq hT
  | succ j =>
    have eI := Lib.hid (show at_ % (s.size : Int) = (j : Int) + 1 by rw [hi]; omega)
    by_cases hx : (s[j].toNat : Int) = (s[j + 1].toNat : Int)
    · by_cases hq : 48 + dg % 10 = (s[j + 1].toNat : Int)
      · exact detse s at_ dg w c0 hsz hl ha hd _ hD (Lib.hid rfl) j hil eI hq hx hT
      · exact detsn s at_ dg w c0 hsz hl ha hd _ hD (Lib.hid rfl) j hil eI hq hx hT
    rcases (by omega : ((s[j].toNat : Int) = 48 ∧ (s[j + 1].toNat : Int) = 57) ∨ ((s[j].toNat : Int) = 48 ∧ (s[j + 1].toNat : Int) ≠ 57) ∨ ((s[j].toNat : Int) = 57 ∧ (s[j + 1].toNat : Int) = 48) ∨ ((s[j].toNat : Int) = 57 ∧ (s[j + 1].toNat : Int) ≠ 48) ∨ ((s[j].toNat : Int) ≠ 48 ∧ (s[j].toNat : Int) ≠ 57)) with hc | hc | hc | hc | hc
    · by_cases hq : 48 + dg % 10 = (s[j + 1].toNat : Int)
      · exact detAe s at_ dg w c0 hsz hl ha hd _ hD (Lib.hid rfl) j hil eI hq hx hc hT
      · exact detAn s at_ dg w c0 hsz hl ha hd _ hD (Lib.hid rfl) j hil eI hq hx hc hT
    · by_cases hq : 48 + dg % 10 = (s[j + 1].toNat : Int)
      · exact detBe s at_ dg w c0 hsz hl ha hd _ hD (Lib.hid rfl) j hil eI hq hx hc hT
      · exact detBn s at_ dg w c0 hsz hl ha hd _ hD (Lib.hid rfl) j hil eI hq hx hc hT
    · by_cases hq : 48 + dg % 10 = (s[j + 1].toNat : Int)
      · exact detCe s at_ dg w c0 hsz hl ha hd _ hD (Lib.hid rfl) j hil eI hq hx hc hT
      · exact detCn s at_ dg w c0 hsz hl ha hd _ hD (Lib.hid rfl) j hil eI hq hx hc hT
    · by_cases hq : 48 + dg % 10 = (s[j + 1].toNat : Int)
      · exact detDe s at_ dg w c0 hsz hl ha hd _ hD (Lib.hid rfl) j hil eI hq hx hc hT
      · exact detDn s at_ dg w c0 hsz hl ha hd _ hD (Lib.hid rfl) j hil eI hq hx hc hT
    · by_cases hq : 48 + dg % 10 = (s[j + 1].toNat : Int)
      · exact detEe s at_ dg w c0 hsz hl ha hd _ hD (Lib.hid rfl) j hil eI hq hx hc hT
      · exact detEn s at_ dg w c0 hsz hl ha hd _ hD (Lib.hid rfl) j hil eI hq hx hc hT
end Go.Proofs.YtagfimemiggnlaaDoor
