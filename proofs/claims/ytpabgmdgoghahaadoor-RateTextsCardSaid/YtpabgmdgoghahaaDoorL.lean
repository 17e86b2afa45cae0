/- awake, small. -/
import Derived.Test.YtpabgmdgoghahaaDoorJ
set_option linter.unusedVariables false
set_option linter.unusedSimpArgs false
namespace Go.Proofs.YtpabgmdgoghahaaDoor
open Go.Sort Go.ChangeShapes Go.WideShapes Go.ChangeAt Go.RowKit
set_option maxHeartbeats 1000000 in
theorem awake_any (w : World) : Calls Tryd.prog 10 #[] w fun e w' => e = .returned (.bool true) ∧ Below w.heap.size w w' := by
  have H1 := Lib.hid conv_s
  have H2 := Lib.hid cross_s
  have H3 := Lib.hid format_s
  unfold mo rt at *
  go_enter Tryd.func10, Tryd.ntmps10
  go_wp2_with fail
  refine (H1.out _).mono ?_
  rintro e w1 ⟨rfl, hb⟩
  obtain ⟨d1, o1, rfl⟩ := regrow_of hb
  clear hb
  go_wp2_with fail
  refine (H2.out _).mono ?_
  rintro e w1 ⟨rfl, hb⟩
  obtain ⟨d2, o2, rfl⟩ := regrow_of hb
  clear hb
  go_wp2_with fail
  refine (H3.out _).mono ?_
  rintro e w1 ⟨rfl, hb⟩
  obtain ⟨d3, o3, rfl⟩ := regrow_of hb
  clear hb
  go_wp2_with fail
  go_ret
  exact ⟨rfl, bre (al (bre (al (bre (Below.refl _ _) _ _)) _ _)) _ _⟩
def smallB (f t : ByteArray) : Bool := decide (f.size ≤ 20) && decide (t.size ≤ 20)
theorem small_any (f t : ByteArray) (n d : Int) (w : World) (hf : f.size ≤ maxLen) (ht : t.size ≤ maxLen) :
    Calls Tryd.prog 9 #[rt f t n d] w fun e w' => e = .returned (.bool (smallB f t)) ∧ Below w.heap.size w w' := by
  unfold maxLen at hf ht
  unfold rt smallB
  by_cases h1 : f.size ≤ 20
  · by_cases h2 : t.size ≤ 20
    · rw [decide_eq_true h1, decide_eq_true h2]
      have c1 : decide ((f.size : Int) ≤ 20) = true := decide_eq_true (by omega)
      have c2 : decide ((t.size : Int) ≤ 20) = true := decide_eq_true (by omega)
      clear h1 h2
      go_enter Tryd.func9, Tryd.ntmps9
      go_wp2_with fail
      go_ret
      exact ⟨rfl, al (Below.refl _ _)⟩
    · rw [decide_eq_true h1, decide_eq_false h2]
      have c1 : decide ((f.size : Int) ≤ 20) = true := decide_eq_true (by omega)
      have c2 : decide ((t.size : Int) ≤ 20) = false := decide_eq_false (by omega)
      clear h1 h2
      go_enter Tryd.func9, Tryd.ntmps9
      go_wp2_with fail
      go_ret
      exact ⟨rfl, al (Below.refl _ _)⟩
  · rw [decide_eq_false h1, Bool.false_and]
    have c1 : decide ((f.size : Int) ≤ 20) = false := decide_eq_false (by omega)
    clear h1
    go_enter Tryd.func9, Tryd.ntmps9
    go_wp2_with fail
    go_ret
    exact ⟨rfl, al (Below.refl _ _)⟩
end Go.Proofs.YtpabgmdgoghahaaDoor
