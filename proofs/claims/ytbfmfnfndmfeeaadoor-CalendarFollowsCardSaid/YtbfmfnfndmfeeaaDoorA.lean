/- The small functions of the calendar. -/
import Derived.Test.YtbfmfnfndmfeeaaDoorK
import Derived.Test.YtbfmfnfndmfeeaaDoorCalM
import Derived.Test.YtbfmfnfndmfeeaaDoorRows
import Derived.WalkKit
import Derived.ProofKit
import Derived.LaidMore
import Derived.OpenShut
import Derived.Stop.Joined
set_option linter.unusedVariables false
set_option linter.unusedSimpArgs false
namespace Go.Proofs.YtbfmfnfndmfeeaaDoor
open Go.Sort Go.ChangeShapes Go.WideShapes Go.ChangeAt Go.RowKit
open cal
theorem al {w W : World} {o : Obj} (h : Below w.heap.size w W) : Below w.heap.size w (W.alloc o) := h.alloc h.size o
def bD (d : Int) : Bool := decide (0 ≤ d) && decide (d ≤ 99999)
theorem isDate_any (d : Int) (w : World) : Calls Tryd.prog 33 #[.int .i64 d] w fun e w' => e = .returned (.bool (bD d)) ∧ Below w.heap.size w w' := by
  unfold bD
  go_enter Tryd.func33, Tryd.ntmps33
  go_wp2_with fail
  all_goals go_ret
  all_goals exact ⟨by simp_all <;> omega, Below.refl _ _⟩
theorem rIsDate_any (d : Int) (w : World) : Calls Tryd.prog 36 #[.int .i64 d] w fun e w' => e = .returned (.bool (bD d)) ∧ Below w.heap.size w w' := by
  unfold bD
  go_enter Tryd.func36, Tryd.ntmps36
  go_wp2_with fail
  all_goals go_ret
  all_goals exact ⟨by simp_all <;> omega, Below.refl _ _⟩
theorem leap_any (y : Int) (h : 0 ≤ y) (w : World) : Calls Tryd.prog 42 #[.int .i64 y] w fun e w' => e = .returned (.bool (lp y)) ∧ Below w.heap.size w w' := by
  have e1 := Int.tmod_eq_emod_of_nonneg (b := 4) h
  have e2 := Int.tmod_eq_emod_of_nonneg (b := 100) h
  have e3 := Int.tmod_eq_emod_of_nonneg (b := 400) h
  unfold lp
  by_cases h1 : y % 4 = 0 <;> by_cases h2 : y % 100 = 0 <;> by_cases h3 : y % 400 = 0
  all_goals first | omega | skip
  all_goals go_enter Tryd.func42, Tryd.ntmps42
  all_goals go_wp2_with fail
  all_goals go_ret
  all_goals exact ⟨by simp [h1, h2, h3], Below.refl _ _⟩
theorem rleap_any (y : Int) (h : 0 ≤ y) (w : World) : Calls Tryd.prog 43 #[.int .i64 y] w fun e w' => e = .returned (.bool (lp y)) ∧ Below w.heap.size w w' := by
  have e1 := Int.tmod_eq_emod_of_nonneg (b := 4) h
  have e2 := Int.tmod_eq_emod_of_nonneg (b := 100) h
  have e3 := Int.tmod_eq_emod_of_nonneg (b := 400) h
  unfold lp
  by_cases h1 : y % 4 = 0 <;> by_cases h2 : y % 100 = 0 <;> by_cases h3 : y % 400 = 0
  all_goals first | omega | skip
  all_goals go_enter Tryd.func43, Tryd.ntmps43
  all_goals go_wp2_with fail
  all_goals go_ret
  all_goals exact ⟨by simp [h1, h2, h3], Below.refl _ _⟩
theorem yearStart_any (y : Int) (h : 1 ≤ y) (h2 : y ≤ 1000000) (w : World) : Calls Tryd.prog 32 #[.int .i64 y] w fun e w' => e = .returned (.int .i64 (ys y)) ∧ Below w.heap.size w w' := by
  have e1 := Int.tdiv_eq_ediv_of_nonneg (b := 4) (show 0 ≤ y - 1 by omega)
  have e2 := Int.tdiv_eq_ediv_of_nonneg (b := 100) (show 0 ≤ y - 1 by omega)
  have e3 := Int.tdiv_eq_ediv_of_nonneg (b := 400) (show 0 ≤ y - 1 by omega)
  unfold ys
  go_enter Tryd.func32, Tryd.ntmps32
  go_wp2_with fail
  all_goals go_ret
  all_goals exact ⟨by simp [e1, e2, e3], Below.refl _ _⟩
end Go.Proofs.YtbfmfnfndmfeeaaDoor
