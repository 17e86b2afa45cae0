/- CardLimits: the walk, whole. -/
import Derived.Test.YtnnbkllcldgolaaW
set_option linter.unusedVariables false
set_option linter.unusedSimpArgs false
namespace Go.Proofs.Ytnnbkllcldgolaa.cardLimits
open Go.ChangeShapes Go.WideShapes Go.ChangeAt Go.RowKit
open cardUndone
theorem walk (lim cn : Int) (A : Option Addr) (len cap : Nat) (w : World) (w0 : (Lit.int .u8 lim).wf = true) (w1 : (Lit.int .u8 cn).wf = true) (hr : IsRecs35 w A len cap) :
    Calls Try.prog 5 #[.int .u8 lim, .int .u8 cn, .slice A len cap] w fun e w' => e = .returned (.bool true) ∧ Below w.heap.size w w' := by
  obtain ⟨hlc, hm, hz⟩ := recs_at hr
  obtain ⟨hl0, hl1⟩ := wf_u8 w0
  obtain ⟨hn0, hn1⟩ := wf_u8 w1
  by_cases hl : len ≤ 60
  · exact loop lim cn A len cap w hl0 (by omega) hn0 (by omega) hl hlc hm hz
  · have hl' : 60 < (len : Int) := by omega
    clear hz hr w0 w1
    unfold maxLen at hm
    obtain ⟨C, hC⟩ : ∃ C, cn % 16 = C := ⟨_, rfl⟩
    have C0 : 0 ≤ C := by omega
    have C1 : C ≤ 15 := by omega
    go_enter Try.func5, Try.ntmps5
    go_wp2_with fail
    refine (new_stay _ _ _ _ (by decide) (by omega) (by omega) (by omega)).mono ?_
    rintro e w1 ⟨g, rfl, hg, hb, hk⟩
    have B1 := Lib.hid hb
    clear hb hk
    go_wp2_with fail
    refine (awake_any _).mono ?_
    rintro e w2 ⟨rfl, hb⟩
    have B2 := Lib.hid (below_call B1.out hb)
    clear hb
    go_wp2_with fail
    go_ret
    exact ⟨rfl, B2.out⟩
end Go.Proofs.Ytnnbkllcldgolaa.cardLimits
