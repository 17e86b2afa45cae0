/- What the listed variables give the walks, where they are five. -/
import Derived.Test.YtfiingnanofneaaDoorM
import Derived.ProofKit
import Derived.LaidMore
import Derived.OpenShut
import Derived.Stop.Joined
set_option linter.unusedVariables false
set_option linter.unusedSimpArgs false
namespace Go.Proofs.YtfiingnanofneaaDoor
open Go.Sort Go.ChangeShapes Go.WideShapes Go.ChangeAt Go.RowKit
theorem tab_of_laid_rt {W : World} (h : laidMetH Tryd.prog Rows.bitmapRoundTripRow.laid W) : Tab W := by
  rw [MakeChecks.laidMetH_plain _ _ _ (by kernel_rfl)] at h
  obtain ⟨ps, ⟨g0, t0, cs0, f0, p0, q0, hg0, ht0, hv0, hd0, ⟨g1, t1, cs1, f1, p1, q1, hg1, ht1, hv1, hd1, _, _⟩, _⟩, _, _⟩ := h
  obtain rfl := Option.some.inj (gTab.symm.trans (show Tryd.prog.globalNamed nTab = some g1 from hg1))
  obtain rfl := Option.some.inj (tTab.symm.trans ht1)
  exact tab_cell [0, 1, 56, 2, 57, 49, 28, 3, 61, 58, 42, 50, 38, 29, 17, 4, 62, 47, 59, 36, 45, 43, 51, 22, 53, 39, 33, 30, 24, 18, 12, 5, 63, 55, 48, 27, 60, 41, 37, 16, 46, 35, 44, 21, 52, 32, 23, 11, 54, 26, 40, 15, 34, 20, 31, 10, 25, 14, 19, 9, 13, 8, 7, 6] gTab (n := nTab) hv1 Tryd.underlying89 Tryd.underlying5 (by kernel_rfl) (by kernel_rfl) hd1 15 (by decide)
theorem tab_of_laid_co {W : World} (h : laidMetH Tryd.prog Rows.bitmapCodesRow.laid W) : Tab W := by
  rw [MakeChecks.laidMetH_plain _ _ _ (by kernel_rfl)] at h
  obtain ⟨ps, ⟨g0, t0, cs0, f0, p0, q0, hg0, ht0, hv0, hd0, ⟨g1, t1, cs1, f1, p1, q1, hg1, ht1, hv1, hd1, _, _⟩, _⟩, _, _⟩ := h
  obtain rfl := Option.some.inj (gTab.symm.trans (show Tryd.prog.globalNamed nTab = some g1 from hg1))
  obtain rfl := Option.some.inj (tTab.symm.trans ht1)
  exact tab_cell [0, 1, 56, 2, 57, 49, 28, 3, 61, 58, 42, 50, 38, 29, 17, 4, 62, 47, 59, 36, 45, 43, 51, 22, 53, 39, 33, 30, 24, 18, 12, 5, 63, 55, 48, 27, 60, 41, 37, 16, 46, 35, 44, 21, 52, 32, 23, 11, 54, 26, 40, 15, 34, 20, 31, 10, 25, 14, 19, 9, 13, 8, 7, 6] gTab (n := nTab) hv1 Tryd.underlying89 Tryd.underlying5 (by kernel_rfl) (by kernel_rfl) hd1 15 (by decide)
end Go.Proofs.YtfiingnanofneaaDoor
