/- What the row of WireReads lists, as the walk takes it. -/
import Derived.Test.YtknipjjmpdnomaaGreatDoorT
set_option linter.unusedVariables false
set_option linter.unusedSimpArgs false
namespace Go.Proofs.YtknipjjmpdnomaaGreatDoor
open Go.Sort Go.ChangeShapes Go.WideShapes Go.ChangeAt Go.RowKit
theorem star : "*" ++ "errors.errorString" = "*errors.errorString" := by decide
theorem rowErr (u : TypeId) (h : Tryz.prog.typeName? 3 u = some "*errors.errorString") : u = 109 :=
  typeName_ptr_named (nm := "errors.errorString") (by rw [star]; kernel_rfl) (by kernel_rfl) (by decide) u (by rw [star]; exact h)
theorem gErr : Tryz.prog.globalNamed "strconv.ErrSyntax" = some 0 := by kernel_rfl
theorem gErrT : (Tryz.prog.globals[0]?).map (·.type) = some 49 := by kernel_rfl
theorem cErr : Tryz.prog.cellsOf 111 = 1 := by kernel_rfl
theorem cStr : Tryz.prog.cellsOf 9 = 1 := by kernel_rfl
theorem erP_of_wireReads {W : World} (h : laidMetH Tryz.prog Rows.wireReadsRow.laid W) : ErP W := by
  rw [MakeChecks.laidMetH_plain _ _ _ (by kernel_rfl)] at h
  have h2 := h.tail.tail.tail.tail.tail
  obtain ⟨a, s, hv, _, _, _⟩ := laid_sentinel (n := "strconv.ErrSyntax") (nm := "*errors.errorString") (text := [105, 110, 118, 97, 108, 105, 100, 32, 115, 121, 110, 116, 97, 120]) h2 gErr gErrT Tryz.underlying49 rowErr Tryz.underlying109 Tryz.underlying111 rfl rfl Tryz.underlying9 cErr cStr
  exact ⟨109, _, hv⟩
theorem w3_of_wireReads {W : World} (h : laidMetH Tryz.prog Rows.wireReadsRow.laid W) : 3 ≤ W.heap.size := by
  have hT := tabP_of_wireReads h
  have hc := World.var?_cell (show Tryz.prog.globalNamed "internal/strconv.uint64pow10" = some 2 by kernel_rfl) hT 0
  have hs : ∃ v, ((Lib.pow10Tab.map fun z => Value.int .u64 z).toArray)[0]? = some v := ⟨_, rfl⟩
  obtain ⟨v, hv⟩ := hs
  exact block_lt_of_cell (a := ⟨2, 0, none⟩) (hc.trans hv)
end Go.Proofs.YtknipjjmpdnomaaGreatDoor
