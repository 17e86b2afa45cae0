/- Parse where a hyphen lacks. -/
import Derived.Test.YtbfmfnfndmfeeaaDoorR
import Derived.Deep.QuietTactic
set_option linter.unusedVariables false
set_option linter.unusedSimpArgs false
namespace Go.Proofs.YtbfmfnfndmfeeaaDoor
open Go.Sort Go.ChangeShapes Go.WideShapes Go.ChangeAt Go.RowKit
open cal
set_option maxHeartbeats 8000000 in
set_option maxRecDepth 20000 in
theorem parse_bad1 (b0 b1 b2 b3 b4 b5 b6 b7 b8 b9 : UInt8) (h : b4 ≠ 45) (w : World) :
    Calls Tryd.prog 20 #[.string ⟨#[b0, b1, b2, b3, b4, b5, b6, b7, b8, b9]⟩] w fun e w' => e = .returned (.tuple #[.int .i64 0, .int .i64 2]) ∧ Below w.heap.size w w' := by
  have q1 : ((b4.toNat : Int) == 45) = false := u8_ne h
  have q2 : ((b4.toNat : Int) != 45) = true := by simp only [bne, q1]; rfl
  have q3 : ((((⟨#[b0, b1, b2, b3, b4, b5, b6, b7, b8, b9]⟩ : ByteArray)[4]'(show 4 < 10 by decide)).toNat : Int) != 45) = true := q2
  clear h
  go_enter Tryd.func20, Tryd.ntmps20
  go_wp2_with fail
  go_quiet (fail)
  go_wp2_with fail
  exact bodyPost_ret (v := .tuple #[.int .i64 0, .int .i64 2]) (by simp [results, Tryd.results20, go_sem]) rfl ⟨rfl, Go.Joins.below_draws _ _ _⟩
end Go.Proofs.YtbfmfnfndmfeeaaDoor
