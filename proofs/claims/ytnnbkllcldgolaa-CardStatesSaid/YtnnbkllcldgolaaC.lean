/- IsDate, IsAmount; New at the example's number: a new block of eleven cells. -/
import Derived.Test.YtnnbkllcldgolaaA
import Derived.Test.YtnnbkllcldgolaaB
import Derived.Test.YtnnbkllcldgolaaK
set_option linter.unusedVariables false
set_option linter.unusedSimpArgs false
namespace Go.Proofs.Ytnnbkllcldgolaa
open Go.ChangeShapes Go.WideShapes Go.ChangeAt Go.RowKit
abbrev smp : ByteArray := ⟨#[52, 49, 49, 49, 49, 49, 49, 49, 49, 49, 49, 49, 49, 49, 49, 49]⟩
theorem date_any (n : Int) (w : World) :
    Calls Try.prog 25 #[.int .i64 n] w fun e w' => e = .returned (.bool (decide (0 ≤ n ∧ n ≤ 99999))) ∧ w = w' := by
  go_enter Try.func25, Try.ntmps25
  by_cases h1 : 0 ≤ n
  · by_cases h2 : n ≤ 99999
    · go_wp2_with fail
      go_ret
      exact ⟨by rw [decide_eq_true ⟨h1, h2⟩]; rfl, rfl⟩
    · go_wp2_with fail
      go_ret
      exact ⟨by rw [decide_eq_false (by omega)]; rfl, rfl⟩
  · go_wp2_with fail
    go_ret
    exact ⟨by rw [decide_eq_false (by omega)]; rfl, rfl⟩
theorem amount_any (n l : Int) (w : World) :
    Calls Try.prog 26 #[.int .i64 n, .int .i64 l] w fun e w' => e = .returned (.bool (decide (l ≤ n ∧ n ≤ 999999999999))) ∧ w = w' := by
  go_enter Try.func26, Try.ntmps26
  by_cases h1 : l ≤ n
  · by_cases h2 : n ≤ 999999999999
    · go_wp2_with fail
      go_ret
      exact ⟨by rw [decide_eq_true ⟨h1, h2⟩]; rfl, rfl⟩
    · go_wp2_with fail
      go_ret
      exact ⟨by rw [decide_eq_false (by omega)]; rfl, rfl⟩
  · go_wp2_with fail
    go_ret
    exact ⟨by rw [decide_eq_false (by omega)]; rfl, rfl⟩
/-- the eleven cells of a card -/
def cc (nm : ByteArray) (ex st la lc : Int) (k : Bool) (d a c : Int) : Array Value :=
  #[.string nm, .int .i64 ex, .int .i64 st, .bool false, .int .i64 0, .int .i64 la, .int .i64 lc, .bool k, .int .i64 d, .int .i64 a, .int .i64 c]
theorem new_s (ex am cn : Int) (w : World) (h1 : 0 ≤ ex ∧ ex ≤ 99999) (h2 : 0 ≤ am ∧ am ≤ 999999999999) (h3 : 0 ≤ cn) (h4 : cn ≤ 1000) :
    Calls Try.prog 9 #[.string smp, .int .i64 ex, .int .i64 am, .int .i64 cn] w fun e w' => ∃ w1, e = .returned (.tuple #[.pointer (some ⟨w1.heap.size, 0, none⟩), .int .i64 0]) ∧ Below w.heap.size w w1 ∧ w' = w1.alloc (.cells (cc smp ex 1 am cn false 0 0 0) 57) := by
  have d1 : decide (0 ≤ ex ∧ ex ≤ 99999) = true := decide_eq_true h1
  have d2 : decide (0 ≤ am ∧ am ≤ 999999999999) = true := decide_eq_true h2
  go_enter Try.func9, Try.ntmps9
  go_wp2_with fail
  refine (check_s _).mono ?_
  rintro e w1 ⟨rfl, hb⟩
  go_wp2_with fail
  refine (date_any _ _).mono ?_
  rw [d1]
  rintro e w2 ⟨rfl, rfl⟩
  go_wp2_with fail
  refine (amount_any _ _ _).mono ?_
  rw [d2]
  rintro e w2 ⟨rfl, rfl⟩
  clear d1 d2
  go_wp2_with fail
  exact bodyPost_ret (v := .tuple #[.pointer (some ⟨w1.heap.size, 0, none⟩), .int .i64 0]) (by simp [results, Try.results9, go_sem]) rfl ⟨w1, rfl, hb, rfl⟩
end Go.Proofs.Ytnnbkllcldgolaa
