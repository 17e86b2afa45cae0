/- The law LexerScanners: its ways together. -/
import Derived.Test.YtikmaljhfckbgaaDoorSe
import Derived.Test.YtikmaljhfckbgaaDoorSf
set_option linter.unusedVariables false
set_option linter.unusedSimpArgs false
namespace Go.Proofs.YtikmaljhfckbgaaDoor
open Go.Sort Go.ChangeShapes Go.WideShapes Go.ChangeAt Go.RowKit
theorem lexerScanners.walk (s : ByteArray) (A : Option Addr) (len cap : Nat) (w : World) (hs : s.size ≤ maxLen) (hr : IsRecs41 w A len cap) (hT : LT w) : Calls Tryd.prog 6 #[.string s, .slice A len cap] w fun e w' => e = .returned (.bool true) ∧ Below w.heap.size w w' := by
  obtain ⟨hlc, hcm, xs, hz⟩ := sqs_of hr
  by_cases h : 1000 < s.size
  · exact scLonga s A len cap w (decide_eq_true (by omega)) hs (by omega) hT
  have d1 : decide ((1000 : Int) < (s.size : Int)) = false := decide_eq_false (by omega)
  by_cases h2 : 60 < len
  · exact scLongb s A len cap w d1 (decide_eq_true (by omega)) hs (by omega) hT
  have d2 : decide ((60 : Int) < (len : Int)) = false := decide_eq_false (by omega)
  have hln := scan_len s
  have N17 := Lib.hid (fun W h => scan_any s W h)
  have N18 := Lib.hid (fun W => rscan_any s W)
  by_cases he : (scan s).e = 0
  · have hne := (round_trip s (by omega) he).2.1
    cases hh : scan s with
    | mk l e p =>
      rw [hh] at N17 N18 he hne hln
      dsimp only at he hne hln
      subst he
      cases l with
      | nil => exact absurd rfl hne
      | cons x l =>
        rw [List.length_cons] at hln
        exact scGood s A len cap w (by omega) (by omega) d1 d2 xs hz hT x l p (by omega) N17 N18
  · have hl : (scan s).l = [] := scan_bad s (beq_eq_false_iff_ne.2 he)
    cases hh : scan s with
    | mk l e p =>
      rw [hh] at N17 N18 he hl
      dsimp only at he hl
      subst hl
      exact scBad s A len cap w (by omega) (by omega) d1 d2 xs hz hT e p (by rw [bne, beq_eq_false_iff_ne.2 he]; rfl) N17 N18
end Go.Proofs.YtikmaljhfckbgaaDoor
