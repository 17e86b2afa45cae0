/- ElementNames: its ways together. -/
import Derived.Test.YtjkfckkmofcpdaaDoorEh
set_option linter.unusedVariables false
set_option linter.unusedSimpArgs false
namespace Go.Proofs.YtjkfckkmofcpdaaDoor
open Go.Sort Go.ChangeShapes Go.WideShapes Go.ChangeAt Go.RowKit
theorem elementNames.walk (a b kd : Int) (w : World) (_ : (Lit.int .i64 a).wf = true) (_ : (Lit.int .i64 b).wf = true) (_ : (Lit.int .i64 kd).wf = true) (hX : DT w) (hT : TabP w) : Calls Tryd.prog 8 #[.int .i64 a, .int .i64 b, .int .i64 kd] w fun e w' => e = .returned (.bool true) ∧ Below w.heap.size w w' := by
  obtain ⟨hl, hq⟩ := rq_all kd
  have HL := Lib.hid hq
  have HR := Lib.hid (fun w => req16_any kd w)
  by_cases ha : fdI a < 23
  · have hna := fdI_num ha
    obtain ⟨n1, n2, n3⟩ := nm_own _ ha
    have HFa := Lib.hid (fun w h => find_any a w h)
    simp only [decide_eq_true ha] at HFa
    have HBN := Lib.hid (fun w h => byname_any (dnm (fdI a)) w h)
    simp only [n1, hna, decide_eq_true ha] at HBN
    rw [hna] at n2 n3
    by_cases hb : fdI b < 23
    · have hnb := fdI_num hb
      have HFb := Lib.hid (fun w h => find_any b w h)
      simp only [decide_eq_true hb] at HFb
      by_cases hab : b = a
      · exact names_same a b kd w hX hT (rqL kd) _ _ _ _ _ _ _ _ _ _ hl HL HR HFa HFb hna n2 n3 HBN hab (by rw [hab])
      · refine names_diff a b kd w hX hT (rqL kd) _ _ _ _ _ _ _ _ _ _ hl HL HR HFa HFb hna n2 n3 HBN (beq_eq_false_iff_ne.2 (Ne.symm hab)) (toList_ne ?_)
        intro e
        have m1 := (nm_own _ hb).1
        rw [← e, n1] at m1
        rw [← m1, hna] at hnb
        exact hab hnb.symm
    · have HFb := Lib.hid (fun w h => find_any b w h)
      simp only [decide_eq_false hb] at HFb
      exact names_one a b kd w hX hT (rqL kd) _ _ _ _ _ _ _ _ _ _ hl HL HR HFa HFb hna n2 n3 HBN
  · have HFa := Lib.hid (fun w h => find_any a w h)
    simp only [decide_eq_false ha] at HFa
    exact names_no a b kd _ w hX hT (rqL kd) _ _ _ _ _ _ _ _ _ _ hl HL HR HFa (Lib.hid (fun w h => find_any b w h))
end Go.Proofs.YtjkfckkmofcpdaaDoor
