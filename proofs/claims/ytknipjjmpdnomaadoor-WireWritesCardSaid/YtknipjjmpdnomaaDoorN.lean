/- The walk of WireWrites. -/
import Derived.Test.YtknipjjmpdnomaaDoorM
import Derived.Test.YtknipjjmpdnomaaDoorH
import Derived.Test.YtknipjjmpdnomaaDoorG
set_option linter.unusedVariables false
set_option linter.unusedSimpArgs false
namespace Go.Proofs.YtknipjjmpdnomaaDoor
open Go.Sort Go.ChangeShapes Go.WideShapes Go.ChangeAt Go.RowKit
set_option maxHeartbeats 4000000 in
theorem wireWrites.walk (s : ByteArray) (n wd : Int) (w : World) (hs : s.size ≤ maxLen) (hn : (Lit.int .i64 n).wf = true) (hwd : (Lit.int .i64 wd).wf = true) (hT : TabP w) : Calls Tryd.prog 3 #[.string s, .int .i64 n, .int .i64 wd] w fun e w' => e = .returned (.bool true) ∧ Below w.heap.size w w' := by
  have HT := Lib.hid hT
  have HAW := Lib.hid awake_any
  have HNB := Lib.hid (wf_i64 hn).2
  unfold maxLen at hs
  by_cases h1 : 1000 < s.size
  · have c1 : decide (1000 < (s.size : Int)) = true := decide_eq_true (by omega)
    clear h1 hT hn hwd
    go_enter Tryd.func3, Tryd.ntmps3
    go_wp2_with fail
    refine (HAW.out _ HT.out).mono ?_
    rintro e w1 ⟨rfl, hb⟩
    have B1 := Lib.hid hb
    clear hb
    go_wp2_with fail
    go_ret
    exact ⟨rfl, B1.out⟩
  have c1 : decide (1000 < (s.size : Int)) = false := decide_eq_false (by omega)
  have H7 := Lib.hid (fun w hT => num_any n wd HNB w hT)
  have H8 := Lib.hid (fun w => rnum_any n wd HNB w)
  have H9 := Lib.hid (fun w => alpha_any s wd (by omega) w)
  have H10 := Lib.hid (fun w => ralpha_any s wd (by omega) w)
  have H11 := Lib.hid (fun w hT => var_any s wd (by omega) w hT)
  have H12 := Lib.hid (fun w => rvar_any s wd (by omega) w)
  have H13 := Lib.hid (fun w => unhex_any s (by omega) w)
  have H14 := Lib.hid (fun w => runhex_any s (by omega) w)
  have H15 := Lib.hid (fun w => hex_any s (by omega) w)
  have H16 := Lib.hid (fun w => rhex_any s (by omega) w)
  generalize nuV n wd = v1 at *
  generalize nuE n wd = e1 at *
  generalize alV s wd = v2 at *
  generalize alE s wd = e2 at *
  generalize vaV s wd = v3 at *
  generalize vaE s wd = e3 at *
  generalize uV s = v4 at *
  generalize uE s = e4 at *
  generalize bst (heL (ls s) s.size) = v5 at *
  clear h1 hT hn hwd
  go_enter Tryd.func3, Tryd.ntmps3
  go_wp2_with fail
  refine (H7.out _ (HT.out.call (Below.refl w.heap.size w))).mono ?_
  rintro e w1 ⟨rfl, hb⟩
  have B1 := Lib.hid (below_call (Below.refl w.heap.size w) hb)
  clear hb
  go_wp2_with fail
  refine (H8.out _).mono ?_
  rintro e w2 ⟨rfl, hb⟩
  have B2 := Lib.hid (below_call B1.out hb)
  clear hb
  go_wp2_with fail
  refine (H9.out _).mono ?_
  rintro e w3 ⟨rfl, hb⟩
  have B3 := Lib.hid (below_call B2.out hb)
  clear hb
  go_wp2_with fail
  refine (H10.out _).mono ?_
  rintro e w4 ⟨rfl, hb⟩
  have B4 := Lib.hid (below_call B3.out hb)
  clear hb
  go_wp2_with fail
  refine (H11.out _ (HT.out.call B4.out)).mono ?_
  rintro e w5 ⟨rfl, hb⟩
  have B5 := Lib.hid (below_call B4.out hb)
  clear hb
  go_wp2_with fail
  refine (H12.out _).mono ?_
  rintro e w6 ⟨rfl, hb⟩
  have B6 := Lib.hid (below_call B5.out hb)
  clear hb
  go_wp2_with fail
  refine (H13.out _).mono ?_
  rintro e w7 ⟨rfl, hb⟩
  have B7 := Lib.hid (below_call B6.out hb)
  clear hb
  go_wp2_with fail
  refine (H14.out _).mono ?_
  rintro e w8 ⟨rfl, hb⟩
  have B8 := Lib.hid (below_call B7.out hb)
  clear hb
  go_wp2_with fail
  refine (H15.out _).mono ?_
  rintro e w9 ⟨rfl, hb⟩
  have B9 := Lib.hid (below_call B8.out hb)
  clear hb
  go_wp2_with fail
  refine (H16.out _).mono ?_
  rintro e w10 ⟨rfl, hb⟩
  have B10 := Lib.hid (below_call B9.out hb)
  clear hb
  go_wp2_with fail
  refine (HAW.out _ (HT.out.call B10.out)).mono ?_
  rintro e w11 ⟨rfl, hb⟩
  have B11 := Lib.hid (below_call B10.out hb)
  clear hb
  go_wp2_with fail
  go_ret
  exact ⟨rfl, B11.out⟩
end Go.Proofs.YtknipjjmpdnomaaDoor
