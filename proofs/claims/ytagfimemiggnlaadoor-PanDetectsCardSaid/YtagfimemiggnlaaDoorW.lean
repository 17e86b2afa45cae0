/- The laws: the listed table; Checks, Makes, Finds, Strips. -/
import Derived.Test.YtagfimemiggnlaaDoorV
import Derived.LaidMore
import Derived.Stop.Joined
import Derived.Stop.LaidErr
import Derived.OpenShut
import Derived.Lib.LaidTab
set_option linter.unusedVariables false
set_option linter.unusedSimpArgs false
namespace Go.Proofs.YtagfimemiggnlaaDoor
open Go.Sort Go.ChangeShapes Go.WideShapes Go.ChangeAt Go.RowKit
theorem wf_i64 {a : Int} (h : (Lit.int .i64 a).wf = true) : -9223372036854775808 ≤ a ∧ a ≤ 9223372036854775807 := by simp [Lit.wf, IntKind.min, IntKind.max, IntKind.signed, IntKind.bits] at h; omega
theorem tabP_of_panChecks {W : World} (h : laidMetH Tryd.prog Rows.panChecksRow.laid W) : TabP W := by
  rw [MakeChecks.laidMetH_plain _ _ _ (by kernel_rfl)] at h
  have h2 := h.tail.tail
  exact Lib.tabIs_of_head (g := 3) (by kernel_rfl) (by kernel_rfl) Tryd.underlying91 Tryd.underlying66 (by kernel_rfl) (by kernel_rfl) h2
theorem tabP_of_panMakes {W : World} (h : laidMetH Tryd.prog Rows.panMakesRow.laid W) : TabP W := by
  rw [MakeChecks.laidMetH_plain _ _ _ (by kernel_rfl)] at h
  have h2 := h.tail.tail
  exact Lib.tabIs_of_head (g := 3) (by kernel_rfl) (by kernel_rfl) Tryd.underlying91 Tryd.underlying66 (by kernel_rfl) (by kernel_rfl) h2
theorem tabP_of_panFinds {W : World} (h : laidMetH Tryd.prog Rows.panFindsRow.laid W) : TabP W := by
  rw [MakeChecks.laidMetH_plain _ _ _ (by kernel_rfl)] at h
  have h2 := h.tail.tail
  exact Lib.tabIs_of_head (g := 3) (by kernel_rfl) (by kernel_rfl) Tryd.underlying91 Tryd.underlying66 (by kernel_rfl) (by kernel_rfl) h2
theorem tabP_of_panStrips {W : World} (h : laidMetH Tryd.prog Rows.panStripsRow.laid W) : TabP W := by
  rw [MakeChecks.laidMetH_plain _ _ _ (by kernel_rfl)] at h
  have h2 := h.tail.tail
  exact Lib.tabIs_of_head (g := 3) (by kernel_rfl) (by kernel_rfl) Tryd.underlying91 Tryd.underlying66 (by kernel_rfl) (by kernel_rfl) h2
theorem tabP_of_panDetects {W : World} (h : laidMetH Tryd.prog Rows.panDetectsRow.laid W) : TabP W := by
  rw [MakeChecks.laidMetH_plain _ _ _ (by kernel_rfl)] at h
  have h2 := h.tail.tail
  exact Lib.tabIs_of_head (g := 3) (by kernel_rfl) (by kernel_rfl) Tryd.underlying91 Tryd.underlying66 (by kernel_rfl) (by kernel_rfl) h2
theorem tabP_of_panNumbers {W : World} (h : laidMetH Tryd.prog Rows.panNumbersRow.laid W) : TabP W := by
  rw [MakeChecks.laidMetH_plain _ _ _ (by kernel_rfl)] at h
  have h2 := h.tail.tail
  exact Lib.tabIs_of_head (g := 3) (by kernel_rfl) (by kernel_rfl) Tryd.underlying91 Tryd.underlying66 (by kernel_rfl) (by kernel_rfl) h2
theorem tabP_of_panGroups {W : World} (h : laidMetH Tryd.prog Rows.panGroupsRow.laid W) : TabP W := by
  rw [MakeChecks.laidMetH_plain _ _ _ (by kernel_rfl)] at h
  have h2 := h.tail.tail
  exact Lib.tabIs_of_head (g := 3) (by kernel_rfl) (by kernel_rfl) Tryd.underlying91 Tryd.underlying66 (by kernel_rfl) (by kernel_rfl) h2
set_option maxHeartbeats 2000000 in
theorem panChecks.walk (s : ByteArray) (w : World) (hs : s.size ≤ maxLen) (hT : TabP w) : Calls Tryd.prog 3 #[.string s] w fun e w' => e = .returned (.bool true) ∧ Below w.heap.size w w' := by
  have HT := Lib.hid hT
  have HAW := Lib.hid awake_any
  clear hT
  unfold maxLen at hs
  by_cases h100 : 100 < s.size
  · have c1 : decide (100 < (s.size : Int)) = true := decide_eq_true (by omega)
    clear h100
    go_enter Tryd.func3, Tryd.ntmps3
    go_wp2_with fail
    refine (HAW.out _ (HT.out.call (Below.refl w.heap.size w))).mono ?_
    rintro e w1 ⟨rfl, hb⟩
    have B1 := Lib.hid (below_call (Below.refl w.heap.size w) hb)
    clear hb
    go_wp2_with fail
    go_ret
    exact ⟨rfl, B1.out⟩
  · have c1 : decide (100 < (s.size : Int)) = false := decide_eq_false (by omega)
    have H11 := Lib.hid (fun w => cd_any s (by omega) w)
    have H12 := Lib.hid (fun w => rcd_any s (by omega) w)
    have H13 := Lib.hid (fun w => luhn_any s (by omega) w)
    have H14 := Lib.hid (fun w => rluhn_any s (by omega) w)
    have H15 := Lib.hid (fun w => check_any s (by omega) w)
    have H16 := Lib.hid (fun w => rcheck_any s (by omega) w)
    have H17 := Lib.hid (fun w => mask_any s (by omega) w)
    have H18 := Lib.hid (fun w => rmask_any s (by omega) w)
    have H19 := Lib.hid (fun w => group_any s (by omega) w)
    have H20 := Lib.hid (fun w => rgroup_any s (by omega) w)
    generalize cdV s = c at *
    generalize cdE s = ce at *
    generalize luhB s = L at *
    generalize chkP s = P at *
    generalize mkP s = M at *
    generalize grB s s.size = G at *
    clear h100 hs
    have hL : (L == L) = true := by cases L <;> rfl
    go_enter Tryd.func3, Tryd.ntmps3
    go_wp2_with fail
    refine (H11.out _).mono ?_
    rintro e w1 ⟨rfl, hb⟩
    have B1 := Lib.hid (below_call (Below.refl w.heap.size w) hb)
    clear hb
    go_wp2_with fail
    refine (H12.out _).mono ?_
    rintro e w2 ⟨rfl, hb⟩
    have B2 := Lib.hid (below_call B1.out (show Below _ _ w2 from hb ▸ Below.refl _ _))
    clear hb
    go_wp2_with fail
    refine (H13.out _).mono ?_
    rintro e w3 ⟨rfl, hb⟩
    have B3 := Lib.hid (below_call B2.out hb)
    clear hb
    go_wp2_with fail
    refine (H14.out _).mono ?_
    rintro e w4 ⟨rfl, hb⟩
    have B4 := Lib.hid (below_call B3.out (show Below _ _ w4 from hb ▸ Below.refl _ _))
    clear hb
    go_wp2_with fail
    refine (H15.out _).mono ?_
    rintro e w5 ⟨rfl, hb⟩
    have B5 := Lib.hid (below_call B4.out hb)
    clear hb
    go_wp2_with fail
    refine (H16.out _).mono ?_
    rintro e w6 ⟨rfl, hb⟩
    have B6 := Lib.hid (below_call B5.out (show Below _ _ w6 from hb ▸ Below.refl _ _))
    clear hb
    go_wp2_with fail
    refine (H17.out _).mono ?_
    rintro e w7 ⟨rfl, hb⟩
    have B7 := Lib.hid (below_call B6.out hb)
    clear hb
    go_wp2_with fail
    refine (H18.out _).mono ?_
    rintro e w8 ⟨rfl, hb⟩
    have B8 := Lib.hid (below_call B7.out (show Below _ _ w8 from hb ▸ Below.refl _ _))
    clear hb
    go_wp2_with fail
    refine (H19.out _).mono ?_
    rintro e w9 ⟨rfl, hb⟩
    have B9 := Lib.hid (below_call B8.out hb)
    clear hb
    go_wp2_with fail
    refine (H20.out _).mono ?_
    rintro e w10 ⟨rfl, hb⟩
    have B10 := Lib.hid (below_call B9.out (show Below _ _ w10 from hb ▸ Below.refl _ _))
    clear hb
    go_wp2_with fail
    refine (HAW.out _ (HT.out.call B10.out)).mono ?_
    rintro e w11 ⟨rfl, hb⟩
    have B11 := Lib.hid (below_call B10.out hb)
    clear hb
    go_wp2_with fail
    go_ret
    exact ⟨rfl, B11.out⟩
set_option maxHeartbeats 2000000 in
theorem panMakes.walk (p : ByteArray) (n len : Int) (w : World) (hs : p.size ≤ maxLen) (hn : (Lit.int .i64 n).wf = true) (hl : (Lit.int .i64 len).wf = true) (hT : TabP w) : Calls Tryd.prog 4 #[.string p, .int .i64 n, .int .i64 len] w fun e w' => e = .returned (.bool true) ∧ Below w.heap.size w w' := by
  have HT := Lib.hid hT
  have HAW := Lib.hid awake_any
  have hn1 : n ≤ 9223372036854775807 := by have := wf_i64 hn; omega
  clear hT hn hl
  unfold maxLen at hs
  by_cases h100 : 100 < p.size
  · have c1 : decide (100 < (p.size : Int)) = true := decide_eq_true (by omega)
    clear h100 hn1
    go_enter Tryd.func4, Tryd.ntmps4
    go_wp2_with fail
    refine (HAW.out _ (HT.out.call (Below.refl w.heap.size w))).mono ?_
    rintro e w1 ⟨rfl, hb⟩
    have B1 := Lib.hid (below_call (Below.refl w.heap.size w) hb)
    clear hb
    go_wp2_with fail
    go_ret
    exact ⟨rfl, B1.out⟩
  · have c1 : decide (100 < (p.size : Int)) = false := decide_eq_false (by omega)
    have H21 := Lib.hid (fun w hT => make_any p n len (by omega) hn1 w hT)
    have H22 := Lib.hid (fun w => rmake_any p n len (by omega) hn1 w)
    generalize mkV p n len = V at *
    generalize mkE p n len = E at *
    clear h100 hs hn1
    go_enter Tryd.func4, Tryd.ntmps4
    go_wp2_with fail
    refine (H21.out _ (HT.out.call (Below.refl w.heap.size w))).mono ?_
    rintro e w1 ⟨rfl, hb⟩
    have B1 := Lib.hid (below_call (Below.refl w.heap.size w) hb)
    clear hb
    go_wp2_with fail
    refine (H22.out _).mono ?_
    rintro e w2 ⟨rfl, hb⟩
    have B2 := Lib.hid (below_call B1.out hb)
    clear hb
    go_wp2_with fail
    refine (HAW.out _ (HT.out.call B2.out)).mono ?_
    rintro e w3 ⟨rfl, hb⟩
    have B3 := Lib.hid (below_call B2.out hb)
    clear hb
    go_wp2_with fail
    go_ret
    exact ⟨rfl, B3.out⟩
set_option maxHeartbeats 2000000 in
theorem panFinds.walk (s a b : ByteArray) (w : World) (hs : s.size ≤ maxLen) (ha : a.size ≤ maxLen) (hb : b.size ≤ maxLen) (hT : TabP w) : Calls Tryd.prog 5 #[.string s, .string a, .string b] w fun e w' => e = .returned (.bool true) ∧ Below w.heap.size w w' := by
  have HT := Lib.hid hT
  have HAW := Lib.hid awake_any
  clear hT
  unfold maxLen at hs ha hb
  by_cases gs : 100 < s.size
  · have c0 : decide (100 < (s.size : Int)) = true := decide_eq_true (by omega)
    clear gs
    go_enter Tryd.func5, Tryd.ntmps5
    go_wp2_with fail
    refine (HAW.out _ (HT.out.call (Below.refl w.heap.size w))).mono ?_
    rintro e w1 ⟨rfl, hb⟩
    have B1 := Lib.hid (below_call (Below.refl w.heap.size w) hb)
    clear hb
    go_wp2_with fail
    go_ret
    exact ⟨rfl, B1.out⟩
  have c0 : decide (100 < (s.size : Int)) = false := decide_eq_false (by omega)
  by_cases ga : 100 < a.size
  · have c1 : decide (100 < (a.size : Int)) = true := decide_eq_true (by omega)
    clear ga
    go_enter Tryd.func5, Tryd.ntmps5
    go_wp2_with fail
    refine (HAW.out _ (HT.out.call (Below.refl w.heap.size w))).mono ?_
    rintro e w1 ⟨rfl, hb⟩
    have B1 := Lib.hid (below_call (Below.refl w.heap.size w) hb)
    clear hb
    go_wp2_with fail
    go_ret
    exact ⟨rfl, B1.out⟩
  have c1 : decide (100 < (a.size : Int)) = false := decide_eq_false (by omega)
  by_cases gb : 100 < b.size
  · have c2 : decide (100 < (b.size : Int)) = true := decide_eq_true (by omega)
    clear gb
    go_enter Tryd.func5, Tryd.ntmps5
    go_wp2_with fail
    refine (HAW.out _ (HT.out.call (Below.refl w.heap.size w))).mono ?_
    rintro e w1 ⟨rfl, hb⟩
    have B1 := Lib.hid (below_call (Below.refl w.heap.size w) hb)
    clear hb
    go_wp2_with fail
    go_ret
    exact ⟨rfl, B1.out⟩
  have c2 : decide (100 < (b.size : Int)) = false := decide_eq_false (by omega)
  have H23 := Lib.hid (fun w => index_any a s (by omega) (by omega) w)
  have H24 := Lib.hid (fun w => rindex_any a s (by omega) (by omega) w)
  have H25 := Lib.hid (fun w => within_any s a b (by omega) (by omega) (by omega) w)
  have H26 := Lib.hid (fun w => rwithin_any s a b (by omega) (by omega) (by omega) w)
  generalize idxV a s = V at *
  generalize idxB a s = I at *
  generalize winB s a b = L at *
  have hL : (L == L) = true := by cases L <;> rfl
  have hI : (I == I) = true := by cases I <;> rfl
  clear hs ha hb gs ga gb
  go_enter Tryd.func5, Tryd.ntmps5
  go_wp2_with fail
  refine (H23.out _).mono ?_
  rintro e w1 ⟨rfl, hb⟩
  have B1 := Lib.hid (below_call (Below.refl w.heap.size w) hb)
  clear hb
  go_wp2_with fail
  refine (H24.out _).mono ?_
  rintro e w2 ⟨rfl, hb⟩
  have B2 := Lib.hid (below_call B1.out (show Below _ _ w2 from hb ▸ Below.refl _ _))
  clear hb
  go_wp2_with fail
  refine (H25.out _).mono ?_
  rintro e w3 ⟨rfl, hb⟩
  have B3 := Lib.hid (below_call B2.out (show Below _ _ w3 from hb ▸ Below.refl _ _))
  clear hb
  go_wp2_with fail
  refine (H26.out _).mono ?_
  rintro e w4 ⟨rfl, hb⟩
  have B4 := Lib.hid (below_call B3.out (show Below _ _ w4 from hb ▸ Below.refl _ _))
  clear hb
  go_wp2_with fail
  refine (HAW.out _ (HT.out.call B4.out)).mono ?_
  rintro e w5 ⟨rfl, hb⟩
  have B5 := Lib.hid (below_call B4.out hb)
  clear hb
  go_wp2_with fail
  go_ret
  exact ⟨rfl, B5.out⟩
set_option maxHeartbeats 2000000 in
theorem panStrips.walk (s : ByteArray) (w : World) (hs : s.size ≤ maxLen) (hT : TabP w) : Calls Tryd.prog 6 #[.string s] w fun e w' => e = .returned (.bool true) ∧ Below w.heap.size w w' := by
  have HT := Lib.hid hT
  have HAW := Lib.hid awake_any
  clear hT
  unfold maxLen at hs
  by_cases h100 : 100 < s.size
  · have c1 : decide (100 < (s.size : Int)) = true := decide_eq_true (by omega)
    clear h100
    go_enter Tryd.func6, Tryd.ntmps6
    go_wp2_with fail
    refine (HAW.out _ (HT.out.call (Below.refl w.heap.size w))).mono ?_
    rintro e w1 ⟨rfl, hb⟩
    have B1 := Lib.hid (below_call (Below.refl w.heap.size w) hb)
    clear hb
    go_wp2_with fail
    go_ret
    exact ⟨rfl, B1.out⟩
  · have c1 : decide (100 < (s.size : Int)) = false := decide_eq_false (by omega)
    have H27 := Lib.hid (fun w => strip_any s (by omega) w)
    have H28 := Lib.hid (fun w => rstrip_any s (by omega) w)
    generalize stV s = V at *
    generalize stE s = E at *
    clear h100 hs
    go_enter Tryd.func6, Tryd.ntmps6
    go_wp2_with fail
    refine (H27.out _).mono ?_
    rintro e w1 ⟨rfl, hb⟩
    have B1 := Lib.hid (below_call (Below.refl w.heap.size w) hb)
    clear hb
    go_wp2_with fail
    refine (H28.out _).mono ?_
    rintro e w2 ⟨rfl, hb⟩
    have B2 := Lib.hid (below_call B1.out (show Below _ _ w2 from hb ▸ Below.refl _ _))
    clear hb
    go_wp2_with fail
    refine (HAW.out _ (HT.out.call B2.out)).mono ?_
    rintro e w3 ⟨rfl, hb⟩
    have B3 := Lib.hid (below_call B2.out hb)
    clear hb
    go_wp2_with fail
    go_ret
    exact ⟨rfl, B3.out⟩
end Go.Proofs.YtagfimemiggnlaaDoor
