/- The examples of the chapter. -/
import Derived.Test.YtagfimemiggnlaaDoorU
import Derived.Test.YtagfimemiggnlaaDoorDet
set_option linter.unusedVariables false
set_option linter.unusedSimpArgs false
namespace Go.Proofs.YtagfimemiggnlaaDoor
open Go.Sort Go.ChangeShapes Go.WideShapes Go.ChangeAt Go.RowKit
theorem c11_0 : cdV (⟨#[55, 57, 57, 50, 55, 51, 57, 56, 55, 49]⟩ : ByteArray) = 51 := by unfold cdV cdE; rw [ByteArray.toList_eq]; decide +kernel
theorem c11_1 : cdE (⟨#[55, 57, 57, 50, 55, 51, 57, 56, 55, 49]⟩ : ByteArray) = 0 := by unfold cdE; rw [ByteArray.toList_eq]; decide +kernel
theorem c11 (w : World) : Calls Tryd.prog 11 #[.string ⟨#[55, 57, 57, 50, 55, 51, 57, 56, 55, 49]⟩] w fun e w' => e = .returned (.tuple #[.int .u8 51, .int .i64 0]) ∧ Below w.heap.size w w' := by
  have h := cd_any (⟨#[55, 57, 57, 50, 55, 51, 57, 56, 55, 49]⟩ : ByteArray) (by decide +kernel) w
  rw [c11_0, c11_1] at h
  exact h
theorem c21_0 : mkV (⟨#[52, 48, 48, 48, 48, 48]⟩ : ByteArray) 7 16 = ⟨#[52, 48, 48, 48, 48, 48, 48, 48, 48, 48, 48, 48, 48, 48, 55, 55]⟩ := ls_ext (by unfold mkV mkS cdV cdE; rw [ByteArray.toList_eq]; decide +kernel)
theorem c21_1 : mkE (⟨#[52, 48, 48, 48, 48, 48]⟩ : ByteArray) 7 16 = 0 := by decide +kernel
theorem c21 (w : World) (hT : TabP w) : Calls Tryd.prog 21 #[.string ⟨#[52, 48, 48, 48, 48, 48]⟩, .int .i64 7, .int .i64 16] w fun e w' => e = .returned (.tuple #[.string ⟨#[52, 48, 48, 48, 48, 48, 48, 48, 48, 48, 48, 48, 48, 48, 55, 55]⟩, .int .i64 0]) ∧ Below w.heap.size w w' := by
  have h := make_any (⟨#[52, 48, 48, 48, 48, 48]⟩ : ByteArray) 7 16 (by decide +kernel) (by decide) w hT
  rw [c21_0, c21_1] at h
  exact h
theorem c23_0 : idxV (⟨#[52, 48, 48, 48, 48, 48]⟩ : ByteArray) (⟨#[52, 48, 48, 48, 48, 48, 48, 48, 48, 48, 48, 48, 48, 48, 55, 55]⟩ : ByteArray) = 7 := by unfold idxV idxB isP isD chkP; rw [luhB_L, ByteArray.toList_eq]; decide +kernel
theorem c23_1 : idxB (⟨#[52, 48, 48, 48, 48, 48]⟩ : ByteArray) (⟨#[52, 48, 48, 48, 48, 48, 48, 48, 48, 48, 48, 48, 48, 48, 55, 55]⟩ : ByteArray) = true := by unfold idxB isP isD chkP; rw [luhB_L, ByteArray.toList_eq]; decide +kernel
theorem c23 (w : World) : Calls Tryd.prog 23 #[.string ⟨#[52, 48, 48, 48, 48, 48]⟩, .string ⟨#[52, 48, 48, 48, 48, 48, 48, 48, 48, 48, 48, 48, 48, 48, 55, 55]⟩] w fun e w' => e = .returned (.tuple #[.int .i64 7, .bool true]) ∧ Below w.heap.size w w' := by
  have h := index_any (⟨#[52, 48, 48, 48, 48, 48]⟩ : ByteArray) (⟨#[52, 48, 48, 48, 48, 48, 48, 48, 48, 48, 48, 48, 48, 48, 55, 55]⟩ : ByteArray) (by decide +kernel) (by decide +kernel) w
  rw [c23_0, c23_1] at h
  exact h
theorem c27a_0 : stV (⟨#[52, 48, 48, 48, 45, 48, 48, 48, 48, 32, 48, 48, 48, 48, 32, 48, 48, 55, 55]⟩ : ByteArray) = ⟨#[52, 48, 48, 48, 48, 48, 48, 48, 48, 48, 48, 48, 48, 48, 55, 55]⟩ := by
  unfold stV
  rw [show stE (⟨#[52, 48, 48, 48, 45, 48, 48, 48, 48, 32, 48, 48, 48, 48, 32, 48, 48, 55, 55]⟩ : ByteArray) = 0 from by
    rw [st_chk (by decide +kernel)]
    unfold chkP
    rw [luhB_L]
    decide +kernel, if_pos rfl]
  exact ls_ext (by decide +kernel)
theorem c27a_1 : stE (⟨#[52, 48, 48, 48, 45, 48, 48, 48, 48, 32, 48, 48, 48, 48, 32, 48, 48, 55, 55]⟩ : ByteArray) = 0 := by
  rw [st_chk (by decide +kernel)]
  unfold chkP
  rw [luhB_L]
  decide +kernel
theorem c27a (w : World) : Calls Tryd.prog 27 #[.string ⟨#[52, 48, 48, 48, 45, 48, 48, 48, 48, 32, 48, 48, 48, 48, 32, 48, 48, 55, 55]⟩] w fun e w' => e = .returned (.tuple #[.string ⟨#[52, 48, 48, 48, 48, 48, 48, 48, 48, 48, 48, 48, 48, 48, 55, 55]⟩, .int .i64 0]) ∧ Below w.heap.size w w' := by
  have h := strip_any (⟨#[52, 48, 48, 48, 45, 48, 48, 48, 48, 32, 48, 48, 48, 48, 32, 48, 48, 55, 55]⟩ : ByteArray) (by decide +kernel) w
  rw [c27a_0, c27a_1] at h
  exact h
theorem c27b_0 : stV (⟨#[52, 48, 48, 48, 45, 45, 48, 48, 48, 48]⟩ : ByteArray) = ⟨#[]⟩ := (st_bad (by decide +kernel)).2
theorem c27b_1 : stE (⟨#[52, 48, 48, 48, 45, 45, 48, 48, 48, 48]⟩ : ByteArray) = 2 := (st_bad (by decide +kernel)).1
theorem c27b (w : World) : Calls Tryd.prog 27 #[.string ⟨#[52, 48, 48, 48, 45, 45, 48, 48, 48, 48]⟩] w fun e w' => e = .returned (.tuple #[.string ⟨#[]⟩, .int .i64 2]) ∧ Below w.heap.size w w' := by
  have h := strip_any (⟨#[52, 48, 48, 48, 45, 45, 48, 48, 48, 48]⟩ : ByteArray) (by decide +kernel) w
  rw [c27b_0, c27b_1] at h
  exact h
theorem c13a_0 : luhB (⟨#[55, 57, 57, 50, 55, 51, 57, 56, 55, 49, 51]⟩ : ByteArray) = true := by rw [luhB_L]; decide +kernel
theorem c13a (w : World) : Calls Tryd.prog 13 #[.string ⟨#[55, 57, 57, 50, 55, 51, 57, 56, 55, 49, 51]⟩] w fun e w' => e = .returned (.bool true) ∧ Below w.heap.size w w' := by
  have h := luhn_any (⟨#[55, 57, 57, 50, 55, 51, 57, 56, 55, 49, 51]⟩ : ByteArray) (by decide +kernel) w
  rw [c13a_0] at h
  exact h
theorem c13b_0 : luhB (⟨#[55, 57, 57, 50, 55, 51, 57, 56, 55, 49, 48]⟩ : ByteArray) = false := by rw [luhB_L]; decide +kernel
theorem c13b (w : World) : Calls Tryd.prog 13 #[.string ⟨#[55, 57, 57, 50, 55, 51, 57, 56, 55, 49, 48]⟩] w fun e w' => e = .returned (.bool false) ∧ Below w.heap.size w w' := by
  have h := luhn_any (⟨#[55, 57, 57, 50, 55, 51, 57, 56, 55, 49, 48]⟩ : ByteArray) (by decide +kernel) w
  rw [c13b_0] at h
  exact h
theorem c15_0 : chkP (⟨#[52, 49, 49, 49, 49, 49, 49, 49, 49, 49, 49, 49, 49, 49, 49, 50]⟩ : ByteArray) = 9 := by unfold chkP; rw [luhB_L]; decide +kernel
theorem c15 (w : World) : Calls Tryd.prog 15 #[.string ⟨#[52, 49, 49, 49, 49, 49, 49, 49, 49, 49, 49, 49, 49, 49, 49, 50]⟩] w fun e w' => e = .returned (.int .i64 9) ∧ Below w.heap.size w w' := by
  have h := check_any (⟨#[52, 49, 49, 49, 49, 49, 49, 49, 49, 49, 49, 49, 49, 49, 49, 50]⟩ : ByteArray) (by decide +kernel) w
  rw [c15_0] at h
  exact h
theorem c17_0 : mkP (⟨#[52, 48, 48, 48, 48, 48, 48, 48, 48, 48, 48, 48, 48, 48, 55, 55]⟩ : ByteArray) = ⟨#[52, 48, 48, 48, 48, 48, 42, 42, 42, 42, 42, 42, 48, 48, 55, 55]⟩ := ls_ext (by unfold mkP chkP; rw [luhB_L]; decide +kernel)
theorem c17 (w : World) : Calls Tryd.prog 17 #[.string ⟨#[52, 48, 48, 48, 48, 48, 48, 48, 48, 48, 48, 48, 48, 48, 55, 55]⟩] w fun e w' => e = .returned (.string ⟨#[52, 48, 48, 48, 48, 48, 42, 42, 42, 42, 42, 42, 48, 48, 55, 55]⟩) ∧ Below w.heap.size w w' := by
  have h := mask_any (⟨#[52, 48, 48, 48, 48, 48, 48, 48, 48, 48, 48, 48, 48, 48, 55, 55]⟩ : ByteArray) (by decide +kernel) w
  rw [c17_0] at h
  exact h
theorem c19_0 : grB (⟨#[52, 48, 48, 48, 48, 48, 48, 48, 48, 48, 48, 48, 48, 48, 55, 55]⟩ : ByteArray) (ByteArray.size (⟨#[52, 48, 48, 48, 48, 48, 48, 48, 48, 48, 48, 48, 48, 48, 55, 55]⟩ : ByteArray)) = ⟨#[52, 48, 48, 48, 32, 48, 48, 48, 48, 32, 48, 48, 48, 48, 32, 48, 48, 55, 55]⟩ := ls_ext (by decide +kernel)
theorem c19 (w : World) : Calls Tryd.prog 19 #[.string ⟨#[52, 48, 48, 48, 48, 48, 48, 48, 48, 48, 48, 48, 48, 48, 55, 55]⟩] w fun e w' => e = .returned (.string ⟨#[52, 48, 48, 48, 32, 48, 48, 48, 48, 32, 48, 48, 48, 48, 32, 48, 48, 55, 55]⟩) ∧ Below w.heap.size w w' := by
  have h := group_any (⟨#[52, 48, 48, 48, 48, 48, 48, 48, 48, 48, 48, 48, 48, 48, 55, 55]⟩ : ByteArray) (by decide +kernel) w
  rw [c19_0] at h
  exact h
theorem c25_0 : winB (⟨#[52, 48, 48, 48, 48, 48, 48, 48, 48, 48, 48, 48, 48, 48, 55, 55]⟩ : ByteArray) (⟨#[51, 57, 57, 57, 57, 57]⟩ : ByteArray) (⟨#[52, 48, 48, 48, 48, 48]⟩ : ByteArray) = true := by unfold winB leB; rw [ByteArray.toList_eq, ByteArray.toList_eq, ByteArray.toList_eq]; decide +kernel
theorem c25 (w : World) : Calls Tryd.prog 25 #[.string ⟨#[52, 48, 48, 48, 48, 48, 48, 48, 48, 48, 48, 48, 48, 48, 55, 55]⟩, .string ⟨#[51, 57, 57, 57, 57, 57]⟩, .string ⟨#[52, 48, 48, 48, 48, 48]⟩] w fun e w' => e = .returned (.bool true) ∧ Below w.heap.size w w' := by
  have h := within_any (⟨#[52, 48, 48, 48, 48, 48, 48, 48, 48, 48, 48, 48, 48, 48, 55, 55]⟩ : ByteArray) (⟨#[51, 57, 57, 57, 57, 57]⟩ : ByteArray) (⟨#[52, 48, 48, 48, 48, 48]⟩ : ByteArray) (by decide +kernel) (by decide +kernel) (by decide +kernel) w
  rw [c25_0] at h
  exact h.mono fun e w' ⟨a, b⟩ => ⟨a, b ▸ Below.refl _ _⟩
set_option maxHeartbeats 2000000 in
set_option maxRecDepth 20000 in
theorem awake_any (w : World) (hT : TabP w) : Calls Tryd.prog 10 #[] w fun e w' => e = .returned (.bool true) ∧ Below w.heap.size w w' := by
  have HT := Lib.hid hT
  have Hc11 := Lib.hid c11
  have Hc21 := Lib.hid c21
  have Hc23 := Lib.hid c23
  have Hc27a := Lib.hid c27a
  have Hc27b := Lib.hid c27b
  have Hc13a := Lib.hid c13a
  have Hc13b := Lib.hid c13b
  have Hc15 := Lib.hid c15
  have Hc17 := Lib.hid c17
  have Hc19 := Lib.hid c19
  have Hc25 := Lib.hid c25
  clear hT
  go_enter Tryd.func10, Tryd.ntmps10
  go_wp2_with fail
  refine (Hc11.out _).mono ?_
  rintro e w1 ⟨rfl, hb⟩
  have B1 := Lib.hid (below_call (Below.refl w.heap.size w) hb)
  clear hb
  go_wp2_with fail
  refine (Hc21.out _ (HT.out.call B1.out)).mono ?_
  rintro e w2 ⟨rfl, hb⟩
  have B2 := Lib.hid (below_call B1.out hb)
  clear hb
  go_wp2_with fail
  refine (Hc23.out _).mono ?_
  rintro e w3 ⟨rfl, hb⟩
  have B3 := Lib.hid (below_call B2.out hb)
  clear hb
  go_wp2_with fail
  refine (Hc27a.out _).mono ?_
  rintro e w4 ⟨rfl, hb⟩
  have B4 := Lib.hid (below_call B3.out hb)
  clear hb
  go_wp2_with fail
  refine (Hc27b.out _).mono ?_
  rintro e w5 ⟨rfl, hb⟩
  have B5 := Lib.hid (below_call B4.out hb)
  clear hb
  go_wp2_with fail
  refine (Hc13a.out _).mono ?_
  rintro e w6 ⟨rfl, hb⟩
  have B6 := Lib.hid (below_call B5.out hb)
  clear hb
  go_wp2_with fail
  refine (Hc13b.out _).mono ?_
  rintro e w7 ⟨rfl, hb⟩
  have B7 := Lib.hid (below_call B6.out hb)
  clear hb
  go_wp2_with fail
  refine (Hc15.out _).mono ?_
  rintro e w8 ⟨rfl, hb⟩
  have B8 := Lib.hid (below_call B7.out hb)
  clear hb
  go_wp2_with fail
  refine (Hc17.out _).mono ?_
  rintro e w9 ⟨rfl, hb⟩
  have B9 := Lib.hid (below_call B8.out hb)
  clear hb
  go_wp2_with fail
  refine (Hc19.out _).mono ?_
  rintro e w10 ⟨rfl, hb⟩
  have B10 := Lib.hid (below_call B9.out hb)
  clear hb
  go_wp2_with fail
  refine (Hc25.out _).mono ?_
  rintro e w11 ⟨rfl, hb⟩
  have B11 := Lib.hid (below_call B10.out hb)
  clear hb
  go_wp2_with fail
  go_ret
  exact ⟨rfl, B11.out⟩
end Go.Proofs.YtagfimemiggnlaaDoor
