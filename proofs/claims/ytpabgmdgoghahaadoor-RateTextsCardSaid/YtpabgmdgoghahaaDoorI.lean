/- The example of the chapter: awake. -/
import Derived.Test.YtpabgmdgoghahaaDoorH
set_option linter.unusedVariables false
set_option linter.unusedSimpArgs false
namespace Go.Proofs.YtpabgmdgoghahaaDoor
open Go.Sort Go.ChangeShapes Go.WideShapes Go.ChangeAt Go.RowKit
def mo (a : Int) (c : ByteArray) : Value := .agg #[.int .i64 a, .string c]
theorem cur_yes (s : ByteArray) (hs : s.size ≤ maxLen) (h : curL s.data.toList = true) (w : World) :
    Calls Tryd.prog 30 #[.string s] w fun e w' => e = .returned (.bool true) ∧ w = w' := by
  have := cur_any s w hs
  rw [h] at this
  exact this
theorem mcheck_s (w : World) : Calls Tryd.prog 34 #[mo 1000 ⟨#[85, 83, 68]⟩] w fun e w' => e = .returned (.int .i64 0) ∧ Below w.heap.size w w' := by
  have HC := Lib.hid (cur_yes ⟨#[85, 83, 68]⟩ (by decide) (by decide))
  unfold mo
  go_enter Tryd.func34, Tryd.ntmps34
  go_wp2_with fail
  refine (HC.out _).mono ?_
  rintro e w1 ⟨rfl, rfl⟩
  go_wp2_with fail
  go_ret
  exact ⟨rfl, al (Below.refl _ _)⟩
theorem magn_s (a : Int) (h0 : 0 ≤ a) (h1 : a ≤ 4503599627370496) (w : World) : Calls Tryd.prog 47 #[.int .i64 a] w fun e w' => e = .returned (.int .u64 a) ∧ w = w' := by
  go_enter Tryd.func47, Tryd.ntmps47
  go_wp2_with fail
  go_ret
  exact ⟨rfl, rfl⟩
theorem div_any (a b : Int) (w : World) (a0 : 0 ≤ a) (a1 : a ≤ 18446744073709551615) (b0 : 1 ≤ b) (b1 : b ≤ 18446744073709551615) : Calls Tryd.prog 48 #[.int .u64 0, .int .u64 a, .int .u64 b] w fun e w' => e = .returned (.tuple #[.int .u64 (a / b), .int .u64 (a % b)]) ∧ Below w.heap.size w w' := by
  have z1 : (b == 0) = false := beq_eq_false_iff_ne.2 (by omega)
  go_enter Tryd.func48, Tryd.ntmps48
  go_wp2_with fail
  go_region
  go_wp2_with fail
  go_ret2
  exact ⟨rfl, (Below.refl _ _).drew⟩
theorem div_s (w : World) : Calls Tryd.prog 48 #[.int .u64 0, .int .u64 3021000, .int .u64 20] w fun e w' => e = .returned (.tuple #[.int .u64 151050, .int .u64 0]) ∧ Below w.heap.size w w' := div_any 3021000 20 w (by decide) (by decide) (by decide) (by decide)
theorem up_s (w : World) : Calls Tryd.prog 49 #[.int .u64 151050, .int .u64 0, .int .u64 20, .int .i64 1] w fun e w' => e = .returned (.bool false) ∧ w = w' := by
  go_enter Tryd.func49, Tryd.ntmps49
  go_wp2_with fail
  go_ret
  exact ⟨rfl, rfl⟩
theorem mul_s (w : World) : Calls Tryd.prog 46 #[.int .u64 1000, .int .u64 3021] w fun e w' => e = .returned (.tuple #[.int .u64 0, .int .u64 3021000]) ∧ w' = w := Tryd.bits_Mul64 1000 3021 (by decide) (by decide) w
set_option maxHeartbeats 1000000 in
theorem scale_s (w : World) : Calls Tryd.prog 35 #[mo 1000 ⟨#[85, 83, 68]⟩, .int .i64 3021, .int .i64 20, .int .i64 1] w fun e w' => e = .returned (.tuple #[mo 151050 ⟨#[85, 83, 68]⟩, .int .i64 0]) ∧ Below w.heap.size w w' := by
  have HC := Lib.hid mcheck_s
  have H1 := Lib.hid (magn_s 1000 (by decide) (by decide))
  have H2 := Lib.hid (magn_s 3021 (by decide) (by decide))
  have HM := Lib.hid mul_s
  have HD := Lib.hid div_s
  have HU := Lib.hid up_s
  unfold mo at *
  go_enter Tryd.func35, Tryd.ntmps35
  go_wp2_with fail
  refine (HC.out _).mono ?_
  rintro e w1 ⟨rfl, hb⟩
  obtain ⟨d1, o1, rfl⟩ := regrow_of hb
  clear hb
  go_wp2_with fail
  refine (H1.out _).mono ?_
  rintro e w2 ⟨rfl, rfl⟩
  go_wp2_with fail
  refine (H2.out _).mono ?_
  rintro e w2 ⟨rfl, rfl⟩
  go_wp2_with fail
  refine (HM.out _).mono ?_
  rintro e w2 ⟨rfl, rfl⟩
  go_wp2_with fail
  refine (HD.out _).mono ?_
  rintro e w1 ⟨rfl, hb⟩
  obtain ⟨d2, o2, rfl⟩ := regrow_of hb
  clear hb
  go_wp2_with fail
  refine (HU.out _).mono ?_
  rintro e w2 ⟨rfl, rfl⟩
  go_wp2_with fail
  exact bodyPost_ret (v := .tuple #[.agg #[.int .i64 151050, .string ⟨#[85, 83, 68]⟩], .int .i64 0]) (by simp [results, Tryd.results35, go_sem]) rfl ⟨rfl, bre (al (al (Below.refl _ _))) _ _⟩
theorem rate_s (w : World) : Calls Tryd.prog 13 #[rt ⟨#[85, 83, 68]⟩ ⟨#[74, 80, 89]⟩ 3021 20] w fun e w' => e = .returned (.int .i64 0) ∧ Below w.heap.size w w' := by
  have := check_any ⟨#[85, 83, 68]⟩ ⟨#[74, 80, 89]⟩ 3021 20 w (by decide) (by decide)
  rw [show chkR ⟨#[85, 83, 68]⟩ ⟨#[74, 80, 89]⟩ 3021 20 = 0 from by decide +kernel] at this
  exact this
set_option maxHeartbeats 1000000 in
theorem conv_s (w : World) : Calls Tryd.prog 17 #[mo 1000 ⟨#[85, 83, 68]⟩, rt ⟨#[85, 83, 68]⟩ ⟨#[74, 80, 89]⟩ 3021 20, .int .i64 1] w fun e w' => e = .returned (.tuple #[mo 151050 ⟨#[74, 80, 89]⟩, .int .i64 0]) ∧ Below w.heap.size w w' := by
  have HC := Lib.hid mcheck_s
  have HR := Lib.hid rate_s
  have HS := Lib.hid scale_s
  have heq : ((⟨#[85, 83, 68]⟩ : ByteArray).toList == (⟨#[85, 83, 68]⟩ : ByteArray).toList) = true := by decide +kernel
  unfold mo rt at *
  go_enter Tryd.func17, Tryd.ntmps17
  go_wp2_with fail
  refine (HC.out _).mono ?_
  rintro e w1 ⟨rfl, hb⟩
  obtain ⟨d1, o1, rfl⟩ := regrow_of hb
  clear hb
  go_wp2_with fail
  refine (HR.out _).mono ?_
  rintro e w1 ⟨rfl, hb⟩
  obtain ⟨d2, o2, rfl⟩ := regrow_of hb
  clear hb
  go_wp2_with fail
  refine (HS.out _).mono ?_
  rintro e w1 ⟨rfl, hb⟩
  obtain ⟨d3, o3, rfl⟩ := regrow_of hb
  clear hb
  go_wp2_with fail
  exact bodyPost_ret (v := .tuple #[.agg #[.int .i64 151050, .string ⟨#[74, 80, 89]⟩], .int .i64 0]) (by simp [results, Tryd.results17, go_sem]) rfl ⟨rfl, al (bre (al (al (al (Below.refl _ _)))) _ _)⟩
end Go.Proofs.YtpabgmdgoghahaaDoor
