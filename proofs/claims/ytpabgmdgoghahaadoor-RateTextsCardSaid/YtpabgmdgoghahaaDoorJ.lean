/- The example of the chapter: Format, Cross, awake. -/
import Derived.Test.YtpabgmdgoghahaaDoorI
import Derived.Lib.QuietBelow
import Derived.StillTailTactics
set_option linter.unusedVariables false
set_option linter.unusedSimpArgs false
namespace Go.Proofs.YtpabgmdgoghahaaDoor
open Go.Sort Go.ChangeShapes Go.WideShapes Go.ChangeAt Go.RowKit
theorem parts_s : Parts 9 10 5 6 9 10 5 6 3 2 1 2 := by
  constructor <;> decide +kernel
theorem cross_s (w : World) : Calls Tryd.prog 21 #[rt ⟨#[85, 83, 68]⟩ ⟨#[69, 85, 82]⟩ 9 10, rt ⟨#[69, 85, 82]⟩ ⟨#[71, 66, 80]⟩ 5 6] w fun e w' => e = .returned (.tuple #[rt ⟨#[85, 83, 68]⟩ ⟨#[71, 66, 80]⟩ 3 4, .int .i64 0]) ∧ Below w.heap.size w w' :=
  cross_5 ⟨#[85, 83, 68]⟩ ⟨#[69, 85, 82]⟩ ⟨#[69, 85, 82]⟩ ⟨#[71, 66, 80]⟩ 9 10 5 6 w (by decide) (by decide) (by decide) (by decide) (by decide +kernel) (by decide +kernel) (by decide +kernel) (by decide +kernel) parts_s (by decide +kernel)
theorem dd : ∀ i, i < 10 → Lib.decDigits i = [(48 + i).toUInt8] := by decide +kernel
theorem fi_s (i : Nat) (hi : i < 10) (w : World) : Calls Tryd.prog 33 #[.int .i64 i, .int .i64 10] w fun e w' => e = .returned (.string ⟨#[(48 + i).toUInt8]⟩) ∧ w' = w := by
  have h : ∀ w, Calls Tryd.prog 45 #[.int .i64 i, .int .i64 10] w fun e w' => e = .returned (.string ⟨#[(48 + i).toUInt8]⟩) ∧ w' = w := fun w =>
    (Tryd.internal_strconv_FormatInt_10_small i (by omega) w).mono fun e w' ⟨he, hw⟩ => ⟨he.trans (by rw [dd i hi]), hw⟩
  have H := Lib.hid h
  clear h
  generalize (48 + i).toUInt8 = c at *
  go_enter Tryd.func33, Tryd.ntmps33
  go_wp2_with fail
  refine (H.out _).mono ?_
  rintro e w1 ⟨rfl, rfl⟩
  go_wp2_with fail
  go_ret
  exact ⟨rfl, rfl⟩
theorem rate_q (w : World) : Calls Tryd.prog 13 #[rt ⟨#[85, 83, 68]⟩ ⟨#[71, 66, 80]⟩ 3 4] w fun e w' => e = .returned (.int .i64 0) ∧ Below w.heap.size w w' := by
  have := check_any ⟨#[85, 83, 68]⟩ ⟨#[71, 66, 80]⟩ 3 4 w (by decide) (by decide)
  rw [show chkR ⟨#[85, 83, 68]⟩ ⟨#[71, 66, 80]⟩ 3 4 = 0 from by decide +kernel] at this
  exact this
set_option maxHeartbeats 1000000 in
set_option maxRecDepth 20000 in
theorem format_s (w : World) : Calls Tryd.prog 15 #[rt ⟨#[85, 83, 68]⟩ ⟨#[71, 66, 80]⟩ 3 4] w fun e w' => e = .returned (.string ⟨#[85, 83, 68, 47, 71, 66, 80, 32, 51, 47, 52]⟩) ∧ Below w.heap.size w w' := by
  have HC := Lib.hid rate_q
  have h3 : ∀ w, Calls Tryd.prog 33 #[.int .i64 3, .int .i64 10] w fun e w' => e = .returned (.string ⟨#[51]⟩) ∧ w' = w := fi_s 3 (by decide)
  have h4 : ∀ w, Calls Tryd.prog 33 #[.int .i64 4, .int .i64 10] w fun e w' => e = .returned (.string ⟨#[52]⟩) ∧ w' = w := fi_s 4 (by decide)
  have H3 := Lib.hid h3
  have H4 := Lib.hid h4
  clear h3 h4
  unfold rt at *
  go_enter Tryd.func15, Tryd.ntmps15
  go_wp2_with fail
  refine (HC.out _).mono ?_
  rintro e w1 ⟨rfl, hb⟩
  obtain ⟨d1, o1, rfl⟩ := regrow_of hb
  clear hb
  go_wp2_with fail
  have hw := Lib.hid (bre (w := w) (al (o := .cells #[.string ⟨#[85, 83, 68]⟩, .string ⟨#[71, 66, 80]⟩, .int .i64 3, .int .i64 4] 23) (Below.refl _ w)) d1 o1)
  have hk := Lib.hid ((Blk.new w 23 #[.string ⟨#[85, 83, 68]⟩, .string ⟨#[71, 66, 80]⟩, .int .i64 3, .int .i64 4]).call (below_regrown _ d1 o1))
  generalize grow (redrawn (w.alloc (.cells #[.string ⟨#[85, 83, 68]⟩, .string ⟨#[71, 66, 80]⟩, .int .i64 3, .int .i64 4] 23)) d1) o1 = W at *
  refine wp_region_still_tail 16 (by kernel_rfl) (by kernel_rfl) ?_
  change wpStill _ _ W.drew _ _ _
  have q0 : W.drew.cell? ⟨w.heap.size, 0, none⟩ = some (.string ⟨#[85, 83, 68]⟩) := hk.out.cell 0
  have q1 : W.drew.cell? ⟨w.heap.size, 1, none⟩ = some (.string ⟨#[71, 66, 80]⟩) := hk.out.cell 1
  have q2 : W.drew.cell? ⟨w.heap.size, 2, none⟩ = some (.int .i64 3) := hk.out.cell 2
  have q3 : W.drew.cell? ⟨w.heap.size, 3, none⟩ = some (.int .i64 4) := hk.out.cell 3
  simp only [List.take_succ_cons, List.take_zero, List.drop_succ_cons, List.drop_zero]
  repeat (first | still_step | still_call (H3.out _) | still_call (H4.out _))
  refine wpStill_nil ?_
  change wpList _ _ _ _ _ W.drew
  go_wp2_with fail
  go_ret
  exact ⟨rfl, hw.out.drew⟩
end Go.Proofs.YtpabgmdgoghahaaDoor
