/- Decode at the examples. -/
import Derived.Test.YtjkfckkmofcpdaaDoorEe
set_option linter.unusedVariables false
set_option linter.unusedSimpArgs false
namespace Go.Proofs.YtjkfckkmofcpdaaDoor
open Go.Sort Go.ChangeShapes Go.WideShapes Go.ChangeAt Go.RowKit
set_option maxHeartbeats 4000000 in
set_option maxRecDepth 20000 in
theorem decode_ex1 (w : World) (hX : DT w) : Calls Tryd.prog 22 #[.int .i64 42, .string ⟨#[48, 53, 83, 72, 79, 80, 49, 114, 101, 115, 116]⟩] w fun e w' => e = .returned (.tuple #[.string ⟨#[83, 72, 79, 80, 49]⟩, .string ⟨#[114, 101, 115, 116]⟩, .int .i64 0]) ∧ Below w.heap.size w w' := by
  have hf := find_any 42 w hX
  rw [show fdI 42 = 12 by decide +kernel, show spA 12 = #[.int .i64 42, .string ⟨#[109, 101, 114, 99, 104, 97, 110, 116]⟩, .int .i64 2, .int .i64 16, .int .i64 2] from rfl] at hf
  simp only [decide_eq_true (show 12 < 23 by decide)] at hf
  have HFd := Lib.hid hf
  have HR := Lib.hid (fun w => rl_any ⟨#[48, 53, 83, 72, 79, 80, 49, 114, 101, 115, 116]⟩ (by decide) 42 ⟨#[109, 101, 114, 99, 104, 97, 110, 116]⟩ 2 16 2 (by decide) (by decide) w)
  rw [show rlN ⟨#[48, 53, 83, 72, 79, 80, 49, 114, 101, 115, 116]⟩ 16 2 = 5 by decide +kernel, show rlE ⟨#[48, 53, 83, 72, 79, 80, 49, 114, 101, 115, 116]⟩ 16 2 = 0 by decide +kernel, show ((2 : Nat) : Int) = 2 from rfl] at HR
  have HC := Lib.hid (fun w h => check_any 42 ⟨#[83, 72, 79, 80, 49]⟩ (by decide) w h)
  rw [show ckE 42 ⟨#[83, 72, 79, 80, 49]⟩ = 0 by decide +kernel] at HC
  have q1 := fun w => cut_lh ⟨#[48, 53, 83, 72, 79, 80, 49, 114, 101, 115, 116]⟩ 2 7 (by decide) (by decide) w
  rw [show (⟨#[48, 53, 83, 72, 79, 80, 49, 114, 101, 115, 116]⟩ : ByteArray).extract 2 7 = ⟨#[83, 72, 79, 80, 49]⟩ by decide +kernel] at q1
  have q2 := fun w => cut_l ⟨#[48, 53, 83, 72, 79, 80, 49, 114, 101, 115, 116]⟩ 7 (by decide) w
  rw [show (⟨#[48, 53, 83, 72, 79, 80, 49, 114, 101, 115, 116]⟩ : ByteArray).extract 7 (⟨#[48, 53, 83, 72, 79, 80, 49, 114, 101, 115, 116]⟩ : ByteArray).size = ⟨#[114, 101, 115, 116]⟩ by decide +kernel] at q2
  have hz : (⟨#[48, 53, 83, 72, 79, 80, 49, 114, 101, 115, 116]⟩ : ByteArray).size = 11 := rfl
  have HX := Lib.hid hX
  simp only [show ((2 : Nat) : Int) = 2 from rfl, show ((7 : Nat) : Int) = 7 from rfl] at q1 q2
  generalize (⟨#[48, 53, 83, 72, 79, 80, 49, 114, 101, 115, 116]⟩ : ByteArray) = S at *
  clear hf hX
  go_enter Tryd.func22, Tryd.ntmps22
  go_wp2_with fail
  refine HFd.out.mono ?_
  rintro e w1 ⟨rfl, hb⟩
  have HB1 := Lib.hid (hb.alloc hb.size (.cells #[.int .i64 42, .string ⟨#[109, 101, 114, 99, 104, 97, 110, 116]⟩, .int .i64 2, .int .i64 16, .int .i64 2] 23))
  have HN := Lib.hid (Blk.new w1 23 #[.int .i64 42, .string ⟨#[109, 101, 114, 99, 104, 97, 110, 116]⟩, .int .i64 2, .int .i64 16, .int .i64 2])
  clear hb
  go_wp2_with fail
  go_quiet (fail)
  obtain ⟨W2, hW2⟩ : ∃ W2, W2 = (w1.alloc (.cells #[.int .i64 42, .string ⟨#[109, 101, 114, 99, 104, 97, 110, 116]⟩, .int .i64 2, .int .i64 16, .int .i64 2] 23)).drewN nq := ⟨_, rfl⟩
  rw [← hW2]
  have HB2 := Lib.hid (show Below w.heap.size w W2 by rw [hW2]; exact HB1.out.trans ⟨rfl, rfl, rfl, Nat.le_refl _, fun _ _ => rfl⟩)
  have HN2 : Hid (Blk W2 w1.heap.size 23 #[.int .i64 42, .string ⟨#[109, 101, 114, 99, 104, 97, 110, 116]⟩, .int .i64 2, .int .i64 16, .int .i64 2]) := Lib.hid (by rw [hW2]; exact HN.out)
  clear hW2
  have r0 : W2.cell? ⟨w1.heap.size, 0, none⟩ = some (.int .i64 42) := HN2.out.cell 0
  have r1 : W2.cell? ⟨w1.heap.size, 1, none⟩ = some (.string ⟨#[109, 101, 114, 99, 104, 97, 110, 116]⟩) := HN2.out.cell 1
  have r2 : W2.cell? ⟨w1.heap.size, 2, none⟩ = some (.int .i64 2) := HN2.out.cell 2
  have r3 : W2.cell? ⟨w1.heap.size, 3, none⟩ = some (.int .i64 16) := HN2.out.cell 3
  have r4 : W2.cell? ⟨w1.heap.size, 4, none⟩ = some (.int .i64 2) := HN2.out.cell 4
  have rl := HN2.out.lt
  go_wp2_with fail
  refine (HR.out _).mono ?_
  rintro e w3 ⟨rfl, hb⟩
  have HB3 := Lib.hid (below_call HB2.out hb)
  clear hb
  go_wp2_with fail
  go_quiet (fail)
  go_wp2_with fail
  refine (HC.out _ (HX.out.call (bdn HB3.out nq))).mono ?_
  rintro e w4 ⟨rfl, hb⟩
  have HB4 := Lib.hid (below_call (bdn HB3.out nq) hb)
  clear hb
  go_wp2_with fail
  exact bodyPost_ret (v := .tuple #[.string ⟨#[83, 72, 79, 80, 49]⟩, .string ⟨#[114, 101, 115, 116]⟩, .int .i64 0]) (by simp [results, Tryd.results22, go_sem]) rfl ⟨rfl, HB4.out⟩
set_option maxHeartbeats 4000000 in
set_option maxRecDepth 20000 in
theorem decode_ex2 (w : World) (hX : DT w) : Calls Tryd.prog 22 #[.int .i64 42, .string ⟨#[48, 48]⟩] w fun e w' => e = .returned (.tuple #[.string ⟨#[]⟩, .string ⟨#[]⟩, .int .i64 1]) ∧ Below w.heap.size w w' := by
  have hf := find_any 42 w hX
  rw [show fdI 42 = 12 by decide +kernel, show spA 12 = #[.int .i64 42, .string ⟨#[109, 101, 114, 99, 104, 97, 110, 116]⟩, .int .i64 2, .int .i64 16, .int .i64 2] from rfl] at hf
  simp only [decide_eq_true (show 12 < 23 by decide)] at hf
  have HFd := Lib.hid hf
  have HR := Lib.hid (fun w => rl_any ⟨#[48, 48]⟩ (by decide) 42 ⟨#[109, 101, 114, 99, 104, 97, 110, 116]⟩ 2 16 2 (by decide) (by decide) w)
  rw [show rlN ⟨#[48, 48]⟩ 16 2 = 0 by decide +kernel, show rlE ⟨#[48, 48]⟩ 16 2 = 0 by decide +kernel, show ((2 : Nat) : Int) = 2 from rfl] at HR
  have HC := Lib.hid (fun w h => check_any 42 ⟨#[]⟩ (by decide) w h)
  rw [show ckE 42 ⟨#[]⟩ = 1 by decide +kernel] at HC
  have q1 := fun w => cut_lh ⟨#[48, 48]⟩ 2 2 (by decide) (by decide) w
  rw [show (⟨#[48, 48]⟩ : ByteArray).extract 2 2 = ⟨#[]⟩ by decide +kernel] at q1
  have q2 := fun w => cut_l ⟨#[48, 48]⟩ 2 (by decide) w
  rw [show (⟨#[48, 48]⟩ : ByteArray).extract 2 (⟨#[48, 48]⟩ : ByteArray).size = ⟨#[]⟩ by decide +kernel] at q2
  have hz : (⟨#[48, 48]⟩ : ByteArray).size = 2 := rfl
  have HX := Lib.hid hX
  simp only [show ((2 : Nat) : Int) = 2 from rfl, show ((2 : Nat) : Int) = 2 from rfl] at q1 q2
  generalize (⟨#[48, 48]⟩ : ByteArray) = S at *
  clear hf hX
  go_enter Tryd.func22, Tryd.ntmps22
  go_wp2_with fail
  refine HFd.out.mono ?_
  rintro e w1 ⟨rfl, hb⟩
  have HB1 := Lib.hid (hb.alloc hb.size (.cells #[.int .i64 42, .string ⟨#[109, 101, 114, 99, 104, 97, 110, 116]⟩, .int .i64 2, .int .i64 16, .int .i64 2] 23))
  have HN := Lib.hid (Blk.new w1 23 #[.int .i64 42, .string ⟨#[109, 101, 114, 99, 104, 97, 110, 116]⟩, .int .i64 2, .int .i64 16, .int .i64 2])
  clear hb
  go_wp2_with fail
  go_quiet (fail)
  obtain ⟨W2, hW2⟩ : ∃ W2, W2 = (w1.alloc (.cells #[.int .i64 42, .string ⟨#[109, 101, 114, 99, 104, 97, 110, 116]⟩, .int .i64 2, .int .i64 16, .int .i64 2] 23)).drewN nq := ⟨_, rfl⟩
  rw [← hW2]
  have HB2 := Lib.hid (show Below w.heap.size w W2 by rw [hW2]; exact HB1.out.trans ⟨rfl, rfl, rfl, Nat.le_refl _, fun _ _ => rfl⟩)
  have HN2 : Hid (Blk W2 w1.heap.size 23 #[.int .i64 42, .string ⟨#[109, 101, 114, 99, 104, 97, 110, 116]⟩, .int .i64 2, .int .i64 16, .int .i64 2]) := Lib.hid (by rw [hW2]; exact HN.out)
  clear hW2
  have r0 : W2.cell? ⟨w1.heap.size, 0, none⟩ = some (.int .i64 42) := HN2.out.cell 0
  have r1 : W2.cell? ⟨w1.heap.size, 1, none⟩ = some (.string ⟨#[109, 101, 114, 99, 104, 97, 110, 116]⟩) := HN2.out.cell 1
  have r2 : W2.cell? ⟨w1.heap.size, 2, none⟩ = some (.int .i64 2) := HN2.out.cell 2
  have r3 : W2.cell? ⟨w1.heap.size, 3, none⟩ = some (.int .i64 16) := HN2.out.cell 3
  have r4 : W2.cell? ⟨w1.heap.size, 4, none⟩ = some (.int .i64 2) := HN2.out.cell 4
  have rl := HN2.out.lt
  go_wp2_with fail
  refine (HR.out _).mono ?_
  rintro e w3 ⟨rfl, hb⟩
  have HB3 := Lib.hid (below_call HB2.out hb)
  clear hb
  go_wp2_with fail
  go_quiet (fail)
  go_wp2_with fail
  refine (HC.out _ (HX.out.call (bdn HB3.out nq))).mono ?_
  rintro e w4 ⟨rfl, hb⟩
  have HB4 := Lib.hid (below_call (bdn HB3.out nq) hb)
  clear hb
  go_wp2_with fail
  exact bodyPost_ret (v := .tuple #[.string ⟨#[]⟩, .string ⟨#[]⟩, .int .i64 1]) (by simp [results, Tryd.results22, go_sem]) rfl ⟨rfl, HB4.out⟩
end Go.Proofs.YtjkfckkmofcpdaaDoor
