/- The examples hold. -/
import Derived.Test.YtjkfckkmofcpdaaDoorEf
set_option linter.unusedVariables false
set_option linter.unusedSimpArgs false
namespace Go.Proofs.YtjkfckkmofcpdaaDoor
open Go.Sort Go.ChangeShapes Go.WideShapes Go.ChangeAt Go.RowKit
set_option maxHeartbeats 8000000 in
set_option maxRecDepth 20000 in
theorem awake_any (w : World) (hX : DT w) (hT : TabP w) : Calls Tryd.prog 18 #[] w fun e w' => e = .returned (.bool true) ∧ Below w.heap.size w w' := by
  have HX := Lib.hid hX
  have HT := Lib.hid hT
  have E1 := Lib.hid (fun w h t => encode_any 2 ⟨#[52, 49, 49, 49, 49, 49, 49, 49, 49, 49, 49, 49, 49, 49, 49, 49]⟩ (by decide) w h t)
  rw [show enV 2 ⟨#[52, 49, 49, 49, 49, 49, 49, 49, 49, 49, 49, 49, 49, 49, 49, 49]⟩ = ⟨#[49, 54, 52, 49, 49, 49, 49, 49, 49, 49, 49, 49, 49, 49, 49, 49, 49, 49]⟩ by decide +kernel, show enE 2 ⟨#[52, 49, 49, 49, 49, 49, 49, 49, 49, 49, 49, 49, 49, 49, 49, 49]⟩ = 0 by decide +kernel] at E1
  have E2 := Lib.hid (fun w h t => encode_any 41 ⟨#[84, 49]⟩ (by decide) w h t)
  rw [show enV 41 ⟨#[84, 49]⟩ = ⟨#[84, 49, 32, 32, 32, 32, 32, 32]⟩ by decide +kernel, show enE 41 ⟨#[84, 49]⟩ = 0 by decide +kernel] at E2
  have D1 := Lib.hid (fun w h => decode_ex1 w h)
  have D2 := Lib.hid (fun w h => decode_ex2 w h)
  have F1 := Lib.hid (fun w h => find_any 48 w h)
  rw [show fdI 48 = 13 by decide +kernel, show spA 13 = #[.int .i64 48, .string ⟨#[101, 120, 116, 114, 97]⟩, .int .i64 2, .int .i64 255, .int .i64 3] from rfl] at F1
  simp only [decide_eq_true (show 13 < 23 by decide)] at F1
  have N1 := Lib.hid (fun w h => byname_any ⟨#[99, 114, 121, 112, 116, 111, 103, 114, 97, 109]⟩ w h)
  rw [show fmI ⟨#[99, 114, 121, 112, 116, 111, 103, 114, 97, 109]⟩ = 15 by decide +kernel, show dn 15 = 52 from rfl] at N1
  simp only [decide_eq_true (show 15 < 23 by decide)] at N1
  have C1 := Lib.hid (fun w h => check_any 52 ⟨#[48, 49, 50, 51, 52, 53, 54, 55, 56, 57, 65, 66, 67, 68, 69, 70]⟩ (by decide) w h)
  rw [show ckE 52 ⟨#[48, 49, 50, 51, 52, 53, 54, 55, 56, 57, 65, 66, 67, 68, 69, 70]⟩ = 2 by decide +kernel] at C1
  have C2 := Lib.hid (fun w h => check_any 5 ⟨#[49]⟩ (by decide) w h)
  rw [show ckE 5 ⟨#[49]⟩ = 6 by decide +kernel] at C2
  have R1 := Lib.hid (fun w => req16_any 810 w)
  rw [show rqL 810 = [11, 39] by decide +kernel] at R1
  have S1 := Lib.hid (fun u v w h1 h2 => same_any u v [11, 39] (by decide) w h1 h2)
  clear hX hT
  go_enter Tryd.func18, Tryd.ntmps18
  go_wp2_with fail
  refine (E1.out _ (HX.out.call (Below.refl w.heap.size w)) (HT.out.call (Below.refl w.heap.size w))).mono ?_
  rintro e w1 ⟨rfl, hb⟩
  have B1 := Lib.hid (below_call (Below.refl w.heap.size w) hb)
  clear hb
  go_wp2_with fail
  refine (E2.out _ (HX.out.call (B1.out)) (HT.out.call (B1.out))).mono ?_
  rintro e w2 ⟨rfl, hb⟩
  have B2 := Lib.hid (below_call (B1.out) hb)
  clear hb
  go_wp2_with fail
  refine (D1.out _ (HX.out.call (B2.out))).mono ?_
  rintro e w3 ⟨rfl, hb⟩
  have B3 := Lib.hid (below_call (B2.out) hb)
  clear hb
  go_wp2_with fail
  refine (D2.out _ (HX.out.call (B3.out))).mono ?_
  rintro e w4 ⟨rfl, hb⟩
  have B4 := Lib.hid (below_call (B3.out) hb)
  clear hb
  go_wp2_with fail
  refine (F1.out _ (HX.out.call (B4.out))).mono ?_
  rintro e w5 ⟨rfl, hb⟩
  have B5 := Lib.hid (below_call (B4.out) hb)
  have HN := Lib.hid (Blk.new w5 23 #[.int .i64 48, .string ⟨#[101, 120, 116, 114, 97]⟩, .int .i64 2, .int .i64 255, .int .i64 3])
  clear hb
  go_wp2_with fail
  refine (N1.out _ (HX.out.call ((B5.out.alloc B5.out.size (.cells #[.int .i64 48, .string ⟨#[101, 120, 116, 114, 97]⟩, .int .i64 2, .int .i64 255, .int .i64 3] 23))))).mono ?_
  rintro e w6 ⟨rfl, hb⟩
  have B6 := Lib.hid (below_call ((B5.out.alloc B5.out.size (.cells #[.int .i64 48, .string ⟨#[101, 120, 116, 114, 97]⟩, .int .i64 2, .int .i64 255, .int .i64 3] 23))) hb)
  have r0 : w6.cell? ⟨w5.heap.size, 0, none⟩ = some (.int .i64 48) := (HN.out.call hb).cell 0
  have r1 : w6.cell? ⟨w5.heap.size, 1, none⟩ = some (.string ⟨#[101, 120, 116, 114, 97]⟩) := (HN.out.call hb).cell 1
  have r2 : w6.cell? ⟨w5.heap.size, 2, none⟩ = some (.int .i64 2) := (HN.out.call hb).cell 2
  have r3 : w6.cell? ⟨w5.heap.size, 3, none⟩ = some (.int .i64 255) := (HN.out.call hb).cell 3
  have r4 : w6.cell? ⟨w5.heap.size, 4, none⟩ = some (.int .i64 3) := (HN.out.call hb).cell 4
  have rl := (HN.out.call hb).lt
  clear hb
  go_wp2_with fail
  refine (C1.out _ (HX.out.call (B6.out))).mono ?_
  rintro e w7 ⟨rfl, hb⟩
  have B7 := Lib.hid (below_call (B6.out) hb)
  clear hb
  go_wp2_with fail
  refine (C2.out _ (HX.out.call (B7.out))).mono ?_
  rintro e w8 ⟨rfl, hb⟩
  have B8 := Lib.hid (below_call (B7.out) hb)
  clear hb
  go_wp2_with fail
  refine (R1.out _).mono ?_
  rintro e w9 ⟨v, rfl, hi, hb⟩
  have B9 := Lib.hid (below_call B8.out hb)
  have HI := Lib.hid hi
  clear hi hb
  go_wp2_with fail
  refine (S1.out _ _ _ (HI.out.call ((Below.refl _ _).alloc (Nat.le_refl _) _)) (.inr ⟨w9.heap.size, rfl, Blk.new _ _ _⟩)).mono ?_
  rintro e w10 ⟨rfl, hb⟩
  have B10 := Lib.hid (below_call (B9.out.alloc B9.out.size _) hb)
  clear hb
  go_wp2_with fail
  go_ret
  exact ⟨rfl, B10.out⟩
end Go.Proofs.YtjkfckkmofcpdaaDoor
