/- The pieces of the example: Parse, Format, usd, Same. -/
import Derived.Test.YtompeealmgdfhaaDoorV
set_option linter.unusedVariables false
set_option linter.unusedSimpArgs false
namespace Go.Proofs.YtompeealmgdfhaaDoor
open Go.Sort Go.ChangeShapes Go.WideShapes Go.ChangeAt Go.RowKit
open div
theorem al3 {w w1 : World} {o : Obj} (h : Below (w.alloc o).heap.size (w.alloc o) w1) : Below w.heap.size w w1 := (al (Below.refl _ _)).trans (h.mono (by simp))
theorem isD_of (s : ByteArray) (h : allD s.data.toList = true) (h0 : s.size ≠ 0) : isD s = true := by
  unfold isD; rw [h, size_pos_list h0]; rfl
theorem usd_any (n : Int) (w : World) : Calls Tryd.prog 24 #[.int .i64 n] w fun e w' => e = .returned (mo n usdB) ∧ Below w.heap.size w w' := by
  unfold mo usdB
  go_enter Tryd.func24, Tryd.ntmps24
  go_wp2_with fail
  exact bodyPost_ret (v := .agg #[.int .i64 n, .string ⟨#[85, 83, 68]⟩]) (by simp [results, Tryd.results24, go_sem]) rfl ⟨rfl, al (Below.refl _ _)⟩
theorem whole_12 (w : World) : Calls Tryd.prog 52 #[.string ⟨#[49, 50]⟩] w fun e w' => e = .returned (.bool true) ∧ w' = w := by
  have HD := Lib.hid (fun w => isdigits_any ⟨#[49, 50]⟩ w (by decide))
  rw [isD_of _ (by decide) (by decide)] at HD
  go_enter Tryd.func52, Tryd.ntmps52
  go_wp2_with (go_at_call 51; refine (HD.out _).mono ?_; rintro e w' ⟨rfl, rfl⟩)
  go_ret
  exact ⟨rfl, rfl⟩
theorem whole_0 (w : World) : Calls Tryd.prog 52 #[.string ⟨#[48]⟩] w fun e w' => e = .returned (.bool true) ∧ w' = w := by
  have HD := Lib.hid (fun w => isdigits_any ⟨#[48]⟩ w (by decide))
  rw [isD_of _ (by decide) (by decide)] at HD
  go_enter Tryd.func52, Tryd.ntmps52
  go_wp2_with (go_at_call 51; refine (HD.out _).mono ?_; rintro e w' ⟨rfl, rfl⟩)
  go_ret
  exact ⟨rfl, rfl⟩
theorem pint (s : ByteArray) (v : Int) (hmax : s.size ≤ 9223372036854775806) (h : Lib.parseIntB 64 s.data.toList = .ok v) (w : World) :
    Calls Tryd.prog 53 #[.string s, .int .i64 10, .int .i64 64] w fun e w' => e = .returned (.tuple #[.int .i64 v, .nilIface]) ∧ Below w.heap.size w w' :=
  (Tryd.strconv_ParseInt_10_at64_ok s hmax v h w).mono fun e w' ⟨he, hw⟩ => ⟨he, by
    rcases hw with rfl | ⟨t, rfl⟩
    · exact Below.refl _ _
    · exact Go.Joins.below_bytesWorld w.heap.size w 5 t (Nat.le_refl _)⟩
set_option maxHeartbeats 2000000 in
set_option maxRecDepth 20000 in
theorem p1_ex (w : World) (hX : XT w) : Calls Tryd.prog 28 #[.string ⟨#[45, 49, 50, 46, 51, 52, 32, 85, 83, 68]⟩] w fun e w' => e = .returned (.tuple #[.agg #[.int .i64 (-1234), .string ⟨#[85, 83, 68]⟩], .int .i64 0]) ∧ Below w.heap.size w w' := by
  have C1 := Lib.hid (fun w => scut1 ⟨#[45, 49, 50, 46, 51, 52, 32, 85, 83, 68]⟩ 32 (by decide) w)
  rw [show ctA ⟨#[45, 49, 50, 46, 51, 52, 32, 85, 83, 68]⟩ 32 = ⟨#[45, 49, 50, 46, 51, 52]⟩ from by decide +kernel, show ctB ⟨#[45, 49, 50, 46, 51, 52, 32, 85, 83, 68]⟩ 32 = ⟨#[85, 83, 68]⟩ from by decide +kernel, show ctF ⟨#[45, 49, 50, 46, 51, 52, 32, 85, 83, 68]⟩ 32 = true from by decide +kernel] at C1
  have X1 := Lib.hid (fun w h => expo_yes ⟨#[85, 83, 68]⟩ (by decide) (by decide) w h)
  rw [show exV ⟨#[85, 83, 68]⟩ = 2 from by decide +kernel] at X1
  have P1 : Hid (∀ w, Calls Tryd.prog 50 #[.string ⟨#[45, 49, 50, 46, 51, 52]⟩, .string ⟨#[45]⟩] w fun e w' => e = .returned (.tuple #[.string ⟨#[49, 50, 46, 51, 52]⟩, .bool true]) ∧ w' = w) := Lib.hid (fun w => Tryd.strings_CutPrefix ⟨#[45, 49, 50, 46, 51, 52]⟩ ⟨#[45]⟩ w)
  have C2 := Lib.hid (fun w => scut1 ⟨#[49, 50, 46, 51, 52]⟩ 46 (by decide) w)
  rw [show ctA ⟨#[49, 50, 46, 51, 52]⟩ 46 = ⟨#[49, 50]⟩ from by decide +kernel, show ctB ⟨#[49, 50, 46, 51, 52]⟩ 46 = ⟨#[51, 52]⟩ from by decide +kernel, show ctF ⟨#[49, 50, 46, 51, 52]⟩ 46 = true from by decide +kernel] at C2
  have D1 := Lib.hid (fun w => isdigits_any ⟨#[51, 52]⟩ w (by decide))
  rw [isD_of _ (by decide) (by decide)] at D1
  have W1 := Lib.hid (fun w => whole_12 w)
  have I1 := Lib.hid (fun w => pint ⟨#[49, 50, 51, 52]⟩ 1234 (by decide) (by decide +kernel) w)
  have HX := Lib.hid hX
  clear hX
  go_enter Tryd.func28, Tryd.ntmps28
  go_wp2_with fail
  refine (C1.out _).mono ?_
  rintro e w1 ⟨rfl, hb⟩
  have HB1 := Lib.hid (al3 hb)
  obtain ⟨d1, o1, rfl⟩ := regrow_of hb
  clear hb
  go_wp2_with fail
  refine (X1.out _ (HX.out.call HB1.out)).mono ?_
  rintro e w2 ⟨rfl, hb⟩
  obtain ⟨d2, o2, rfl⟩ := regrow_of hb
  clear hb
  go_wp2_with fail
  refine (P1.out _).mono ?_
  rintro e w3 ⟨rfl, rfl⟩
  go_wp2_with fail
  refine (C2.out _).mono ?_
  rintro e w4 ⟨rfl, hb⟩
  obtain ⟨d4, o4, rfl⟩ := regrow_of hb
  clear hb
  go_wp2_with (first | (go_at_call 51; refine (D1.out _).mono ?_; rintro e q1 ⟨rfl, rfl⟩) | (go_at_call 52; refine (W1.out _).mono ?_; rintro e q1 ⟨rfl, rfl⟩) | (go_at_call 53; refine (I1.out _).mono ?_; rintro e q2 ⟨rfl, hb⟩; obtain ⟨d5, o5, rfl⟩ := regrow_of hb; clear hb))
  exact bodyPost_ret (v := .tuple #[.agg #[.int .i64 (-1234), .string ⟨#[85, 83, 68]⟩], .int .i64 0]) (by simp [results, Tryd.results28, go_sem]) rfl ⟨rfl, by repeat (first | exact Below.refl _ _ | refine al ?_ | refine bre ?_ _ _)⟩
set_option maxHeartbeats 2000000 in
set_option maxRecDepth 20000 in
theorem p2_ex (w : World) (hX : XT w) : Calls Tryd.prog 28 #[.string ⟨#[45, 48, 46, 48, 48, 32, 85, 83, 68]⟩] w fun e w' => e = .returned (.tuple #[.agg #[.int .i64 0, .string ⟨#[]⟩], .int .i64 2]) ∧ Below w.heap.size w w' := by
  have C1 := Lib.hid (fun w => scut1 ⟨#[45, 48, 46, 48, 48, 32, 85, 83, 68]⟩ 32 (by decide) w)
  rw [show ctA ⟨#[45, 48, 46, 48, 48, 32, 85, 83, 68]⟩ 32 = ⟨#[45, 48, 46, 48, 48]⟩ from by decide +kernel, show ctB ⟨#[45, 48, 46, 48, 48, 32, 85, 83, 68]⟩ 32 = ⟨#[85, 83, 68]⟩ from by decide +kernel, show ctF ⟨#[45, 48, 46, 48, 48, 32, 85, 83, 68]⟩ 32 = true from by decide +kernel] at C1
  have X1 := Lib.hid (fun w h => expo_yes ⟨#[85, 83, 68]⟩ (by decide) (by decide) w h)
  rw [show exV ⟨#[85, 83, 68]⟩ = 2 from by decide +kernel] at X1
  have P1 : Hid (∀ w, Calls Tryd.prog 50 #[.string ⟨#[45, 48, 46, 48, 48]⟩, .string ⟨#[45]⟩] w fun e w' => e = .returned (.tuple #[.string ⟨#[48, 46, 48, 48]⟩, .bool true]) ∧ w' = w) := Lib.hid (fun w => Tryd.strings_CutPrefix ⟨#[45, 48, 46, 48, 48]⟩ ⟨#[45]⟩ w)
  have C2 := Lib.hid (fun w => scut1 ⟨#[48, 46, 48, 48]⟩ 46 (by decide) w)
  rw [show ctA ⟨#[48, 46, 48, 48]⟩ 46 = ⟨#[48]⟩ from by decide +kernel, show ctB ⟨#[48, 46, 48, 48]⟩ 46 = ⟨#[48, 48]⟩ from by decide +kernel, show ctF ⟨#[48, 46, 48, 48]⟩ 46 = true from by decide +kernel] at C2
  have D1 := Lib.hid (fun w => isdigits_any ⟨#[48, 48]⟩ w (by decide))
  rw [isD_of _ (by decide) (by decide)] at D1
  have W1 := Lib.hid (fun w => whole_0 w)
  have I1 := Lib.hid (fun w => pint ⟨#[48, 48, 48]⟩ 0 (by decide) (by decide +kernel) w)
  have HX := Lib.hid hX
  clear hX
  go_enter Tryd.func28, Tryd.ntmps28
  go_wp2_with fail
  refine (C1.out _).mono ?_
  rintro e w1 ⟨rfl, hb⟩
  have HB1 := Lib.hid (al3 hb)
  obtain ⟨d1, o1, rfl⟩ := regrow_of hb
  clear hb
  go_wp2_with fail
  refine (X1.out _ (HX.out.call HB1.out)).mono ?_
  rintro e w2 ⟨rfl, hb⟩
  obtain ⟨d2, o2, rfl⟩ := regrow_of hb
  clear hb
  go_wp2_with fail
  refine (P1.out _).mono ?_
  rintro e w3 ⟨rfl, rfl⟩
  go_wp2_with fail
  refine (C2.out _).mono ?_
  rintro e w4 ⟨rfl, hb⟩
  obtain ⟨d4, o4, rfl⟩ := regrow_of hb
  clear hb
  go_wp2_with (first | (go_at_call 51; refine (D1.out _).mono ?_; rintro e q1 ⟨rfl, rfl⟩) | (go_at_call 52; refine (W1.out _).mono ?_; rintro e q1 ⟨rfl, rfl⟩) | (go_at_call 53; refine (I1.out _).mono ?_; rintro e q2 ⟨rfl, hb⟩; obtain ⟨d5, o5, rfl⟩ := regrow_of hb; clear hb))
  exact bodyPost_ret (v := .tuple #[.agg #[.int .i64 0, .string ⟨#[]⟩], .int .i64 2]) (by simp [results, Tryd.results28, go_sem]) rfl ⟨rfl, by repeat (first | exact Below.refl _ _ | refine al ?_ | refine bre ?_ _ _)⟩
end Go.Proofs.YtompeealmgdfhaaDoor
