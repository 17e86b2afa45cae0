/- The class of a rune; words. -/
import Derived.Test.YtikmaljhfckbgaaDoorD
set_option linter.unusedVariables false
set_option linter.unusedSimpArgs false
namespace Go.Proofs.YtikmaljhfckbgaaDoor
open Go.Sort Go.ChangeShapes Go.WideShapes Go.ChangeAt Go.RowKit
theorem beB {w W : World} (h : Below w.heap.size w W) (n : Nat) : Below w.heap.size w (W.drewN n) := bdn h n
set_option maxHeartbeats 2000000 in
set_option maxRecDepth 100000 in
theorem ch_bad (r : Int) (w : World) (h0 : 128 ≤ r) (hne : (r == 65533) = false) (V : ∀ w, Calls Tryd.prog 87 #[.int .i32 r] w fun e w' => e = .returned (.bool false) ∧ w' = w) :
    Calls Tryd.prog 76 #[.string marks, .int .i32 r] w fun e w' => e = .returned (.int .i64 (-1)) ∧ w' = w := by
  have HV := Lib.hid V
  have d0 : decide (r < 128) = false := decide_eq_false (by omega)
  have d0b : ¬ r < 128 := by omega
  have d1 : decide (0 ≤ r) = true := decide_eq_true (by omega)
  generalize hMM : marks = MM at *
  clear hMM V
  go_enter Tryd.func76, Tryd.ntmps76
  go_wp2_with fail
  refine (HV.out _).mono ?_
  rintro e w1 ⟨rfl, rfl⟩
  go_wp2_with fail
  go_ret
  exact ⟨rfl, rfl⟩
theorem irune_hi (r : Int) (h0 : 128 ≤ r) (w : World) : Calls Tryd.prog 76 #[.string marks, .int .i32 r] w fun e w' => e = .returned (.int .i64 (-1)) ∧ Below w.heap.size w w' := by
  cases hq : (r == 65533)
  · obtain ⟨b, V⟩ := validr_any r h0
    cases b
    · exact (ch_bad r w h0 hq V).mono fun e w' ⟨he, hw⟩ => ⟨he, hw ▸ Below.refl _ _⟩
    · obtain ⟨x, e1, h | h | h⟩ := utf_hi r h0
      · obtain ⟨a, b, rfl, hb⟩ := h
        exact (ch_2 r a b w h0 hq e1 hb V).mono fun e w' ⟨he, n, hw⟩ => ⟨he, hw ▸ bdn (Below.refl _ _) n⟩
      · obtain ⟨a, b, c, rfl, hb⟩ := h
        exact (ch_3 r a b c w h0 hq e1 hb V).mono fun e w' ⟨he, n, hw⟩ => ⟨he, hw ▸ bdn (Below.refl _ _) n⟩
      · obtain ⟨a, b, c, d, rfl, hb⟩ := h
        exact (ch_4 r a b c d w h0 hq e1 hb V).mono fun e w' ⟨he, n, hw⟩ => ⟨he, hw ▸ bdn (Below.refl _ _) n⟩
  · rw [beq_iff_eq] at hq
    rw [hq]
    exact ch_err w
theorem crune_hi (r : Int) (h0 : 128 ≤ r) (w : World) : Calls Tryd.prog 62 #[.string marks, .int .i32 r] w fun e w' => e = .returned (.bool false) ∧ Below w.heap.size w w' := by
  have HI := Lib.hid (irune_hi r h0)
  clear h0
  generalize marks = MM at *
  go_enter Tryd.func62, Tryd.ntmps62
  go_wp2_with fail
  refine (HI.out _).mono ?_
  rintro e w1 ⟨rfl, hb⟩
  have HB := Lib.hid hb
  clear hb
  go_wp2_with fail
  go_ret
  exact ⟨rfl, HB.out⟩
theorem crune_any (r : Int) (h0 : 0 ≤ r) (w : World) : Calls Tryd.prog 62 #[.string marks, .int .i32 r] w fun e w' => e = .returned (.bool (isM r)) ∧ Below w.heap.size w w' := by
  by_cases h : r < 128
  · have : isM r = decide (0 ≤ Lib.indexByte marks.data.toList r.toNat.toUInt8) := by unfold isM; rw [decide_eq_true h, Bool.true_and]
    rw [this]
    exact (Tryd.strings_ContainsRune_ascii marks r w h0 h).mono fun e w' ⟨he, hw⟩ => ⟨he, hw ▸ Below.refl _ _⟩
  · have : isM r = false := by unfold isM; rw [decide_eq_false h, Bool.false_and]
    rw [this]
    exact crune_hi r (by omega) w
set_option maxHeartbeats 2000000 in
set_option maxRecDepth 100000 in
theorem cls_32 (w : World) : Calls Tryd.prog 45 #[.int .i32 32] w fun e w' => e = .returned (.int .i64 1) ∧ w' = w := by
  go_enter Tryd.func45, Tryd.ntmps45
  go_wp2_with fail
  go_ret
  exact ⟨rfl, rfl⟩
set_option maxHeartbeats 2000000 in
set_option maxRecDepth 100000 in
theorem cls_9 (w : World) : Calls Tryd.prog 45 #[.int .i32 9] w fun e w' => e = .returned (.int .i64 1) ∧ w' = w := by
  go_enter Tryd.func45, Tryd.ntmps45
  go_wp2_with fail
  go_ret
  exact ⟨rfl, rfl⟩
set_option maxHeartbeats 2000000 in
set_option maxRecDepth 100000 in
theorem cls_10 (w : World) : Calls Tryd.prog 45 #[.int .i32 10] w fun e w' => e = .returned (.int .i64 1) ∧ w' = w := by
  go_enter Tryd.func45, Tryd.ntmps45
  go_wp2_with fail
  go_ret
  exact ⟨rfl, rfl⟩
set_option maxHeartbeats 2000000 in
set_option maxRecDepth 100000 in
theorem cls_35 (w : World) : Calls Tryd.prog 45 #[.int .i32 35] w fun e w' => e = .returned (.int .i64 2) ∧ w' = w := by
  go_enter Tryd.func45, Tryd.ntmps45
  go_wp2_with fail
  go_ret
  exact ⟨rfl, rfl⟩
set_option maxHeartbeats 2000000 in
set_option maxRecDepth 100000 in
theorem cls_34 (w : World) : Calls Tryd.prog 45 #[.int .i32 34] w fun e w' => e = .returned (.int .i64 5) ∧ w' = w := by
  go_enter Tryd.func45, Tryd.ntmps45
  go_wp2_with fail
  go_ret
  exact ⟨rfl, rfl⟩
set_option maxHeartbeats 2000000 in
set_option maxRecDepth 100000 in
theorem cls_lo (c : Int) (h : 48 ≤ c ∧ c ≤ 57) (w : World) : Calls Tryd.prog 45 #[.int .i32 c] w fun e w' => e = .returned (.int .i64 4) ∧ w' = w := by
  have q32 : (c == 32) = false := by rw [beq_eq_false_iff_ne]; omega
  have q9 : (c == 9) = false := by rw [beq_eq_false_iff_ne]; omega
  have q10 : (c == 10) = false := by rw [beq_eq_false_iff_ne]; omega
  have q35 : (c == 35) = false := by rw [beq_eq_false_iff_ne]; omega
  have q34 : (c == 34) = false := by rw [beq_eq_false_iff_ne]; omega
  have d0 : decide (97 ≤ c) = false := decide_eq_false (by omega)
  have d1 : decide (c ≤ 122) = true := decide_eq_true (by omega)
  have d2 : decide (65 ≤ c) = false := decide_eq_false (by omega)
  have d3 : decide (c ≤ 90) = true := decide_eq_true (by omega)
  have d4 : decide (48 ≤ c) = true := decide_eq_true (by omega)
  have d5 : decide (c ≤ 57) = true := decide_eq_true (by omega)
  clear h
  go_enter Tryd.func45, Tryd.ntmps45
  go_wp2_with fail
  go_ret
  exact ⟨rfl, rfl⟩
set_option maxHeartbeats 2000000 in
set_option maxRecDepth 100000 in
theorem cls_up (c : Int) (h : 65 ≤ c ∧ c ≤ 90) (w : World) : Calls Tryd.prog 45 #[.int .i32 c] w fun e w' => e = .returned (.int .i64 3) ∧ w' = w := by
  have q32 : (c == 32) = false := by rw [beq_eq_false_iff_ne]; omega
  have q9 : (c == 9) = false := by rw [beq_eq_false_iff_ne]; omega
  have q10 : (c == 10) = false := by rw [beq_eq_false_iff_ne]; omega
  have q35 : (c == 35) = false := by rw [beq_eq_false_iff_ne]; omega
  have q34 : (c == 34) = false := by rw [beq_eq_false_iff_ne]; omega
  have d0 : decide (97 ≤ c) = false := decide_eq_false (by omega)
  have d1 : decide (c ≤ 122) = true := decide_eq_true (by omega)
  have d2 : decide (65 ≤ c) = true := decide_eq_true (by omega)
  have d3 : decide (c ≤ 90) = true := decide_eq_true (by omega)
  have d4 : decide (48 ≤ c) = true := decide_eq_true (by omega)
  have d5 : decide (c ≤ 57) = false := decide_eq_false (by omega)
  clear h
  go_enter Tryd.func45, Tryd.ntmps45
  go_wp2_with fail
  go_ret
  exact ⟨rfl, rfl⟩
set_option maxHeartbeats 2000000 in
set_option maxRecDepth 100000 in
theorem cls_sm (c : Int) (h : 97 ≤ c ∧ c ≤ 122) (w : World) : Calls Tryd.prog 45 #[.int .i32 c] w fun e w' => e = .returned (.int .i64 3) ∧ w' = w := by
  have q32 : (c == 32) = false := by rw [beq_eq_false_iff_ne]; omega
  have q9 : (c == 9) = false := by rw [beq_eq_false_iff_ne]; omega
  have q10 : (c == 10) = false := by rw [beq_eq_false_iff_ne]; omega
  have q35 : (c == 35) = false := by rw [beq_eq_false_iff_ne]; omega
  have q34 : (c == 34) = false := by rw [beq_eq_false_iff_ne]; omega
  have d0 : decide (97 ≤ c) = true := decide_eq_true (by omega)
  have d1 : decide (c ≤ 122) = true := decide_eq_true (by omega)
  have d2 : decide (65 ≤ c) = true := decide_eq_true (by omega)
  have d3 : decide (c ≤ 90) = false := decide_eq_false (by omega)
  have d4 : decide (48 ≤ c) = true := decide_eq_true (by omega)
  have d5 : decide (c ≤ 57) = false := decide_eq_false (by omega)
  clear h
  go_enter Tryd.func45, Tryd.ntmps45
  go_wp2_with fail
  go_ret
  exact ⟨rfl, rfl⟩
set_option maxHeartbeats 2000000 in
set_option maxRecDepth 100000 in
theorem cls_oa1 (c : Int) (h0 : 0 ≤ c) (hn : c ≠ 32 ∧ c ≠ 9 ∧ c ≠ 10 ∧ c ≠ 35 ∧ c ≠ 34) (h : c < 48) (hm : isM c = true) (w : World) : Calls Tryd.prog 45 #[.int .i32 c] w fun e w' => e = .returned (.int .i64 6) ∧ Below w.heap.size w w' := by
  have HC := Lib.hid (crune_any c h0)
  rw [hm] at HC
  have q32 : (c == 32) = false := by rw [beq_eq_false_iff_ne]; omega
  have q9 : (c == 9) = false := by rw [beq_eq_false_iff_ne]; omega
  have q10 : (c == 10) = false := by rw [beq_eq_false_iff_ne]; omega
  have q35 : (c == 35) = false := by rw [beq_eq_false_iff_ne]; omega
  have q34 : (c == 34) = false := by rw [beq_eq_false_iff_ne]; omega
  have d0 : decide (97 ≤ c) = false := decide_eq_false (by omega)
  have d1 : decide (c ≤ 122) = true := decide_eq_true (by omega)
  have d2 : decide (65 ≤ c) = false := decide_eq_false (by omega)
  have d3 : decide (c ≤ 90) = true := decide_eq_true (by omega)
  have d4 : decide (48 ≤ c) = false := decide_eq_false (by omega)
  have d5 : decide (c ≤ 57) = true := decide_eq_true (by omega)
  clear h hn h0 hm
  go_enter Tryd.func45, Tryd.ntmps45
  go_wp2_with fail
  refine (HC.out _).mono ?_
  rintro e w1 ⟨rfl, hb⟩
  have HB := Lib.hid hb
  clear hb
  go_wp2_with fail
  go_ret
  exact ⟨rfl, HB.out⟩
set_option maxHeartbeats 2000000 in
set_option maxRecDepth 100000 in
theorem cls_oa0 (c : Int) (h0 : 0 ≤ c) (hn : c ≠ 32 ∧ c ≠ 9 ∧ c ≠ 10 ∧ c ≠ 35 ∧ c ≠ 34) (h : c < 48) (hm : isM c = false) (w : World) : Calls Tryd.prog 45 #[.int .i32 c] w fun e w' => e = .returned (.int .i64 0) ∧ Below w.heap.size w w' := by
  have HC := Lib.hid (crune_any c h0)
  rw [hm] at HC
  have q32 : (c == 32) = false := by rw [beq_eq_false_iff_ne]; omega
  have q9 : (c == 9) = false := by rw [beq_eq_false_iff_ne]; omega
  have q10 : (c == 10) = false := by rw [beq_eq_false_iff_ne]; omega
  have q35 : (c == 35) = false := by rw [beq_eq_false_iff_ne]; omega
  have q34 : (c == 34) = false := by rw [beq_eq_false_iff_ne]; omega
  have d0 : decide (97 ≤ c) = false := decide_eq_false (by omega)
  have d1 : decide (c ≤ 122) = true := decide_eq_true (by omega)
  have d2 : decide (65 ≤ c) = false := decide_eq_false (by omega)
  have d3 : decide (c ≤ 90) = true := decide_eq_true (by omega)
  have d4 : decide (48 ≤ c) = false := decide_eq_false (by omega)
  have d5 : decide (c ≤ 57) = true := decide_eq_true (by omega)
  clear h hn h0 hm
  go_enter Tryd.func45, Tryd.ntmps45
  go_wp2_with fail
  refine (HC.out _).mono ?_
  rintro e w1 ⟨rfl, hb⟩
  have HB := Lib.hid hb
  clear hb
  go_wp2_with fail
  go_ret
  exact ⟨rfl, HB.out⟩
set_option maxHeartbeats 2000000 in
set_option maxRecDepth 100000 in
theorem cls_ob1 (c : Int) (h0 : 0 ≤ c) (hn : c ≠ 32 ∧ c ≠ 9 ∧ c ≠ 10 ∧ c ≠ 35 ∧ c ≠ 34) (h : 57 < c ∧ c < 65) (hm : isM c = true) (w : World) : Calls Tryd.prog 45 #[.int .i32 c] w fun e w' => e = .returned (.int .i64 6) ∧ Below w.heap.size w w' := by
  have HC := Lib.hid (crune_any c h0)
  rw [hm] at HC
  have q32 : (c == 32) = false := by rw [beq_eq_false_iff_ne]; omega
  have q9 : (c == 9) = false := by rw [beq_eq_false_iff_ne]; omega
  have q10 : (c == 10) = false := by rw [beq_eq_false_iff_ne]; omega
  have q35 : (c == 35) = false := by rw [beq_eq_false_iff_ne]; omega
  have q34 : (c == 34) = false := by rw [beq_eq_false_iff_ne]; omega
  have d0 : decide (97 ≤ c) = false := decide_eq_false (by omega)
  have d1 : decide (c ≤ 122) = true := decide_eq_true (by omega)
  have d2 : decide (65 ≤ c) = false := decide_eq_false (by omega)
  have d3 : decide (c ≤ 90) = true := decide_eq_true (by omega)
  have d4 : decide (48 ≤ c) = true := decide_eq_true (by omega)
  have d5 : decide (c ≤ 57) = false := decide_eq_false (by omega)
  clear h hn h0 hm
  go_enter Tryd.func45, Tryd.ntmps45
  go_wp2_with fail
  refine (HC.out _).mono ?_
  rintro e w1 ⟨rfl, hb⟩
  have HB := Lib.hid hb
  clear hb
  go_wp2_with fail
  go_ret
  exact ⟨rfl, HB.out⟩
set_option maxHeartbeats 2000000 in
set_option maxRecDepth 100000 in
theorem cls_ob0 (c : Int) (h0 : 0 ≤ c) (hn : c ≠ 32 ∧ c ≠ 9 ∧ c ≠ 10 ∧ c ≠ 35 ∧ c ≠ 34) (h : 57 < c ∧ c < 65) (hm : isM c = false) (w : World) : Calls Tryd.prog 45 #[.int .i32 c] w fun e w' => e = .returned (.int .i64 0) ∧ Below w.heap.size w w' := by
  have HC := Lib.hid (crune_any c h0)
  rw [hm] at HC
  have q32 : (c == 32) = false := by rw [beq_eq_false_iff_ne]; omega
  have q9 : (c == 9) = false := by rw [beq_eq_false_iff_ne]; omega
  have q10 : (c == 10) = false := by rw [beq_eq_false_iff_ne]; omega
  have q35 : (c == 35) = false := by rw [beq_eq_false_iff_ne]; omega
  have q34 : (c == 34) = false := by rw [beq_eq_false_iff_ne]; omega
  have d0 : decide (97 ≤ c) = false := decide_eq_false (by omega)
  have d1 : decide (c ≤ 122) = true := decide_eq_true (by omega)
  have d2 : decide (65 ≤ c) = false := decide_eq_false (by omega)
  have d3 : decide (c ≤ 90) = true := decide_eq_true (by omega)
  have d4 : decide (48 ≤ c) = true := decide_eq_true (by omega)
  have d5 : decide (c ≤ 57) = false := decide_eq_false (by omega)
  clear h hn h0 hm
  go_enter Tryd.func45, Tryd.ntmps45
  go_wp2_with fail
  refine (HC.out _).mono ?_
  rintro e w1 ⟨rfl, hb⟩
  have HB := Lib.hid hb
  clear hb
  go_wp2_with fail
  go_ret
  exact ⟨rfl, HB.out⟩
set_option maxHeartbeats 2000000 in
set_option maxRecDepth 100000 in
theorem cls_oc1 (c : Int) (h0 : 0 ≤ c) (hn : c ≠ 32 ∧ c ≠ 9 ∧ c ≠ 10 ∧ c ≠ 35 ∧ c ≠ 34) (h : 90 < c ∧ c < 97) (hm : isM c = true) (w : World) : Calls Tryd.prog 45 #[.int .i32 c] w fun e w' => e = .returned (.int .i64 6) ∧ Below w.heap.size w w' := by
  have HC := Lib.hid (crune_any c h0)
  rw [hm] at HC
  have q32 : (c == 32) = false := by rw [beq_eq_false_iff_ne]; omega
  have q9 : (c == 9) = false := by rw [beq_eq_false_iff_ne]; omega
  have q10 : (c == 10) = false := by rw [beq_eq_false_iff_ne]; omega
  have q35 : (c == 35) = false := by rw [beq_eq_false_iff_ne]; omega
  have q34 : (c == 34) = false := by rw [beq_eq_false_iff_ne]; omega
  have d0 : decide (97 ≤ c) = false := decide_eq_false (by omega)
  have d1 : decide (c ≤ 122) = true := decide_eq_true (by omega)
  have d2 : decide (65 ≤ c) = true := decide_eq_true (by omega)
  have d3 : decide (c ≤ 90) = false := decide_eq_false (by omega)
  have d4 : decide (48 ≤ c) = true := decide_eq_true (by omega)
  have d5 : decide (c ≤ 57) = false := decide_eq_false (by omega)
  clear h hn h0 hm
  go_enter Tryd.func45, Tryd.ntmps45
  go_wp2_with fail
  refine (HC.out _).mono ?_
  rintro e w1 ⟨rfl, hb⟩
  have HB := Lib.hid hb
  clear hb
  go_wp2_with fail
  go_ret
  exact ⟨rfl, HB.out⟩
set_option maxHeartbeats 2000000 in
set_option maxRecDepth 100000 in
theorem cls_oc0 (c : Int) (h0 : 0 ≤ c) (hn : c ≠ 32 ∧ c ≠ 9 ∧ c ≠ 10 ∧ c ≠ 35 ∧ c ≠ 34) (h : 90 < c ∧ c < 97) (hm : isM c = false) (w : World) : Calls Tryd.prog 45 #[.int .i32 c] w fun e w' => e = .returned (.int .i64 0) ∧ Below w.heap.size w w' := by
  have HC := Lib.hid (crune_any c h0)
  rw [hm] at HC
  have q32 : (c == 32) = false := by rw [beq_eq_false_iff_ne]; omega
  have q9 : (c == 9) = false := by rw [beq_eq_false_iff_ne]; omega
  have q10 : (c == 10) = false := by rw [beq_eq_false_iff_ne]; omega
  have q35 : (c == 35) = false := by rw [beq_eq_false_iff_ne]; omega
  have q34 : (c == 34) = false := by rw [beq_eq_false_iff_ne]; omega
  have d0 : decide (97 ≤ c) = false := decide_eq_false (by omega)
  have d1 : decide (c ≤ 122) = true := decide_eq_true (by omega)
  have d2 : decide (65 ≤ c) = true := decide_eq_true (by omega)
  have d3 : decide (c ≤ 90) = false := decide_eq_false (by omega)
  have d4 : decide (48 ≤ c) = true := decide_eq_true (by omega)
  have d5 : decide (c ≤ 57) = false := decide_eq_false (by omega)
  clear h hn h0 hm
  go_enter Tryd.func45, Tryd.ntmps45
  go_wp2_with fail
  refine (HC.out _).mono ?_
  rintro e w1 ⟨rfl, hb⟩
  have HB := Lib.hid hb
  clear hb
  go_wp2_with fail
  go_ret
  exact ⟨rfl, HB.out⟩
set_option maxHeartbeats 2000000 in
set_option maxRecDepth 100000 in
theorem cls_od1 (c : Int) (h0 : 0 ≤ c) (hn : c ≠ 32 ∧ c ≠ 9 ∧ c ≠ 10 ∧ c ≠ 35 ∧ c ≠ 34) (h : 122 < c) (hm : isM c = true) (w : World) : Calls Tryd.prog 45 #[.int .i32 c] w fun e w' => e = .returned (.int .i64 6) ∧ Below w.heap.size w w' := by
  have HC := Lib.hid (crune_any c h0)
  rw [hm] at HC
  have q32 : (c == 32) = false := by rw [beq_eq_false_iff_ne]; omega
  have q9 : (c == 9) = false := by rw [beq_eq_false_iff_ne]; omega
  have q10 : (c == 10) = false := by rw [beq_eq_false_iff_ne]; omega
  have q35 : (c == 35) = false := by rw [beq_eq_false_iff_ne]; omega
  have q34 : (c == 34) = false := by rw [beq_eq_false_iff_ne]; omega
  have d0 : decide (97 ≤ c) = true := decide_eq_true (by omega)
  have d1 : decide (c ≤ 122) = false := decide_eq_false (by omega)
  have d2 : decide (65 ≤ c) = true := decide_eq_true (by omega)
  have d3 : decide (c ≤ 90) = false := decide_eq_false (by omega)
  have d4 : decide (48 ≤ c) = true := decide_eq_true (by omega)
  have d5 : decide (c ≤ 57) = false := decide_eq_false (by omega)
  clear h hn h0 hm
  go_enter Tryd.func45, Tryd.ntmps45
  go_wp2_with fail
  refine (HC.out _).mono ?_
  rintro e w1 ⟨rfl, hb⟩
  have HB := Lib.hid hb
  clear hb
  go_wp2_with fail
  go_ret
  exact ⟨rfl, HB.out⟩
set_option maxHeartbeats 2000000 in
set_option maxRecDepth 100000 in
theorem cls_od0 (c : Int) (h0 : 0 ≤ c) (hn : c ≠ 32 ∧ c ≠ 9 ∧ c ≠ 10 ∧ c ≠ 35 ∧ c ≠ 34) (h : 122 < c) (hm : isM c = false) (w : World) : Calls Tryd.prog 45 #[.int .i32 c] w fun e w' => e = .returned (.int .i64 0) ∧ Below w.heap.size w w' := by
  have HC := Lib.hid (crune_any c h0)
  rw [hm] at HC
  have q32 : (c == 32) = false := by rw [beq_eq_false_iff_ne]; omega
  have q9 : (c == 9) = false := by rw [beq_eq_false_iff_ne]; omega
  have q10 : (c == 10) = false := by rw [beq_eq_false_iff_ne]; omega
  have q35 : (c == 35) = false := by rw [beq_eq_false_iff_ne]; omega
  have q34 : (c == 34) = false := by rw [beq_eq_false_iff_ne]; omega
  have d0 : decide (97 ≤ c) = true := decide_eq_true (by omega)
  have d1 : decide (c ≤ 122) = false := decide_eq_false (by omega)
  have d2 : decide (65 ≤ c) = true := decide_eq_true (by omega)
  have d3 : decide (c ≤ 90) = false := decide_eq_false (by omega)
  have d4 : decide (48 ≤ c) = true := decide_eq_true (by omega)
  have d5 : decide (c ≤ 57) = false := decide_eq_false (by omega)
  clear h hn h0 hm
  go_enter Tryd.func45, Tryd.ntmps45
  go_wp2_with fail
  refine (HC.out _).mono ?_
  rintro e w1 ⟨rfl, hb⟩
  have HB := Lib.hid hb
  clear hb
  go_wp2_with fail
  go_ret
  exact ⟨rfl, HB.out⟩
theorem cls_any (c : Int) (h0 : 0 ≤ c) (w : World) : Calls Tryd.prog 45 #[.int .i32 c] w fun e w' => e = .returned (.int .i64 (cls c)) ∧ Below w.heap.size w w' := by
  have up : ∀ {v : Int}, (Calls Tryd.prog 45 #[.int .i32 c] w fun e w' => e = .returned (.int .i64 v) ∧ w' = w) → cls c = v → Calls Tryd.prog 45 #[.int .i32 c] w fun e w' => e = .returned (.int .i64 (cls c)) ∧ Below w.heap.size w w' :=
    fun h e => e ▸ h.mono fun e w' ⟨he, hw⟩ => ⟨he, hw ▸ Below.refl _ _⟩
  by_cases h1 : c = 32
  · subst h1; exact up (cls_32 w) rfl
  by_cases h2 : c = 9
  · subst h2; exact up (cls_9 w) rfl
  by_cases h3 : c = 10
  · subst h3; exact up (cls_10 w) rfl
  by_cases h4 : c = 35
  · subst h4; exact up (cls_35 w) rfl
  by_cases h5 : c = 34
  · subst h5; exact up (cls_34 w) rfl
  have b1 : ¬ (c = 32 ∨ c = 9 ∨ c = 10) := by omega
  have hL : isL c = true ↔ (97 ≤ c ∧ c ≤ 122) ∨ (65 ≤ c ∧ c ≤ 90) := by unfold isL; rw [Bool.or_eq_true, Bool.and_eq_true, Bool.and_eq_true, decide_eq_true_iff, decide_eq_true_iff, decide_eq_true_iff, decide_eq_true_iff]
  have hG : isG c = true ↔ 48 ≤ c ∧ c ≤ 57 := by unfold isG; rw [Bool.and_eq_true, decide_eq_true_iff, decide_eq_true_iff]
  rcases (by omega : c < 48 ∨ (48 ≤ c ∧ c ≤ 57) ∨ (57 < c ∧ c < 65) ∨ (65 ≤ c ∧ c ≤ 90) ∨ (90 < c ∧ c < 97) ∨ (97 ≤ c ∧ c ≤ 122) ∨ 122 < c) with h | h | h | h | h | h | h
  · have eL : ¬ isL c = true := fun h => by have := hL.1 h; omega
    have eG : ¬ isG c = true := fun h => by have := hG.1 h; omega
    have e : cls c = if isM c = true then 6 else 0 := by unfold cls; rw [if_neg b1, if_neg h4, if_neg eL, if_neg eG, if_neg h5]
    rw [e]
    cases hm : isM c
    · rw [if_neg (by simp)]; exact cls_oa0 c h0 ⟨h1, h2, h3, h4, h5⟩ h hm w
    · rw [if_pos rfl]; exact cls_oa1 c h0 ⟨h1, h2, h3, h4, h5⟩ h hm w
  · exact up (cls_lo c h w) (by unfold cls; rw [if_neg b1, if_neg h4, if_neg (fun h => by have := hL.1 h; omega), if_pos (hG.2 h)])
  · have eL : ¬ isL c = true := fun h => by have := hL.1 h; omega
    have eG : ¬ isG c = true := fun h => by have := hG.1 h; omega
    have e : cls c = if isM c = true then 6 else 0 := by unfold cls; rw [if_neg b1, if_neg h4, if_neg eL, if_neg eG, if_neg h5]
    rw [e]
    cases hm : isM c
    · rw [if_neg (by simp)]; exact cls_ob0 c h0 ⟨h1, h2, h3, h4, h5⟩ h hm w
    · rw [if_pos rfl]; exact cls_ob1 c h0 ⟨h1, h2, h3, h4, h5⟩ h hm w
  · exact up (cls_up c h w) (by unfold cls; rw [if_neg b1, if_neg h4, if_pos (hL.2 (by omega))])
  · have eL : ¬ isL c = true := fun h => by have := hL.1 h; omega
    have eG : ¬ isG c = true := fun h => by have := hG.1 h; omega
    have e : cls c = if isM c = true then 6 else 0 := by unfold cls; rw [if_neg b1, if_neg h4, if_neg eL, if_neg eG, if_neg h5]
    rw [e]
    cases hm : isM c
    · rw [if_neg (by simp)]; exact cls_oc0 c h0 ⟨h1, h2, h3, h4, h5⟩ h hm w
    · rw [if_pos rfl]; exact cls_oc1 c h0 ⟨h1, h2, h3, h4, h5⟩ h hm w
  · exact up (cls_sm c h w) (by unfold cls; rw [if_neg b1, if_neg h4, if_pos (hL.2 (by omega))])
  · have eL : ¬ isL c = true := fun h => by have := hL.1 h; omega
    have eG : ¬ isG c = true := fun h => by have := hG.1 h; omega
    have e : cls c = if isM c = true then 6 else 0 := by unfold cls; rw [if_neg b1, if_neg h4, if_neg eL, if_neg eG, if_neg h5]
    rw [e]
    cases hm : isM c
    · rw [if_neg (by simp)]; exact cls_od0 c h0 ⟨h1, h2, h3, h4, h5⟩ h hm w
    · rw [if_pos rfl]; exact cls_od1 c h0 ⟨h1, h2, h3, h4, h5⟩ h hm w
end Go.Proofs.YtikmaljhfckbgaaDoor
