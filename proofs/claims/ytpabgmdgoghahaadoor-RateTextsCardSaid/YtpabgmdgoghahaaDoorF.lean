/- product of the reference. -/
import Derived.Test.YtpabgmdgoghahaaDoorE
import Derived.IntWalk
set_option linter.unusedVariables false
set_option linter.unusedSimpArgs false
namespace Go.Proofs.YtpabgmdgoghahaaDoor
open Go.Sort Go.ChangeShapes Go.WideShapes Go.ChangeAt Go.RowKit
theorem quo_lt (A C : Nat) (hC : 1 ≤ C) : decide (1099511627776 / (C : Int) < (A : Int)) = decide (1099511627776 < A * C) := by
  rw [decide_eq_decide, Int.ediv_lt_iff_lt_mul (by omega)]
  constructor
  · intro h; have : ((1099511627776 : Nat) : Int) < ((A * C : Nat) : Int) := by simpa using h
    omega
  · intro h; have : ((1099511627776 : Nat) : Int) < ((A * C : Nat) : Int) := by omega
    simpa using this
theorem mul_wrap (A C : Nat) (h : A * C ≤ 1099511627776) : IntKind.i64.wrap ((A : Int) * (C : Int)) = ((A * C : Nat) : Int) := by
  rw [← Int.natCast_mul]
  exact IntWalk.i64_in _ (by omega)
set_option maxHeartbeats 1000000 in
theorem rprod_any (an ad bn bd x1 x2 y1 y2 : Int) (A B C D : Nat) (w : World) (h : Parts an ad bn bd x1 x2 y1 y2 A B C D)
    (k1 : 1 ≤ an ∧ an ≤ 1099511627776) (k2 : 1 ≤ ad ∧ ad ≤ 1099511627776) (k3 : 1 ≤ bn ∧ bn ≤ 1099511627776) (k4 : 1 ≤ bd ∧ bd ≤ 1099511627776) :
    Calls Tryd.prog 39 #[.int .i64 an, .int .i64 ad, .int .i64 bn, .int .i64 bd] w fun e w' => e = .returned (if prodOk A B C D = true then .tuple #[.int .i64 ((A * C : Nat) : Int), .int .i64 ((B * D : Nat) : Int), .bool true] else .tuple #[.int .i64 0, .int .i64 0, .bool false]) ∧ Below w.heap.size w w' := by
  have hdef : prodOk A B C D = decide (A * C ≤ 1099511627776 ∧ B * D ≤ 1099511627776) := rfl
  obtain ⟨e1, e2, e3, e4, e5, e6, e7, e8, b1, b2, b3, b4, b5, b6, b7, b8⟩ := h
  have h1 := fun w => rreduce_any an ad w (by omega) (by omega)
  have h2 := fun w => rreduce_any bn bd w (by omega) (by omega)
  have h3 := fun w => rreduce_any x1 y2 w (by omega) (by omega)
  have h4 := fun w => rreduce_any y1 x2 w (by omega) (by omega)
  rw [e1, e2] at h1
  rw [e3, e4] at h2
  rw [e5, e6] at h3
  rw [e7, e8] at h4
  have z1 : ((C : Int) == 0) = false := beq_eq_false_iff_ne.2 (by omega)
  have z2 : ((D : Int) == 0) = false := beq_eq_false_iff_ne.2 (by omega)
  have H1 := Lib.hid h1
  have H2 := Lib.hid h2
  have H3 := Lib.hid h3
  have H4 := Lib.hid h4
  have a1 : (A : Int) ≤ 1099511627776 := by omega
  have a2 : (B : Int) ≤ 1099511627776 := by omega
  have a3 : (C : Int) ≤ 1099511627776 := by omega
  have a4 : (D : Int) ≤ 1099511627776 := by omega
  have a5 : 1 ≤ (C : Int) := by omega
  have a6 : 1 ≤ (D : Int) := by omega
  clear h1 h2 h3 h4 e1 e2 e3 e4 e5 e6 e7 e8 k1 k2 k3 k4
  by_cases c1 : A * C ≤ 1099511627776
  · by_cases c2 : B * D ≤ 1099511627776
    · have m1 := mul_wrap A C c1
      have m2 := mul_wrap B D c2
      have ho : prodOk A B C D = true := by rw [hdef]; exact decide_eq_true ⟨c1, c2⟩
      rw [ho, if_pos rfl]
      have q1 : decide (1099511627776 / (C : Int) < (A : Int)) = false := (quo_lt A C b7.1).trans (decide_eq_false (by omega))
      have q2 : decide (1099511627776 / (D : Int) < (B : Int)) = false := (quo_lt B D b6.1).trans (decide_eq_false (by omega))
      clear hdef ho
      generalize A * C = P at *
      generalize B * D = Q at *
      go_enter Tryd.func39, Tryd.ntmps39
      go_wp2_with fail
      refine (H1.out _).mono ?_
      rintro e w1 ⟨rfl, hb⟩
      obtain ⟨d1, o1, rfl⟩ := regrow_of hb
      clear hb
      go_wp2_with fail
      refine (H2.out _).mono ?_
      rintro e w2 ⟨rfl, hb⟩
      obtain ⟨d2, o2, rfl⟩ := regrow_of hb
      clear hb
      go_wp2_with fail
      refine (H3.out _).mono ?_
      rintro e w3 ⟨rfl, hb⟩
      obtain ⟨d3, o3, rfl⟩ := regrow_of hb
      clear hb
      go_wp2_with fail
      refine (H4.out _).mono ?_
      rintro e w4 ⟨rfl, hb⟩
      obtain ⟨d4, o4, rfl⟩ := regrow_of hb
      clear hb
      go_wp2_with fail
      go_ret3
      exact ⟨rfl, bre (Below.refl _ _) _ _⟩
    · have ho : prodOk A B C D = false := by rw [hdef]; exact decide_eq_false (by omega)
      rw [ho, if_neg (by simp)]
      have q1 : decide (1099511627776 / (C : Int) < (A : Int)) = false := (quo_lt A C b7.1).trans (decide_eq_false (by omega))
      have q2 : decide (1099511627776 / (D : Int) < (B : Int)) = true := (quo_lt B D b6.1).trans (decide_eq_true (by omega))
      clear c1 c2
      clear hdef ho
      go_enter Tryd.func39, Tryd.ntmps39
      go_wp2_with fail
      refine (H1.out _).mono ?_
      rintro e w1 ⟨rfl, hb⟩
      obtain ⟨d1, o1, rfl⟩ := regrow_of hb
      clear hb
      go_wp2_with fail
      refine (H2.out _).mono ?_
      rintro e w2 ⟨rfl, hb⟩
      obtain ⟨d2, o2, rfl⟩ := regrow_of hb
      clear hb
      go_wp2_with fail
      refine (H3.out _).mono ?_
      rintro e w3 ⟨rfl, hb⟩
      obtain ⟨d3, o3, rfl⟩ := regrow_of hb
      clear hb
      go_wp2_with fail
      refine (H4.out _).mono ?_
      rintro e w4 ⟨rfl, hb⟩
      obtain ⟨d4, o4, rfl⟩ := regrow_of hb
      clear hb
      go_wp2_with fail
      go_ret3
      exact ⟨rfl, bre (Below.refl _ _) _ _⟩
  · have ho : prodOk A B C D = false := by rw [hdef]; exact decide_eq_false (by omega)
    rw [ho, if_neg (by simp)]
    have q1 : decide (1099511627776 / (C : Int) < (A : Int)) = true := (quo_lt A C b7.1).trans (decide_eq_true (by omega))
    clear hdef ho c1
    go_enter Tryd.func39, Tryd.ntmps39
    go_wp2_with fail
    refine (H1.out _).mono ?_
    rintro e w1 ⟨rfl, hb⟩
    obtain ⟨d1, o1, rfl⟩ := regrow_of hb
    clear hb
    go_wp2_with fail
    refine (H2.out _).mono ?_
    rintro e w2 ⟨rfl, hb⟩
    obtain ⟨d2, o2, rfl⟩ := regrow_of hb
    clear hb
    go_wp2_with fail
    refine (H3.out _).mono ?_
    rintro e w3 ⟨rfl, hb⟩
    obtain ⟨d3, o3, rfl⟩ := regrow_of hb
    clear hb
    go_wp2_with fail
    refine (H4.out _).mono ?_
    rintro e w4 ⟨rfl, hb⟩
    obtain ⟨d4, o4, rfl⟩ := regrow_of hb
    clear hb
    go_wp2_with fail
    go_ret3
    exact ⟨rfl, bre (Below.refl _ _) _ _⟩
end Go.Proofs.YtpabgmdgoghahaaDoor
