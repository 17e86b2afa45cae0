/- Scale of the program where its product has two words, and Convert of both. -/
import Derived.Test.YtpabgmdgoghahaaDoorDi
set_option linter.unusedVariables false
set_option linter.unusedSimpArgs false
namespace Go.Proofs.YtpabgmdgoghahaaDoor.div
open Go.Sort Go.ChangeShapes Go.WideShapes Go.ChangeAt Go.RowKit
/-- the high word is not below the divisor -/
theorem scale_too (a : Int) (c : ByteArray) (M K L H P mode : Int) (w : World)
    (hc : ∀ w, Calls Tryd.prog 34 #[mo a c] w fun e w' => e = .returned (.int .i64 0) ∧ Below w.heap.size w w')
    (h1 : ∀ w, Calls Tryd.prog 47 #[.int .i64 a] w fun e w' => e = .returned (.int .u64 M) ∧ w = w')
    (h2 : ∀ w, Calls Tryd.prog 47 #[.int .i64 K] w fun e w' => e = .returned (.int .u64 K) ∧ w = w')
    (h3 : ∀ w, Calls Tryd.prog 46 #[.int .u64 M, .int .u64 K] w fun e w' => e = .returned (.tuple #[.int .u64 H, .int .u64 P]) ∧ w' = w)
    (hL : decide (L ≤ H) = true)
    (k1 : 1 ≤ K) (k2 : K ≤ 1099511627776) (l1 : 1 ≤ L) (l2 : L ≤ 1099511627776) (m1 : 1 ≤ mode) (m2 : mode ≤ 4) :
    Calls Tryd.prog 35 #[mo a c, .int .i64 K, .int .i64 L, .int .i64 mode] w fun e w' => e = .returned (.tuple #[mo0, .int .i64 4]) ∧ Below w.heap.size w w' := by
  have HC := Lib.hid hc
  have H1 := Lib.hid h1
  have H2 := Lib.hid h2
  have H3 := Lib.hid h3
  clear hc h1 h2 h3
  unfold mo0 at *
  unfold mo at *
  go_enter Tryd.func35, Tryd.ntmps35
  go_wp2_with fail
  refine (HC.out _).mono ?_
  rintro e w1 ⟨rfl, hb⟩
  obtain ⟨d1, o1, rfl⟩ := regrow_of hb
  clear hb
  go_wp2_with fail
  refine (H1.out _).mono ?_
  rintro e w2 ⟨rfl, rfl⟩
  go_wp2_with fail
  refine (H2.out _).mono ?_
  rintro e w2 ⟨rfl, rfl⟩
  go_wp2_with fail
  refine (H3.out _).mono ?_
  rintro e w2 ⟨rfl, rfl⟩
  go_wp2_with fail
  exact bodyPost_ret (v := .tuple #[.agg #[.int .i64 0, .string ⟨#[]⟩], .int .i64 4]) (by simp [results, Tryd.results35, go_sem]) rfl ⟨rfl, bre (al (al (Below.refl _ _))) _ _⟩
/-- the quotient is above the limit -/
theorem scale_far (a : Int) (c : ByteArray) (M K L H P q r mode : Int) (w : World)
    (hc : ∀ w, Calls Tryd.prog 34 #[mo a c] w fun e w' => e = .returned (.int .i64 0) ∧ Below w.heap.size w w')
    (h1 : ∀ w, Calls Tryd.prog 47 #[.int .i64 a] w fun e w' => e = .returned (.int .u64 M) ∧ w = w')
    (h2 : ∀ w, Calls Tryd.prog 47 #[.int .i64 K] w fun e w' => e = .returned (.int .u64 K) ∧ w = w')
    (h3 : ∀ w, Calls Tryd.prog 46 #[.int .u64 M, .int .u64 K] w fun e w' => e = .returned (.tuple #[.int .u64 H, .int .u64 P]) ∧ w' = w)
    (h4 : ∀ w, Calls Tryd.prog 48 #[.int .u64 H, .int .u64 P, .int .u64 L] w fun e w' => e = .returned (.tuple #[.int .u64 q, .int .u64 r]) ∧ Below w.heap.size w w')
    (hL : decide (L ≤ H) = false) (hq : decide (q ≤ 4503599627370496) = false) (hq2 : decide (4503599627370496 < q) = true)
    (k1 : 1 ≤ K) (k2 : K ≤ 1099511627776) (l1 : 1 ≤ L) (l2 : L ≤ 1099511627776) (m1 : 1 ≤ mode) (m2 : mode ≤ 4) :
    Calls Tryd.prog 35 #[mo a c, .int .i64 K, .int .i64 L, .int .i64 mode] w fun e w' => e = .returned (.tuple #[mo0, .int .i64 4]) ∧ Below w.heap.size w w' := by
  have HC := Lib.hid hc
  have H1 := Lib.hid h1
  have H2 := Lib.hid h2
  have H3 := Lib.hid h3
  have H4 := Lib.hid h4
  clear hc h1 h2 h3 h4
  unfold mo0 at *
  unfold mo at *
  go_enter Tryd.func35, Tryd.ntmps35
  go_wp2_with fail
  refine (HC.out _).mono ?_
  rintro e w1 ⟨rfl, hb⟩
  obtain ⟨d1, o1, rfl⟩ := regrow_of hb
  clear hb
  go_wp2_with fail
  refine (H1.out _).mono ?_
  rintro e w2 ⟨rfl, rfl⟩
  go_wp2_with fail
  refine (H2.out _).mono ?_
  rintro e w2 ⟨rfl, rfl⟩
  go_wp2_with fail
  refine (H3.out _).mono ?_
  rintro e w2 ⟨rfl, rfl⟩
  go_wp2_with fail
  refine (H4.out _).mono ?_
  rintro e w1 ⟨rfl, hb⟩
  obtain ⟨d2, o2, rfl⟩ := regrow_of hb
  clear hb
  go_wp2_with fail
  exact bodyPost_ret (v := .tuple #[.agg #[.int .i64 0, .string ⟨#[]⟩], .int .i64 4]) (by simp [results, Tryd.results35, go_sem]) rfl ⟨rfl, bre (al (al (Below.refl _ _))) _ _⟩
/-- the quotient is the limit, and rounded up -/
theorem scale_top (a : Int) (c : ByteArray) (M K L H P r mode : Int) (w : World)
    (hc : ∀ w, Calls Tryd.prog 34 #[mo a c] w fun e w' => e = .returned (.int .i64 0) ∧ Below w.heap.size w w')
    (h1 : ∀ w, Calls Tryd.prog 47 #[.int .i64 a] w fun e w' => e = .returned (.int .u64 M) ∧ w = w')
    (h2 : ∀ w, Calls Tryd.prog 47 #[.int .i64 K] w fun e w' => e = .returned (.int .u64 K) ∧ w = w')
    (h3 : ∀ w, Calls Tryd.prog 46 #[.int .u64 M, .int .u64 K] w fun e w' => e = .returned (.tuple #[.int .u64 H, .int .u64 P]) ∧ w' = w)
    (h4 : ∀ w, Calls Tryd.prog 48 #[.int .u64 H, .int .u64 P, .int .u64 L] w fun e w' => e = .returned (.tuple #[.int .u64 4503599627370496, .int .u64 r]) ∧ Below w.heap.size w w')
    (h5 : ∀ w, Calls Tryd.prog 49 #[.int .u64 4503599627370496, .int .u64 r, .int .u64 L, .int .i64 mode] w fun e w' => e = .returned (.bool true) ∧ w = w')
    (hL : decide (L ≤ H) = false)
    (k1 : 1 ≤ K) (k2 : K ≤ 1099511627776) (l1 : 1 ≤ L) (l2 : L ≤ 1099511627776) (m1 : 1 ≤ mode) (m2 : mode ≤ 4) :
    Calls Tryd.prog 35 #[mo a c, .int .i64 K, .int .i64 L, .int .i64 mode] w fun e w' => e = .returned (.tuple #[mo0, .int .i64 4]) ∧ Below w.heap.size w w' := by
  have HC := Lib.hid hc
  have H1 := Lib.hid h1
  have H2 := Lib.hid h2
  have H3 := Lib.hid h3
  have H4 := Lib.hid h4
  have H5 := Lib.hid h5
  clear hc h1 h2 h3 h4 h5
  unfold mo0 at *
  unfold mo at *
  go_enter Tryd.func35, Tryd.ntmps35
  go_wp2_with fail
  refine (HC.out _).mono ?_
  rintro e w1 ⟨rfl, hb⟩
  obtain ⟨d1, o1, rfl⟩ := regrow_of hb
  clear hb
  go_wp2_with fail
  refine (H1.out _).mono ?_
  rintro e w2 ⟨rfl, rfl⟩
  go_wp2_with fail
  refine (H2.out _).mono ?_
  rintro e w2 ⟨rfl, rfl⟩
  go_wp2_with fail
  refine (H3.out _).mono ?_
  rintro e w2 ⟨rfl, rfl⟩
  go_wp2_with fail
  refine (H4.out _).mono ?_
  rintro e w1 ⟨rfl, hb⟩
  obtain ⟨d2, o2, rfl⟩ := regrow_of hb
  clear hb
  go_wp2_with fail
  refine (H5.out _).mono ?_
  rintro e w2 ⟨rfl, rfl⟩
  go_wp2_with fail
  exact bodyPost_ret (v := .tuple #[.agg #[.int .i64 0, .string ⟨#[]⟩], .int .i64 4]) (by simp [results, Tryd.results35, go_sem]) rfl ⟨rfl, bre (al (al (Below.refl _ _))) _ _⟩
set_option maxHeartbeats 2000000 in
/-- the rounded quotient is within the limit -/
theorem scale_core2 (a : Int) (c : ByteArray) (M K L H P q r : Int) (mode : Int) (b : Bool) (w : World)
    (hc : ∀ w, Calls Tryd.prog 34 #[mo a c] w fun e w' => e = .returned (.int .i64 0) ∧ Below w.heap.size w w')
    (h1 : ∀ w, Calls Tryd.prog 47 #[.int .i64 a] w fun e w' => e = .returned (.int .u64 M) ∧ w = w')
    (h2 : ∀ w, Calls Tryd.prog 47 #[.int .i64 K] w fun e w' => e = .returned (.int .u64 K) ∧ w = w')
    (h3 : ∀ w, Calls Tryd.prog 46 #[.int .u64 M, .int .u64 K] w fun e w' => e = .returned (.tuple #[.int .u64 H, .int .u64 P]) ∧ w' = w)
    (h4 : ∀ w, Calls Tryd.prog 48 #[.int .u64 H, .int .u64 P, .int .u64 L] w fun e w' => e = .returned (.tuple #[.int .u64 q, .int .u64 r]) ∧ Below w.heap.size w w')
    (h5 : ∀ w, Calls Tryd.prog 49 #[.int .u64 q, .int .u64 r, .int .u64 L, .int .i64 mode] w fun e w' => e = .returned (.bool b) ∧ w = w')
    (hL : decide (L ≤ H) = false)
    (k1 : 1 ≤ K) (k2 : K ≤ 1099511627776) (l1 : 1 ≤ L) (l2 : L ≤ 1099511627776) (m1 : 1 ≤ mode) (m2 : mode ≤ 4) (q1 : 0 ≤ q) (q2 : q ≤ 4503599627370496) (qb : q + bI b ≤ 4503599627370496) :
    Calls Tryd.prog 35 #[mo a c, .int .i64 K, .int .i64 L, .int .i64 mode] w fun e w' => e = .returned (.tuple #[mo (sgn a (q + bI b)) c, .int .i64 0]) ∧ Below w.heap.size w w' := by
  have HC := Lib.hid hc
  have H1 := Lib.hid h1
  have H2 := Lib.hid h2
  have H3 := Lib.hid h3
  have H4 := Lib.hid h4
  have H5 := Lib.hid h5
  have kn : decide (K < 0) = false := decide_eq_false (by omega)
  clear hc h1 h2 h3 h4 h5
  unfold mo at *
  by_cases hs : a < 0
  · have ha : decide (a < 0) = true := decide_eq_true hs
    have e0 : sgn a (q + bI b) = -(q + bI b) := if_pos hs
    rw [e0]
    clear e0 hs
    cases b
    · rw [show q + bI false = q from by simp [bI]]
      clear qb
      go_enter Tryd.func35, Tryd.ntmps35
      go_wp2_with fail
      refine (HC.out _).mono ?_
      rintro e w1 ⟨rfl, hb⟩
      obtain ⟨d1, o1, rfl⟩ := regrow_of hb
      clear hb
      go_wp2_with fail
      refine (H1.out _).mono ?_
      rintro e w2 ⟨rfl, rfl⟩
      go_wp2_with fail
      refine (H2.out _).mono ?_
      rintro e w2 ⟨rfl, rfl⟩
      go_wp2_with fail
      refine (H3.out _).mono ?_
      rintro e w2 ⟨rfl, rfl⟩
      go_wp2_with fail
      refine (H4.out _).mono ?_
      rintro e w1 ⟨rfl, hb⟩
      obtain ⟨d2, o2, rfl⟩ := regrow_of hb
      clear hb
      go_wp2_with fail
      refine (H5.out _).mono ?_
      rintro e w2 ⟨rfl, rfl⟩
      go_wp2_with fail
      exact bodyPost_ret (v := .tuple #[.agg #[.int .i64 (-q), .string c], .int .i64 0]) (by simp [results, Tryd.results35, go_sem]) rfl ⟨rfl, bre (al (al (Below.refl _ _))) _ _⟩
    · have q3 : q ≤ 4503599627370495 := by have h : q + 1 ≤ 4503599627370496 := qb; omega
      rw [show q + bI true = q + 1 from by simp [bI]]
      clear qb
      go_enter Tryd.func35, Tryd.ntmps35
      go_wp2_with fail
      refine (HC.out _).mono ?_
      rintro e w1 ⟨rfl, hb⟩
      obtain ⟨d1, o1, rfl⟩ := regrow_of hb
      clear hb
      go_wp2_with fail
      refine (H1.out _).mono ?_
      rintro e w2 ⟨rfl, rfl⟩
      go_wp2_with fail
      refine (H2.out _).mono ?_
      rintro e w2 ⟨rfl, rfl⟩
      go_wp2_with fail
      refine (H3.out _).mono ?_
      rintro e w2 ⟨rfl, rfl⟩
      go_wp2_with fail
      refine (H4.out _).mono ?_
      rintro e w1 ⟨rfl, hb⟩
      obtain ⟨d2, o2, rfl⟩ := regrow_of hb
      clear hb
      go_wp2_with fail
      refine (H5.out _).mono ?_
      rintro e w2 ⟨rfl, rfl⟩
      go_wp2_with fail
      exact bodyPost_ret (v := .tuple #[.agg #[.int .i64 (-(q + 1)), .string c], .int .i64 0]) (by simp [results, Tryd.results35, go_sem]) rfl ⟨rfl, bre (al (al (Below.refl _ _))) _ _⟩
  · have ha : decide (a < 0) = false := decide_eq_false hs
    have e0 : sgn a (q + bI b) = q + bI b := if_neg hs
    rw [e0]
    clear e0 hs
    cases b
    · rw [show q + bI false = q from by simp [bI]]
      clear qb
      go_enter Tryd.func35, Tryd.ntmps35
      go_wp2_with fail
      refine (HC.out _).mono ?_
      rintro e w1 ⟨rfl, hb⟩
      obtain ⟨d1, o1, rfl⟩ := regrow_of hb
      clear hb
      go_wp2_with fail
      refine (H1.out _).mono ?_
      rintro e w2 ⟨rfl, rfl⟩
      go_wp2_with fail
      refine (H2.out _).mono ?_
      rintro e w2 ⟨rfl, rfl⟩
      go_wp2_with fail
      refine (H3.out _).mono ?_
      rintro e w2 ⟨rfl, rfl⟩
      go_wp2_with fail
      refine (H4.out _).mono ?_
      rintro e w1 ⟨rfl, hb⟩
      obtain ⟨d2, o2, rfl⟩ := regrow_of hb
      clear hb
      go_wp2_with fail
      refine (H5.out _).mono ?_
      rintro e w2 ⟨rfl, rfl⟩
      go_wp2_with fail
      exact bodyPost_ret (v := .tuple #[.agg #[.int .i64 q, .string c], .int .i64 0]) (by simp [results, Tryd.results35, go_sem]) rfl ⟨rfl, bre (al (al (Below.refl _ _))) _ _⟩
    · have q3 : q ≤ 4503599627370495 := by have h : q + 1 ≤ 4503599627370496 := qb; omega
      rw [show q + bI true = q + 1 from by simp [bI]]
      clear qb
      go_enter Tryd.func35, Tryd.ntmps35
      go_wp2_with fail
      refine (HC.out _).mono ?_
      rintro e w1 ⟨rfl, hb⟩
      obtain ⟨d1, o1, rfl⟩ := regrow_of hb
      clear hb
      go_wp2_with fail
      refine (H1.out _).mono ?_
      rintro e w2 ⟨rfl, rfl⟩
      go_wp2_with fail
      refine (H2.out _).mono ?_
      rintro e w2 ⟨rfl, rfl⟩
      go_wp2_with fail
      refine (H3.out _).mono ?_
      rintro e w2 ⟨rfl, rfl⟩
      go_wp2_with fail
      refine (H4.out _).mono ?_
      rintro e w1 ⟨rfl, hb⟩
      obtain ⟨d2, o2, rfl⟩ := regrow_of hb
      clear hb
      go_wp2_with fail
      refine (H5.out _).mono ?_
      rintro e w2 ⟨rfl, rfl⟩
      go_wp2_with fail
      exact bodyPost_ret (v := .tuple #[.agg #[.int .i64 (q + 1), .string c], .int .i64 0]) (by simp [results, Tryd.results35, go_sem]) rfl ⟨rfl, bre (al (al (Below.refl _ _))) _ _⟩
theorem up_same (q r L : Nat) (mode : Int) : upB q r L mode = upI q r L mode := by
  unfold upB upI
  have e1 : decide (0 < r) = decide ((0 : Int) < (r : Int)) := decide_eq_decide.2 (by omega)
  have e2 : decide (L ≤ 2 * r) = decide ((L : Int) ≤ 2 * (r : Int)) := decide_eq_decide.2 (by omega)
  have e3 : decide (L < 2 * r) = decide ((L : Int) < 2 * (r : Int)) := decide_eq_decide.2 (by omega)
  have e4 : decide (2 * r = L) = decide (2 * (r : Int) = (L : Int)) := decide_eq_decide.2 (by omega)
  have e5 : decide (q % 2 = 1) = decide ((q : Int) % 2 = 1) := decide_eq_decide.2 (by omega)
  rw [e1, e2, e3, e4, e5]
/-- the division, whatever the words -/
theorem div_words (P L : Nat) (w : World) (hP : P / 18446744073709551616 < L) (l1 : 1 ≤ L) (l2 : L < 18446744073709551616) :
    Calls Tryd.prog 48 #[.int .u64 ((P / 18446744073709551616 : Nat) : Int), .int .u64 ((P % 18446744073709551616 : Nat) : Int), .int .u64 L] w fun e w' => e = .returned (.tuple #[.int .u64 ((P / L : Nat) : Int), .int .u64 ((P % L : Nat) : Int)]) ∧ Below w.heap.size w w' := by
  by_cases h : P < 18446744073709551616
  · rw [Nat.div_eq_of_lt h, Nat.mod_eq_of_lt h]
    exact div_nat P L w h l1 l2
  · have := div_full (P / 18446744073709551616) (P % 18446744073709551616) L w hP (by have := Nat.div_le_div_right (c := 18446744073709551616) (Nat.le_of_not_lt h); simpa using this) (Nat.mod_lt _ (by decide)) l2
    rw [Nat.mul_comm (P / 18446744073709551616), Nat.div_add_mod] at this
    exact this
/-- what Scale answers at any factors -/
theorem scale_full (a : Int) (c : ByteArray) (K L : Nat) (mode : Int) (w : World) (hc : c.size ≤ maxLen) (hcl : curL c.data.toList = true) (a0 : -4503599627370496 ≤ a) (a1 : a ≤ 4503599627370496)
    (k1 : 1 ≤ K) (k2 : K ≤ 1099511627776) (l1 : 1 ≤ L) (l2 : L ≤ 1099511627776) (m1 : 1 ≤ mode) (m2 : mode ≤ 4) :
    Calls Tryd.prog 35 #[mo a c, .int .i64 K, .int .i64 L, .int .i64 mode] w fun e w' => e = .returned (if rndQ a K L mode ≤ 4503599627370496 then .tuple #[mo (sgn a (rndQ a K L mode)) c, .int .i64 0] else .tuple #[mo0, .int .i64 4]) ∧ Below w.heap.size w w' := by
  have hbI : ∀ b, 0 ≤ bI b ∧ bI b ≤ 1 := by intro b; cases b <;> decide
  have hr : a.natAbs * K % L < L := Nat.mod_lt _ (by omega)
  have hcm : K * a.natAbs = a.natAbs * K := Nat.mul_comm _ _
  have h3 : ∀ w, Calls Tryd.prog 46 #[.int .u64 (a.natAbs : Nat), .int .u64 K] w fun e w' => e = .returned (.tuple #[.int .u64 ((a.natAbs * K / 18446744073709551616 : Nat) : Int), .int .u64 ((a.natAbs * K % 18446744073709551616 : Nat) : Int)]) ∧ w' = w := fun w =>
    (Tryd.bits_Mul64 a.natAbs K (by omega) (by omega) w).mono fun e w' ⟨he, hw⟩ => ⟨he, hw⟩
  have g1 := fun w => mcheck_ok a c hc hcl a0 a1 w
  have g2 := fun w => magn_any a a0 a1 w
  have g3 := fun w => magn_s K (by omega) (by omega) w
  unfold rndQ
  rw [hcm]
  generalize a.natAbs * K = P at *
  by_cases hH : L ≤ P / 18446744073709551616
  · have hq : 4503599627370497 ≤ P / L := by
      rw [Nat.le_div_iff_mul_le (by omega)] at hH ⊢
      omega
    have hcq : capQ (P / L) = 4503599627370497 := by unfold capQ; rw [if_neg (by omega)]
    have := (hbI (upI (capQ (P / L)) ((P % L : Nat) : Int) L mode)).1
    rw [if_neg (by rw [hcq] at this ⊢; omega)]
    exact scale_too a c (a.natAbs : Nat) K L _ _ mode w g1 g2 g3 h3 (decide_eq_true (by omega)) (by omega) (by omega) (by omega) (by omega) m1 m2
  · have hdl : decide ((L : Int) ≤ ((P / 18446744073709551616 : Nat) : Int)) = false := decide_eq_false (by omega)
    have g4 := fun w => div_words P L w (by omega) l1 (by omega)
    by_cases hq : P / L ≤ 4503599627370496
    · have hcq : capQ (P / L) = ((P / L : Nat) : Int) := by unfold capQ; rw [if_pos hq]
      have g5 := fun w => up_any (P / L) (P % L) L mode hq (by omega) (by omega) m1 m2 w
      rw [up_same] at g5
      rw [hcq]
      by_cases hs : ((P / L : Nat) : Int) + bI (upI ((P / L : Nat) : Int) ((P % L : Nat) : Int) L mode) ≤ 4503599627370496
      · rw [if_pos hs]
        exact scale_core2 a c (a.natAbs : Nat) K L _ _ _ _ mode _ w g1 g2 g3 h3 g4 g5 hdl (by omega) (by omega) (by omega) (by omega) m1 m2 (Int.natCast_nonneg _) (by omega) hs
      · rw [if_neg hs]
        have hb : upI ((P / L : Nat) : Int) ((P % L : Nat) : Int) L mode = true := by
          cases h : upI ((P / L : Nat) : Int) ((P % L : Nat) : Int) L mode
          · rw [h, show bI false = 0 from rfl] at hs; exfalso; generalize P / L = z at *; omega
          · rfl
        rw [hb] at g5 hs
        have hqq : ((P / L : Nat) : Int) = 4503599627370496 := by rw [show bI true = 1 from rfl] at hs; generalize P / L = z at *; omega
        rw [hqq] at g4 g5
        exact scale_top a c (a.natAbs : Nat) K L _ _ _ mode w g1 g2 g3 h3 g4 g5 hdl (by omega) (by omega) (by omega) (by omega) m1 m2
    · have hcq : capQ (P / L) = 4503599627370497 := by unfold capQ; rw [if_neg hq]
      have := (hbI (upI (capQ (P / L)) ((P % L : Nat) : Int) L mode)).1
      rw [if_neg (by rw [hcq] at this ⊢; omega)]
      exact scale_far a c (a.natAbs : Nat) K L _ _ _ _ mode w g1 g2 g3 h3 g4 hdl (decide_eq_false (by omega)) (decide_eq_true (by omega)) (by omega) (by omega) (by omega) (by omega) m1 m2
end Go.Proofs.YtpabgmdgoghahaaDoor.div
