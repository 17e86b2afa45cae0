/- Scale of the reference. -/
import Derived.Test.YtpabgmdgoghahaaDoorDg
set_option linter.unusedVariables false
set_option linter.unusedSimpArgs false
namespace Go.Proofs.YtpabgmdgoghahaaDoor.div
open Go.Sort Go.ChangeShapes Go.WideShapes Go.ChangeAt Go.RowKit
set_option maxRecDepth 20000 in
set_option maxHeartbeats 2000000 in
theorem rscale_core (a : Int) (c : ByteArray) (M K L q r Q mode : Int) (w : World)
    (hc : ∀ w, Calls Tryd.prog 36 #[mo a c] w fun e w' => e = .returned (.int .i64 0) ∧ Below w.heap.size w w')
    (h1 : ∀ w, Calls Tryd.prog 52 #[.int .i64 M, .int .i64 K, .int .i64 L, .int .i64 4503599627370496] w fun e w' => e = .returned (.tuple #[.int .i64 q, .int .i64 r]) ∧ w = w')
    (h2 : ∀ w, Calls Tryd.prog 53 #[.int .i64 q, .int .i64 r, .int .i64 L, .int .i64 mode] w fun e w' => e = .returned (.int .i64 Q) ∧ w = w')
    (hM : M = if a < 0 then -a else a) (a0 : -4503599627370496 ≤ a) (a1 : a ≤ 4503599627370496) (k1 : 1 ≤ K) (k2 : K ≤ 1099511627776) (l1 : 1 ≤ L) (l2 : L ≤ 1099511627776) (m1 : 1 ≤ mode) (m2 : mode ≤ 4) (q0 : 0 ≤ Q) (q1 : Q ≤ 4503599627370498) :
    Calls Tryd.prog 37 #[mo a c, .int .i64 K, .int .i64 L, .int .i64 mode] w fun e w' => e = .returned (if Q ≤ 4503599627370496 then .tuple #[mo (sgn a Q) c, .int .i64 0] else .tuple #[mo0, .int .i64 4]) ∧ Below w.heap.size w w' := by
  have HC := Lib.hid hc
  have HD := Lib.hid h1
  have HR := Lib.hid h2
  have kn : decide (K < 0) = false := decide_eq_false (by omega)
  have fK : max K (-K) = K := Int.max_eq_left (by omega)
  have g1 : decide (L < 1) = false := decide_eq_false (by omega)
  have g2 : decide (1099511627776 < L) = false := decide_eq_false (by omega)
  have g3 : decide (K < -1099511627776) = false := decide_eq_false (by omega)
  have g4 : decide (1099511627776 < K) = false := decide_eq_false (by omega)
  have g5 : decide (mode < 1) = false := decide_eq_false (by omega)
  have g6 : decide (4 < mode) = false := decide_eq_false (by omega)
  unfold mo0 at *
  unfold mo at *
  clear hc h1 h2
  by_cases hs : a < 0
  · rw [if_pos hs] at hM
    subst hM
    have ha : decide (a < 0) = true := decide_eq_true hs
    have fa : max a (-a) = -a := Int.max_eq_right (by omega)
    by_cases hQ : Q ≤ 4503599627370496
    · rw [if_pos hQ, show sgn a Q = -Q from if_pos hs]
      clear hs
      go_enter Tryd.func37, Tryd.ntmps37
      go_wp2_with fail
      refine (HC.out _).mono ?_
      rintro e w1 ⟨rfl, hb⟩
      obtain ⟨d1, o1, rfl⟩ := regrow_of hb
      clear hb
      go_wp2_with fail
      refine (HD.out _).mono ?_
      rintro e w2 ⟨rfl, rfl⟩
      go_wp2_with fail
      refine (HR.out _).mono ?_
      rintro e w2 ⟨rfl, rfl⟩
      go_wp2_with fail
      exact bodyPost_ret (v := .tuple #[.agg #[.int .i64 (-Q), .string c], .int .i64 0]) (by simp [results, Tryd.results37, go_sem]) rfl ⟨rfl, bre (al (al (Below.refl _ _))) _ _⟩
    · rw [if_neg hQ]
      clear hs
      go_enter Tryd.func37, Tryd.ntmps37
      go_wp2_with fail
      refine (HC.out _).mono ?_
      rintro e w1 ⟨rfl, hb⟩
      obtain ⟨d1, o1, rfl⟩ := regrow_of hb
      clear hb
      go_wp2_with fail
      refine (HD.out _).mono ?_
      rintro e w2 ⟨rfl, rfl⟩
      go_wp2_with fail
      refine (HR.out _).mono ?_
      rintro e w2 ⟨rfl, rfl⟩
      go_wp2_with fail
      exact bodyPost_ret (v := .tuple #[.agg #[.int .i64 0, .string ⟨#[]⟩], .int .i64 4]) (by simp [results, Tryd.results37, go_sem]) rfl ⟨rfl, bre (al (al (Below.refl _ _))) _ _⟩
  · rw [if_neg hs] at hM
    subst hM
    have ha : decide (M < 0) = false := decide_eq_false hs
    have fa : max M (-M) = M := Int.max_eq_left (by omega)
    by_cases hQ : Q ≤ 4503599627370496
    · rw [if_pos hQ, show sgn M Q = Q from if_neg hs]
      clear hs
      go_enter Tryd.func37, Tryd.ntmps37
      go_wp2_with fail
      refine (HC.out _).mono ?_
      rintro e w1 ⟨rfl, hb⟩
      obtain ⟨d1, o1, rfl⟩ := regrow_of hb
      clear hb
      go_wp2_with fail
      refine (HD.out _).mono ?_
      rintro e w2 ⟨rfl, rfl⟩
      go_wp2_with fail
      refine (HR.out _).mono ?_
      rintro e w2 ⟨rfl, rfl⟩
      go_wp2_with fail
      exact bodyPost_ret (v := .tuple #[.agg #[.int .i64 Q, .string c], .int .i64 0]) (by simp [results, Tryd.results37, go_sem]) rfl ⟨rfl, bre (al (al (Below.refl _ _))) _ _⟩
    · rw [if_neg hQ]
      clear hs
      go_enter Tryd.func37, Tryd.ntmps37
      go_wp2_with fail
      refine (HC.out _).mono ?_
      rintro e w1 ⟨rfl, hb⟩
      obtain ⟨d1, o1, rfl⟩ := regrow_of hb
      clear hb
      go_wp2_with fail
      refine (HD.out _).mono ?_
      rintro e w2 ⟨rfl, rfl⟩
      go_wp2_with fail
      refine (HR.out _).mono ?_
      rintro e w2 ⟨rfl, rfl⟩
      go_wp2_with fail
      exact bodyPost_ret (v := .tuple #[.agg #[.int .i64 0, .string ⟨#[]⟩], .int .i64 4]) (by simp [results, Tryd.results37, go_sem]) rfl ⟨rfl, bre (al (al (Below.refl _ _))) _ _⟩
end Go.Proofs.YtpabgmdgoghahaaDoor.div
