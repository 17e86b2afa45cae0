/- product of both. -/
import Derived.Test.YtpabgmdgoghahaaDoorD
import Derived.Test.YtpabgmdgoghahaaDoorShelf
set_option linter.unusedVariables false
set_option linter.unusedSimpArgs false
namespace Go.Proofs.YtpabgmdgoghahaaDoor
open Go.Sort Go.ChangeShapes Go.WideShapes Go.ChangeAt Go.RowKit
/-- the four parts of a product, each against each in lowest terms -/
structure Parts (an ad bn bd : Int) (x1 x2 y1 y2 : Int) (A B C D : Nat) : Prop where
  e1 : redN an ad = x1
  e2 : redD an ad = x2
  e3 : redN bn bd = y1
  e4 : redD bn bd = y2
  e5 : redN x1 y2 = A
  e6 : redD x1 y2 = D
  e7 : redN y1 x2 = C
  e8 : redD y1 x2 = B
  b1 : 1 ≤ x1 ∧ x1 ≤ 1099511627776
  b2 : 1 ≤ x2 ∧ x2 ≤ 1099511627776
  b3 : 1 ≤ y1 ∧ y1 ≤ 1099511627776
  b4 : 1 ≤ y2 ∧ y2 ≤ 1099511627776
  b5 : 1 ≤ A ∧ A ≤ 1099511627776
  b6 : 1 ≤ D ∧ D ≤ 1099511627776
  b7 : 1 ≤ C ∧ C ≤ 1099511627776
  b8 : 1 ≤ B ∧ B ≤ 1099511627776
theorem parts_of (an ad bn bd : Int) (h1 : 1 ≤ an ∧ an ≤ 1099511627776) (h2 : 1 ≤ ad ∧ ad ≤ 1099511627776) (h3 : 1 ≤ bn ∧ bn ≤ 1099511627776) (h4 : 1 ≤ bd ∧ bd ≤ 1099511627776) :
    ∃ x1 x2 y1 y2 A B C D, Parts an ad bn bd x1 x2 y1 y2 A B C D := by
  obtain ⟨p1, p2, p3, p4⟩ := red_range an ad h1.1 h2.1
  obtain ⟨q1, q2, q3, q4⟩ := red_range bn bd h3.1 h4.1
  obtain ⟨r1, r2, r3, r4⟩ := red_range (redN an ad) (redD bn bd) p1 q3
  obtain ⟨s1, s2, s3, s4⟩ := red_range (redN bn bd) (redD an ad) q1 p3
  refine ⟨redN an ad, redD an ad, redN bn bd, redD bn bd, (redN (redN an ad) (redD bn bd)).toNat, (redD (redN bn bd) (redD an ad)).toNat, (redN (redN bn bd) (redD an ad)).toNat, (redD (redN an ad) (redD bn bd)).toNat, ?_⟩
  constructor <;> first | rfl | omega
def prodOk (A B C D : Nat) : Bool := decide (A * C ≤ 1099511627776 ∧ B * D ≤ 1099511627776)
theorem mul_lt (A C : Nat) (hA : A ≤ 1099511627776) (hC : C ≤ 1099511627776) : A * C ≤ 1208925819614629174706176 := Nat.le_trans (Nat.mul_le_mul hA hC) (by decide)
theorem over (P : Nat) (h : 1099511627776 < P) (h2 : P ≤ 1208925819614629174706176) (h3 : P / 18446744073709551616 = 0) : 1099511627776 < P % 18446744073709551616 := by
  omega
set_option maxHeartbeats 1000000 in
theorem prod_ok (f1 t1 f2 t2 : ByteArray) (an ad bn bd x1 x2 y1 y2 : Int) (A B C D : Nat) (w : World) (h : Parts an ad bn bd x1 x2 y1 y2 A B C D)
    (k1 : 1 ≤ an ∧ an ≤ 1099511627776) (k2 : 1 ≤ ad ∧ ad ≤ 1099511627776) (k3 : 1 ≤ bn ∧ bn ≤ 1099511627776) (k4 : 1 ≤ bd ∧ bd ≤ 1099511627776) (hok : prodOk A B C D = true) :
    Calls Tryd.prog 38 #[rt f1 t1 an ad, rt f2 t2 bn bd] w fun e w' => e = .returned (.tuple #[rt f1 t2 ((A * C : Nat) : Int) ((B * D : Nat) : Int), .int .i64 0]) ∧ Below w.heap.size w w' := by
  obtain ⟨hP, hQ⟩ : A * C ≤ 1099511627776 ∧ B * D ≤ 1099511627776 := of_decide_eq_true hok
  have m1 : (A * C) / 18446744073709551616 = 0 := by omega
  have m2 : (A * C) % 18446744073709551616 = A * C := by omega
  have m3 : (B * D) / 18446744073709551616 = 0 := by omega
  have m4 : (B * D) % 18446744073709551616 = B * D := by omega
  obtain ⟨e1, e2, e3, e4, e5, e6, e7, e8, b1, b2, b3, b4, b5, b6, b7, b8⟩ := h
  have h1 := fun w => reduce_any an ad w (by omega) (by omega)
  have h2 := fun w => reduce_any bn bd w (by omega) (by omega)
  have h3 := fun w => reduce_any x1 y2 w (by omega) (by omega)
  have h4 := fun w => reduce_any y1 x2 w (by omega) (by omega)
  rw [e1, e2] at h1
  rw [e3, e4] at h2
  rw [e5, e6] at h3
  rw [e7, e8] at h4
  have H1 := Lib.hid h1
  have H2 := Lib.hid h2
  have H3 := Lib.hid h3
  have H4 := Lib.hid h4
  have a1 : (A : Int) ≤ 1099511627776 := by omega
  have a2 : (B : Int) ≤ 1099511627776 := by omega
  have a3 : (C : Int) ≤ 1099511627776 := by omega
  have a4 : (D : Int) ≤ 1099511627776 := by omega
  clear h1 h2 h3 h4 e1 e2 e3 e4 e5 e6 e7 e8 k1 k2 k3 k4
  have hM1 : ∀ w, Calls Tryd.prog 46 #[.int .u64 A, .int .u64 C] w fun e w' => e = .returned (.tuple #[.int .u64 0, .int .u64 ((A * C : Nat) : Int)]) ∧ w' = w := fun w => (Tryd.bits_Mul64 A C (by omega) (by omega) w).mono fun e w' ⟨he, hw⟩ => ⟨by rw [he, m1, m2]; rfl, hw⟩
  have hM2 : ∀ w, Calls Tryd.prog 46 #[.int .u64 B, .int .u64 D] w fun e w' => e = .returned (.tuple #[.int .u64 0, .int .u64 ((B * D : Nat) : Int)]) ∧ w' = w := fun w => (Tryd.bits_Mul64 B D (by omega) (by omega) w).mono fun e w' ⟨he, hw⟩ => ⟨by rw [he, m3, m4]; rfl, hw⟩
  have HM1 := Lib.hid hM1
  have HM2 := Lib.hid hM2
  have g1 : 0 ≤ ((A * C : Nat) : Int) := by omega
  have g2 : ((A * C : Nat) : Int) ≤ 1099511627776 := by omega
  have g3 : 0 ≤ ((B * D : Nat) : Int) := by omega
  have g4 : ((B * D : Nat) : Int) ≤ 1099511627776 := by omega
  clear hM1 hM2 m1 m2 m3 m4 hok
  generalize A * C = P at *
  generalize B * D = Q at *
  unfold rt
  go_enter Tryd.func38, Tryd.ntmps38
  go_wp2_with fail
  refine (H1.out _).mono ?_
  rintro e w1 ⟨rfl, hb⟩
  obtain ⟨d1, o1, rfl⟩ := regrow_of hb
  clear hb
  go_wp2_with fail
  refine (H2.out _).mono ?_
  rintro e w2 ⟨rfl, hb⟩
  obtain ⟨d2, o2, rfl⟩ := regrow_of hb
  clear hb
  go_wp2_with fail
  refine (H3.out _).mono ?_
  rintro e w3 ⟨rfl, hb⟩
  obtain ⟨d3, o3, rfl⟩ := regrow_of hb
  clear hb
  go_wp2_with fail
  refine (H4.out _).mono ?_
  rintro e w4 ⟨rfl, hb⟩
  obtain ⟨d4, o4, rfl⟩ := regrow_of hb
  clear hb
  go_wp2_with fail
  refine (HM1.out _).mono ?_
  rintro e w1' ⟨rfl, rfl⟩
  go_wp2_with fail
  refine (HM2.out _).mono ?_
  rintro e w2' ⟨rfl, rfl⟩
  go_wp2_with fail
  exact bodyPost_ret (v := .tuple #[.agg #[.string f1, .string t2, .int .i64 (P : Nat), .int .i64 (Q : Nat)], .int .i64 0]) (by simp [results, Tryd.results38, go_sem]) rfl ⟨rfl, bre (al (al (al (Below.refl _ _)))) _ _⟩
set_option maxHeartbeats 1000000 in
theorem prod_no (f1 t1 f2 t2 : ByteArray) (an ad bn bd x1 x2 y1 y2 : Int) (A B C D : Nat) (w : World) (h : Parts an ad bn bd x1 x2 y1 y2 A B C D)
    (k1 : 1 ≤ an ∧ an ≤ 1099511627776) (k2 : 1 ≤ ad ∧ ad ≤ 1099511627776) (k3 : 1 ≤ bn ∧ bn ≤ 1099511627776) (k4 : 1 ≤ bd ∧ bd ≤ 1099511627776) (hok : prodOk A B C D = false) :
    Calls Tryd.prog 38 #[rt f1 t1 an ad, rt f2 t2 bn bd] w fun e w' => e = .returned (.tuple #[rt0, .int .i64 4]) ∧ Below w.heap.size w w' := by
  have hor : 1099511627776 < A * C ∨ 1099511627776 < B * D := by have := of_decide_eq_false hok; omega
  have hl1 := mul_lt A C h.b5.2 h.b7.2
  have hl2 := mul_lt B D h.b8.2 h.b6.2
  obtain ⟨e1, e2, e3, e4, e5, e6, e7, e8, b1, b2, b3, b4, b5, b6, b7, b8⟩ := h
  have h1 := fun w => reduce_any an ad w (by omega) (by omega)
  have h2 := fun w => reduce_any bn bd w (by omega) (by omega)
  have h3 := fun w => reduce_any x1 y2 w (by omega) (by omega)
  have h4 := fun w => reduce_any y1 x2 w (by omega) (by omega)
  rw [e1, e2] at h1
  rw [e3, e4] at h2
  rw [e5, e6] at h3
  rw [e7, e8] at h4
  have H1 := Lib.hid h1
  have H2 := Lib.hid h2
  have H3 := Lib.hid h3
  have H4 := Lib.hid h4
  have a1 : (A : Int) ≤ 1099511627776 := by omega
  have a2 : (B : Int) ≤ 1099511627776 := by omega
  have a3 : (C : Int) ≤ 1099511627776 := by omega
  have a4 : (D : Int) ≤ 1099511627776 := by omega
  clear h1 h2 h3 h4 e1 e2 e3 e4 e5 e6 e7 e8 k1 k2 k3 k4
  have hM1 : ∀ w, Calls Tryd.prog 46 #[.int .u64 A, .int .u64 C] w fun e w' => e = .returned (.tuple #[.int .u64 ((A * C / 18446744073709551616 : Nat) : Int), .int .u64 ((A * C % 18446744073709551616 : Nat) : Int)]) ∧ w' = w := fun w => Tryd.bits_Mul64 A C (by omega) (by omega) w
  have hM2 : ∀ w, Calls Tryd.prog 46 #[.int .u64 B, .int .u64 D] w fun e w' => e = .returned (.tuple #[.int .u64 ((B * D / 18446744073709551616 : Nat) : Int), .int .u64 ((B * D % 18446744073709551616 : Nat) : Int)]) ∧ w' = w := fun w => Tryd.bits_Mul64 B D (by omega) (by omega) w
  have hcase : ((A * C / 18446744073709551616 ≠ 0) ∨ (A * C / 18446744073709551616 = 0 ∧ 1099511627776 < A * C % 18446744073709551616)) ∨ ((A * C / 18446744073709551616 = 0 ∧ A * C % 18446744073709551616 ≤ 1099511627776) ∧ ((B * D / 18446744073709551616 ≠ 0) ∨ (B * D / 18446744073709551616 = 0 ∧ 1099511627776 < B * D % 18446744073709551616))) := by omega
  generalize A * C / 18446744073709551616 = P1 at *
  generalize A * C % 18446744073709551616 = P2 at *
  generalize B * D / 18446744073709551616 = Q1 at *
  generalize B * D % 18446744073709551616 = Q2 at *
  have HM1 := Lib.hid hM1
  have HM2 := Lib.hid hM2
  clear hM1 hM2 hok hor hl1 hl2
  unfold rt0 rt
  rcases hcase with (c | ⟨c, c'⟩) | ⟨⟨c, c'⟩, (c'' | ⟨c'', c3⟩)⟩
  · have t1' : ((P1 : Int) != 0) = true := by rw [bne_iff_ne]; omega
    clear c
    go_enter Tryd.func38, Tryd.ntmps38
    go_wp2_with fail
    refine (H1.out _).mono ?_
    rintro e w1 ⟨rfl, hb⟩
    obtain ⟨d1, o1, rfl⟩ := regrow_of hb
    clear hb
    go_wp2_with fail
    refine (H2.out _).mono ?_
    rintro e w2 ⟨rfl, hb⟩
    obtain ⟨d2, o2, rfl⟩ := regrow_of hb
    clear hb
    go_wp2_with fail
    refine (H3.out _).mono ?_
    rintro e w3 ⟨rfl, hb⟩
    obtain ⟨d3, o3, rfl⟩ := regrow_of hb
    clear hb
    go_wp2_with fail
    refine (H4.out _).mono ?_
    rintro e w4 ⟨rfl, hb⟩
    obtain ⟨d4, o4, rfl⟩ := regrow_of hb
    clear hb
    go_wp2_with fail
    refine (HM1.out _).mono ?_
    rintro e w1' ⟨rfl, rfl⟩
    go_wp2_with fail
    refine (HM2.out _).mono ?_
    rintro e w2' ⟨rfl, rfl⟩
    go_wp2_with fail
    exact bodyPost_ret (v := .tuple #[.agg #[.string ⟨#[]⟩, .string ⟨#[]⟩, .int .i64 0, .int .i64 0], .int .i64 4]) (by simp [results, Tryd.results38, go_sem]) rfl ⟨rfl, bre (al (al (al (Below.refl _ _)))) _ _⟩
  · have t1' : ((P1 : Int) != 0) = false := by rw [bne_eq_false_iff_eq]; omega
    have t2' : decide (1099511627776 < (P2 : Int)) = true := decide_eq_true (by omega)
    clear c c'
    go_enter Tryd.func38, Tryd.ntmps38
    go_wp2_with fail
    refine (H1.out _).mono ?_
    rintro e w1 ⟨rfl, hb⟩
    obtain ⟨d1, o1, rfl⟩ := regrow_of hb
    clear hb
    go_wp2_with fail
    refine (H2.out _).mono ?_
    rintro e w2 ⟨rfl, hb⟩
    obtain ⟨d2, o2, rfl⟩ := regrow_of hb
    clear hb
    go_wp2_with fail
    refine (H3.out _).mono ?_
    rintro e w3 ⟨rfl, hb⟩
    obtain ⟨d3, o3, rfl⟩ := regrow_of hb
    clear hb
    go_wp2_with fail
    refine (H4.out _).mono ?_
    rintro e w4 ⟨rfl, hb⟩
    obtain ⟨d4, o4, rfl⟩ := regrow_of hb
    clear hb
    go_wp2_with fail
    refine (HM1.out _).mono ?_
    rintro e w1' ⟨rfl, rfl⟩
    go_wp2_with fail
    refine (HM2.out _).mono ?_
    rintro e w2' ⟨rfl, rfl⟩
    go_wp2_with fail
    exact bodyPost_ret (v := .tuple #[.agg #[.string ⟨#[]⟩, .string ⟨#[]⟩, .int .i64 0, .int .i64 0], .int .i64 4]) (by simp [results, Tryd.results38, go_sem]) rfl ⟨rfl, bre (al (al (al (Below.refl _ _)))) _ _⟩
  · have t1' : ((P1 : Int) != 0) = false := by rw [bne_eq_false_iff_eq]; omega
    have t2' : decide (1099511627776 < (P2 : Int)) = false := decide_eq_false (by omega)
    have t3' : ((Q1 : Int) != 0) = true := by rw [bne_iff_ne]; omega
    clear c c' c''
    go_enter Tryd.func38, Tryd.ntmps38
    go_wp2_with fail
    refine (H1.out _).mono ?_
    rintro e w1 ⟨rfl, hb⟩
    obtain ⟨d1, o1, rfl⟩ := regrow_of hb
    clear hb
    go_wp2_with fail
    refine (H2.out _).mono ?_
    rintro e w2 ⟨rfl, hb⟩
    obtain ⟨d2, o2, rfl⟩ := regrow_of hb
    clear hb
    go_wp2_with fail
    refine (H3.out _).mono ?_
    rintro e w3 ⟨rfl, hb⟩
    obtain ⟨d3, o3, rfl⟩ := regrow_of hb
    clear hb
    go_wp2_with fail
    refine (H4.out _).mono ?_
    rintro e w4 ⟨rfl, hb⟩
    obtain ⟨d4, o4, rfl⟩ := regrow_of hb
    clear hb
    go_wp2_with fail
    refine (HM1.out _).mono ?_
    rintro e w1' ⟨rfl, rfl⟩
    go_wp2_with fail
    refine (HM2.out _).mono ?_
    rintro e w2' ⟨rfl, rfl⟩
    go_wp2_with fail
    exact bodyPost_ret (v := .tuple #[.agg #[.string ⟨#[]⟩, .string ⟨#[]⟩, .int .i64 0, .int .i64 0], .int .i64 4]) (by simp [results, Tryd.results38, go_sem]) rfl ⟨rfl, bre (al (al (al (Below.refl _ _)))) _ _⟩
  · have t1' : ((P1 : Int) != 0) = false := by rw [bne_eq_false_iff_eq]; omega
    have t2' : decide (1099511627776 < (P2 : Int)) = false := decide_eq_false (by omega)
    have t3' : ((Q1 : Int) != 0) = false := by rw [bne_eq_false_iff_eq]; omega
    have t4' : decide (1099511627776 < (Q2 : Int)) = true := decide_eq_true (by omega)
    clear c c' c'' c3
    go_enter Tryd.func38, Tryd.ntmps38
    go_wp2_with fail
    refine (H1.out _).mono ?_
    rintro e w1 ⟨rfl, hb⟩
    obtain ⟨d1, o1, rfl⟩ := regrow_of hb
    clear hb
    go_wp2_with fail
    refine (H2.out _).mono ?_
    rintro e w2 ⟨rfl, hb⟩
    obtain ⟨d2, o2, rfl⟩ := regrow_of hb
    clear hb
    go_wp2_with fail
    refine (H3.out _).mono ?_
    rintro e w3 ⟨rfl, hb⟩
    obtain ⟨d3, o3, rfl⟩ := regrow_of hb
    clear hb
    go_wp2_with fail
    refine (H4.out _).mono ?_
    rintro e w4 ⟨rfl, hb⟩
    obtain ⟨d4, o4, rfl⟩ := regrow_of hb
    clear hb
    go_wp2_with fail
    refine (HM1.out _).mono ?_
    rintro e w1' ⟨rfl, rfl⟩
    go_wp2_with fail
    refine (HM2.out _).mono ?_
    rintro e w2' ⟨rfl, rfl⟩
    go_wp2_with fail
    exact bodyPost_ret (v := .tuple #[.agg #[.string ⟨#[]⟩, .string ⟨#[]⟩, .int .i64 0, .int .i64 0], .int .i64 4]) (by simp [results, Tryd.results38, go_sem]) rfl ⟨rfl, bre (al (al (al (Below.refl _ _)))) _ _⟩
end Go.Proofs.YtpabgmdgoghahaaDoor
