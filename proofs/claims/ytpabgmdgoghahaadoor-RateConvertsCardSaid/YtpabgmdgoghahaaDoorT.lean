/- Scale and Convert, in one word: the walks. -/
import Derived.Test.YtpabgmdgoghahaaDoorS
set_option linter.unusedVariables false
set_option linter.unusedSimpArgs false
namespace Go.Proofs.YtpabgmdgoghahaaDoor
open Go.Sort Go.ChangeShapes Go.WideShapes Go.ChangeAt Go.RowKit
def sgn (a Q : Int) : Int := if a < 0 then -Q else Q
def bI (b : Bool) : Int := if b = true then 1 else 0
theorem div_nat (P L : Nat) (w : World) (hP : P < 18446744073709551616) (h1 : 1 ≤ L) (hL : L < 18446744073709551616) :
    Calls Tryd.prog 48 #[.int .u64 0, .int .u64 P, .int .u64 L] w fun e w' => e = .returned (.tuple #[.int .u64 ((P / L : Nat) : Int), .int .u64 ((P % L : Nat) : Int)]) ∧ Below w.heap.size w w' := by
  have := div_any (P : Int) (L : Int) w (by omega) (by omega) (by omega) (by omega)
  rw [← Int.natCast_ediv, ← Int.natCast_emod] at this
  exact this
set_option maxHeartbeats 2000000 in
theorem scale_core (a : Int) (c : ByteArray) (M K L P q r : Int) (mode : Int) (b : Bool) (w : World)
    (hc : ∀ w, Calls Tryd.prog 34 #[mo a c] w fun e w' => e = .returned (.int .i64 0) ∧ Below w.heap.size w w')
    (h1 : ∀ w, Calls Tryd.prog 47 #[.int .i64 a] w fun e w' => e = .returned (.int .u64 M) ∧ w = w')
    (h2 : ∀ w, Calls Tryd.prog 47 #[.int .i64 K] w fun e w' => e = .returned (.int .u64 K) ∧ w = w')
    (h3 : ∀ w, Calls Tryd.prog 46 #[.int .u64 M, .int .u64 K] w fun e w' => e = .returned (.tuple #[.int .u64 0, .int .u64 P]) ∧ w' = w)
    (h4 : ∀ w, Calls Tryd.prog 48 #[.int .u64 0, .int .u64 P, .int .u64 L] w fun e w' => e = .returned (.tuple #[.int .u64 q, .int .u64 r]) ∧ Below w.heap.size w w')
    (h5 : ∀ w, Calls Tryd.prog 49 #[.int .u64 q, .int .u64 r, .int .u64 L, .int .i64 mode] w fun e w' => e = .returned (.bool b) ∧ w = w')
    (k1 : 1 ≤ K) (k2 : K ≤ 1099511627776) (l1 : 1 ≤ L) (l2 : L ≤ 1099511627776) (m1 : 1 ≤ mode) (m2 : mode ≤ 4) (q1 : 0 ≤ q) (q2 : q ≤ 4503599627370495) :
    Calls Tryd.prog 35 #[mo a c, .int .i64 K, .int .i64 L, .int .i64 mode] w fun e w' => e = .returned (.tuple #[mo (sgn a (q + bI b)) c, .int .i64 0]) ∧ Below w.heap.size w w' := by
  have HC := Lib.hid hc
  have H1 := Lib.hid h1
  have H2 := Lib.hid h2
  have H3 := Lib.hid h3
  have H4 := Lib.hid h4
  have H5 := Lib.hid h5
  have kn : decide (K < 0) = false := decide_eq_false (by omega)
  clear hc h1 h2 h3 h4 h5
  unfold mo at *
  by_cases hs : a < 0
  · have ha : decide (a < 0) = true := decide_eq_true hs
    have e0 : sgn a (q + bI b) = -(q + bI b) := if_pos hs
    rw [e0]
    clear e0 hs
    cases b
    · rw [show q + bI false = q from by simp [bI]]
      go_enter Tryd.func35, Tryd.ntmps35
      go_wp2_with fail
      refine (HC.out _).mono ?_
      rintro e w1 ⟨rfl, hb⟩
      obtain ⟨d1, o1, rfl⟩ := regrow_of hb
      clear hb
      go_wp2_with fail
      refine (H1.out _).mono ?_
      rintro e w2 ⟨rfl, rfl⟩
      go_wp2_with fail
      refine (H2.out _).mono ?_
      rintro e w2 ⟨rfl, rfl⟩
      go_wp2_with fail
      refine (H3.out _).mono ?_
      rintro e w2 ⟨rfl, rfl⟩
      go_wp2_with fail
      refine (H4.out _).mono ?_
      rintro e w1 ⟨rfl, hb⟩
      obtain ⟨d2, o2, rfl⟩ := regrow_of hb
      clear hb
      go_wp2_with fail
      refine (H5.out _).mono ?_
      rintro e w2 ⟨rfl, rfl⟩
      go_wp2_with fail
      exact bodyPost_ret (v := .tuple #[.agg #[.int .i64 (-q), .string c], .int .i64 0]) (by simp [results, Tryd.results35, go_sem]) rfl ⟨rfl, bre (al (al (Below.refl _ _))) _ _⟩
    · rw [show q + bI true = q + 1 from by simp [bI]]
      go_enter Tryd.func35, Tryd.ntmps35
      go_wp2_with fail
      refine (HC.out _).mono ?_
      rintro e w1 ⟨rfl, hb⟩
      obtain ⟨d1, o1, rfl⟩ := regrow_of hb
      clear hb
      go_wp2_with fail
      refine (H1.out _).mono ?_
      rintro e w2 ⟨rfl, rfl⟩
      go_wp2_with fail
      refine (H2.out _).mono ?_
      rintro e w2 ⟨rfl, rfl⟩
      go_wp2_with fail
      refine (H3.out _).mono ?_
      rintro e w2 ⟨rfl, rfl⟩
      go_wp2_with fail
      refine (H4.out _).mono ?_
      rintro e w1 ⟨rfl, hb⟩
      obtain ⟨d2, o2, rfl⟩ := regrow_of hb
      clear hb
      go_wp2_with fail
      refine (H5.out _).mono ?_
      rintro e w2 ⟨rfl, rfl⟩
      go_wp2_with fail
      exact bodyPost_ret (v := .tuple #[.agg #[.int .i64 (-(q + 1)), .string c], .int .i64 0]) (by simp [results, Tryd.results35, go_sem]) rfl ⟨rfl, bre (al (al (Below.refl _ _))) _ _⟩
  · have ha : decide (a < 0) = false := decide_eq_false hs
    have e0 : sgn a (q + bI b) = q + bI b := if_neg hs
    rw [e0]
    clear e0 hs
    cases b
    · rw [show q + bI false = q from by simp [bI]]
      go_enter Tryd.func35, Tryd.ntmps35
      go_wp2_with fail
      refine (HC.out _).mono ?_
      rintro e w1 ⟨rfl, hb⟩
      obtain ⟨d1, o1, rfl⟩ := regrow_of hb
      clear hb
      go_wp2_with fail
      refine (H1.out _).mono ?_
      rintro e w2 ⟨rfl, rfl⟩
      go_wp2_with fail
      refine (H2.out _).mono ?_
      rintro e w2 ⟨rfl, rfl⟩
      go_wp2_with fail
      refine (H3.out _).mono ?_
      rintro e w2 ⟨rfl, rfl⟩
      go_wp2_with fail
      refine (H4.out _).mono ?_
      rintro e w1 ⟨rfl, hb⟩
      obtain ⟨d2, o2, rfl⟩ := regrow_of hb
      clear hb
      go_wp2_with fail
      refine (H5.out _).mono ?_
      rintro e w2 ⟨rfl, rfl⟩
      go_wp2_with fail
      exact bodyPost_ret (v := .tuple #[.agg #[.int .i64 q, .string c], .int .i64 0]) (by simp [results, Tryd.results35, go_sem]) rfl ⟨rfl, bre (al (al (Below.refl _ _))) _ _⟩
    · rw [show q + bI true = q + 1 from by simp [bI]]
      go_enter Tryd.func35, Tryd.ntmps35
      go_wp2_with fail
      refine (HC.out _).mono ?_
      rintro e w1 ⟨rfl, hb⟩
      obtain ⟨d1, o1, rfl⟩ := regrow_of hb
      clear hb
      go_wp2_with fail
      refine (H1.out _).mono ?_
      rintro e w2 ⟨rfl, rfl⟩
      go_wp2_with fail
      refine (H2.out _).mono ?_
      rintro e w2 ⟨rfl, rfl⟩
      go_wp2_with fail
      refine (H3.out _).mono ?_
      rintro e w2 ⟨rfl, rfl⟩
      go_wp2_with fail
      refine (H4.out _).mono ?_
      rintro e w1 ⟨rfl, hb⟩
      obtain ⟨d2, o2, rfl⟩ := regrow_of hb
      clear hb
      go_wp2_with fail
      refine (H5.out _).mono ?_
      rintro e w2 ⟨rfl, rfl⟩
      go_wp2_with fail
      exact bodyPost_ret (v := .tuple #[.agg #[.int .i64 (q + 1), .string c], .int .i64 0]) (by simp [results, Tryd.results35, go_sem]) rfl ⟨rfl, bre (al (al (Below.refl _ _))) _ _⟩
/-- what Scale answers where its product has one word -/
theorem scale_ok (a : Int) (c : ByteArray) (K L : Nat) (mode : Int) (w : World) (hc : c.size ≤ maxLen) (hcl : curL c.data.toList = true) (a0 : -4503599627370496 ≤ a) (a1 : a ≤ 4503599627370496)
    (k1 : 1 ≤ K) (k2 : K ≤ 1099511627776) (l1 : 1 ≤ L) (l2 : L ≤ 1099511627776) (m1 : 1 ≤ mode) (m2 : mode ≤ 4) (hP : a.natAbs * K < 18446744073709551616) (hq : a.natAbs * K / L < 4503599627370496) :
    Calls Tryd.prog 35 #[mo a c, .int .i64 K, .int .i64 L, .int .i64 mode] w fun e w' => e = .returned (.tuple #[mo (sgn a (((a.natAbs * K / L : Nat) : Int) + bI (upB (a.natAbs * K / L) (a.natAbs * K % L) L mode))) c, .int .i64 0]) ∧ Below w.heap.size w w' := by
  have hr : a.natAbs * K % L < L := Nat.mod_lt _ (by omega)
  have h3 : ∀ w, Calls Tryd.prog 46 #[.int .u64 (a.natAbs : Nat), .int .u64 K] w fun e w' => e = .returned (.tuple #[.int .u64 0, .int .u64 ((a.natAbs * K : Nat) : Int)]) ∧ w' = w := fun w =>
    (Tryd.bits_Mul64 a.natAbs K (by omega) (by omega) w).mono fun e w' ⟨he, hw⟩ => ⟨by rw [he, Nat.div_eq_of_lt hP, Nat.mod_eq_of_lt hP]; rfl, hw⟩
  exact scale_core a c (a.natAbs : Nat) (K : Nat) (L : Nat) ((a.natAbs * K : Nat) : Int) ((a.natAbs * K / L : Nat) : Int) ((a.natAbs * K % L : Nat) : Int) mode _ w (fun w => mcheck_ok a c hc hcl a0 a1 w) (fun w => magn_any a a0 a1 w) (fun w => magn_s K (by omega) (by omega) w) h3 (fun w => div_nat _ L w hP l1 (by omega))
    (fun w => up_any _ _ L mode (by omega) (by omega) (by omega) m1 m2 w) (by omega) (by omega) (by omega) (by omega) m1 m2 (Int.natCast_nonneg _) (Int.ofNat_le.2 (Nat.le_of_lt_succ hq))
theorem scale_mode (a : Int) (c : ByteArray) (K L mode : Int) (w : World) (hc : c.size ≤ maxLen) (hcl : curL c.data.toList = true) (a0 : -4503599627370496 ≤ a) (a1 : a ≤ 4503599627370496)
    (k1 : 1 ≤ K) (k2 : K ≤ 1099511627776) (l1 : 1 ≤ L) (l2 : L ≤ 1099511627776) (hm : mode < 1 ∨ 4 < mode) :
    Calls Tryd.prog 35 #[mo a c, .int .i64 K, .int .i64 L, .int .i64 mode] w fun e w' => e = .returned (.tuple #[mo 0 ⟨#[]⟩, .int .i64 4]) ∧ Below w.heap.size w w' := by
  have HC : Hid (∀ w, _) := Lib.hid (fun w => mcheck_ok a c hc hcl a0 a1 w)
  unfold mo at *
  clear hc hcl a0 a1
  by_cases g : mode < 1
  · clear hm
    go_enter Tryd.func35, Tryd.ntmps35
    go_wp2_with fail
    refine (HC.out _).mono ?_
    rintro e w1 ⟨rfl, hb⟩
    obtain ⟨d1, o1, rfl⟩ := regrow_of hb
    clear hb
    go_wp2_with fail
    exact bodyPost_ret (v := .tuple #[.agg #[.int .i64 0, .string ⟨#[]⟩], .int .i64 4]) (by simp [results, Tryd.results35, go_sem]) rfl ⟨rfl, bre (al (al (Below.refl _ _))) _ _⟩
  · have g2 : 4 < mode := by omega
    have g3 : 1 ≤ mode := by omega
    clear hm
    go_enter Tryd.func35, Tryd.ntmps35
    go_wp2_with fail
    refine (HC.out _).mono ?_
    rintro e w1 ⟨rfl, hb⟩
    obtain ⟨d1, o1, rfl⟩ := regrow_of hb
    clear hb
    go_wp2_with fail
    exact bodyPost_ret (v := .tuple #[.agg #[.int .i64 0, .string ⟨#[]⟩], .int .i64 4]) (by simp [results, Tryd.results35, go_sem]) rfl ⟨rfl, bre (al (al (Below.refl _ _))) _ _⟩
end Go.Proofs.YtpabgmdgoghahaaDoor
