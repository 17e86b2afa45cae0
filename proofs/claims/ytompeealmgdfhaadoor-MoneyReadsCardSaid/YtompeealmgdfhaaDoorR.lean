/- Scale of both, for any arguments. -/
import Derived.Test.YtompeealmgdfhaaDoorQ
set_option linter.unusedVariables false
set_option linter.unusedSimpArgs false
namespace Go.Proofs.YtompeealmgdfhaaDoor
open Go.Sort Go.ChangeShapes Go.WideShapes Go.ChangeAt Go.RowKit
open div
def sg2 (a n Q : Int) : Int := if (decide (a < 0) != decide (n < 0)) = true then -Q else Q
def prm (n L mode : Int) : Prop := 1 ≤ L ∧ L ≤ 1099511627776 ∧ -1099511627776 ≤ n ∧ n ≤ 1099511627776 ∧ 1 ≤ mode ∧ mode ≤ 4
theorem scale_chk (a : Int) (c : ByteArray) (n L mode : Int) (hc : c.size ≤ maxLen) (hx : (mchk a c == 0) = false) (w : World) :
    Calls Tryd.prog 19 #[mo a c, .int .i64 n, .int .i64 L, .int .i64 mode] w fun e w' => e = .returned (.tuple #[mo0, .int .i64 (mchk a c)]) ∧ Below w.heap.size w w' := by
  have HA := Lib.hid (fun w => mcheck_any a c hc w)
  unfold mo0 at *
  unfold mo at *
  generalize mchk a c = x at *
  have hx2 : (x != 0) = true := by rw [bne, hx]; rfl
  clear hc
  go_enter Tryd.func19, Tryd.ntmps19
  go_wp2_with fail
  refine (HA.out _).mono ?_
  rintro e w1 ⟨rfl, hb⟩
  obtain ⟨d1, o1, rfl⟩ := regrow_of hb
  clear hb
  go_wp2_with fail
  exact bodyPost_ret (v := .tuple #[.agg #[.int .i64 0, .string ⟨#[]⟩], .int .i64 x]) (by simp [results, Tryd.results19, go_sem]) rfl ⟨rfl, by repeat (first | exact Below.refl _ _ | refine al ?_ | refine bre ?_ _ _)⟩
theorem scale_e0 (a : Int) (c : ByteArray) (n L mode : Int) (hc : c.size ≤ maxLen) (hx : mchk a c = 0) (y0 : decide (L < 1) = true)  (w : World) :
    Calls Tryd.prog 19 #[mo a c, .int .i64 n, .int .i64 L, .int .i64 mode] w fun e w' => e = .returned (.tuple #[mo0, .int .i64 4]) ∧ Below w.heap.size w w' := by
  have HA := Lib.hid (fun w => mcheck_any a c hc w)
  rw [hx] at HA
  unfold mo0 at *
  unfold mo at *
  clear hc hx
  go_enter Tryd.func19, Tryd.ntmps19
  go_wp2_with fail
  refine (HA.out _).mono ?_
  rintro e w1 ⟨rfl, hb⟩
  obtain ⟨d1, o1, rfl⟩ := regrow_of hb
  clear hb
  go_wp2_with fail
  exact bodyPost_ret (v := .tuple #[.agg #[.int .i64 0, .string ⟨#[]⟩], .int .i64 4]) (by simp [results, Tryd.results19, go_sem]) rfl ⟨rfl, by repeat (first | exact Below.refl _ _ | refine al ?_ | refine bre ?_ _ _)⟩
theorem scale_e1 (a : Int) (c : ByteArray) (n L mode : Int) (hc : c.size ≤ maxLen) (hx : mchk a c = 0) (y0 : decide (1099511627776 < L) = true) (n0 : decide (L < 1) = false) (w : World) :
    Calls Tryd.prog 19 #[mo a c, .int .i64 n, .int .i64 L, .int .i64 mode] w fun e w' => e = .returned (.tuple #[mo0, .int .i64 4]) ∧ Below w.heap.size w w' := by
  have HA := Lib.hid (fun w => mcheck_any a c hc w)
  rw [hx] at HA
  unfold mo0 at *
  unfold mo at *
  clear hc hx
  go_enter Tryd.func19, Tryd.ntmps19
  go_wp2_with fail
  refine (HA.out _).mono ?_
  rintro e w1 ⟨rfl, hb⟩
  obtain ⟨d1, o1, rfl⟩ := regrow_of hb
  clear hb
  go_wp2_with fail
  exact bodyPost_ret (v := .tuple #[.agg #[.int .i64 0, .string ⟨#[]⟩], .int .i64 4]) (by simp [results, Tryd.results19, go_sem]) rfl ⟨rfl, by repeat (first | exact Below.refl _ _ | refine al ?_ | refine bre ?_ _ _)⟩
theorem scale_e2 (a : Int) (c : ByteArray) (n L mode : Int) (hc : c.size ≤ maxLen) (hx : mchk a c = 0) (y0 : decide (n < -1099511627776) = true) (n0 : decide (L < 1) = false) (n1 : decide (1099511627776 < L) = false) (w : World) :
    Calls Tryd.prog 19 #[mo a c, .int .i64 n, .int .i64 L, .int .i64 mode] w fun e w' => e = .returned (.tuple #[mo0, .int .i64 4]) ∧ Below w.heap.size w w' := by
  have HA := Lib.hid (fun w => mcheck_any a c hc w)
  rw [hx] at HA
  unfold mo0 at *
  unfold mo at *
  clear hc hx
  go_enter Tryd.func19, Tryd.ntmps19
  go_wp2_with fail
  refine (HA.out _).mono ?_
  rintro e w1 ⟨rfl, hb⟩
  obtain ⟨d1, o1, rfl⟩ := regrow_of hb
  clear hb
  go_wp2_with fail
  exact bodyPost_ret (v := .tuple #[.agg #[.int .i64 0, .string ⟨#[]⟩], .int .i64 4]) (by simp [results, Tryd.results19, go_sem]) rfl ⟨rfl, by repeat (first | exact Below.refl _ _ | refine al ?_ | refine bre ?_ _ _)⟩
theorem scale_e3 (a : Int) (c : ByteArray) (n L mode : Int) (hc : c.size ≤ maxLen) (hx : mchk a c = 0) (y0 : decide (1099511627776 < n) = true) (n0 : decide (L < 1) = false) (n1 : decide (1099511627776 < L) = false) (n2 : decide (n < -1099511627776) = false) (w : World) :
    Calls Tryd.prog 19 #[mo a c, .int .i64 n, .int .i64 L, .int .i64 mode] w fun e w' => e = .returned (.tuple #[mo0, .int .i64 4]) ∧ Below w.heap.size w w' := by
  have HA := Lib.hid (fun w => mcheck_any a c hc w)
  rw [hx] at HA
  unfold mo0 at *
  unfold mo at *
  clear hc hx
  go_enter Tryd.func19, Tryd.ntmps19
  go_wp2_with fail
  refine (HA.out _).mono ?_
  rintro e w1 ⟨rfl, hb⟩
  obtain ⟨d1, o1, rfl⟩ := regrow_of hb
  clear hb
  go_wp2_with fail
  exact bodyPost_ret (v := .tuple #[.agg #[.int .i64 0, .string ⟨#[]⟩], .int .i64 4]) (by simp [results, Tryd.results19, go_sem]) rfl ⟨rfl, by repeat (first | exact Below.refl _ _ | refine al ?_ | refine bre ?_ _ _)⟩
theorem scale_e4 (a : Int) (c : ByteArray) (n L mode : Int) (hc : c.size ≤ maxLen) (hx : mchk a c = 0) (y0 : decide (mode < 1) = true) (n0 : decide (L < 1) = false) (n1 : decide (1099511627776 < L) = false) (n2 : decide (n < -1099511627776) = false) (n3 : decide (1099511627776 < n) = false) (w : World) :
    Calls Tryd.prog 19 #[mo a c, .int .i64 n, .int .i64 L, .int .i64 mode] w fun e w' => e = .returned (.tuple #[mo0, .int .i64 4]) ∧ Below w.heap.size w w' := by
  have HA := Lib.hid (fun w => mcheck_any a c hc w)
  rw [hx] at HA
  unfold mo0 at *
  unfold mo at *
  clear hc hx
  go_enter Tryd.func19, Tryd.ntmps19
  go_wp2_with fail
  refine (HA.out _).mono ?_
  rintro e w1 ⟨rfl, hb⟩
  obtain ⟨d1, o1, rfl⟩ := regrow_of hb
  clear hb
  go_wp2_with fail
  exact bodyPost_ret (v := .tuple #[.agg #[.int .i64 0, .string ⟨#[]⟩], .int .i64 4]) (by simp [results, Tryd.results19, go_sem]) rfl ⟨rfl, by repeat (first | exact Below.refl _ _ | refine al ?_ | refine bre ?_ _ _)⟩
theorem scale_e5 (a : Int) (c : ByteArray) (n L mode : Int) (hc : c.size ≤ maxLen) (hx : mchk a c = 0) (y0 : decide (4 < mode) = true) (n0 : decide (L < 1) = false) (n1 : decide (1099511627776 < L) = false) (n2 : decide (n < -1099511627776) = false) (n3 : decide (1099511627776 < n) = false) (n4 : decide (mode < 1) = false) (w : World) :
    Calls Tryd.prog 19 #[mo a c, .int .i64 n, .int .i64 L, .int .i64 mode] w fun e w' => e = .returned (.tuple #[mo0, .int .i64 4]) ∧ Below w.heap.size w w' := by
  have HA := Lib.hid (fun w => mcheck_any a c hc w)
  rw [hx] at HA
  unfold mo0 at *
  unfold mo at *
  clear hc hx
  go_enter Tryd.func19, Tryd.ntmps19
  go_wp2_with fail
  refine (HA.out _).mono ?_
  rintro e w1 ⟨rfl, hb⟩
  obtain ⟨d1, o1, rfl⟩ := regrow_of hb
  clear hb
  go_wp2_with fail
  exact bodyPost_ret (v := .tuple #[.agg #[.int .i64 0, .string ⟨#[]⟩], .int .i64 4]) (by simp [results, Tryd.results19, go_sem]) rfl ⟨rfl, by repeat (first | exact Below.refl _ _ | refine al ?_ | refine bre ?_ _ _)⟩
theorem scale_prm (a : Int) (c : ByteArray) (n L mode : Int) (hc : c.size ≤ maxLen) (hx : mchk a c = 0) (h : ¬ prm n L mode) (w : World) :
    Calls Tryd.prog 19 #[mo a c, .int .i64 n, .int .i64 L, .int .i64 mode] w fun e w' => e = .returned (.tuple #[mo0, .int .i64 4]) ∧ Below w.heap.size w w' := by
  unfold prm at h
  by_cases h0 : L < 1
  · exact scale_e0 a c n L mode hc hx (decide_eq_true h0) w
  by_cases h1 : 1099511627776 < L
  · exact scale_e1 a c n L mode hc hx (decide_eq_true h1) (decide_eq_false h0) w
  by_cases h2 : n < -1099511627776
  · exact scale_e2 a c n L mode hc hx (decide_eq_true h2) (decide_eq_false h0) (decide_eq_false h1) w
  by_cases h3 : 1099511627776 < n
  · exact scale_e3 a c n L mode hc hx (decide_eq_true h3) (decide_eq_false h0) (decide_eq_false h1) (decide_eq_false h2) w
  by_cases h4 : mode < 1
  · exact scale_e4 a c n L mode hc hx (decide_eq_true h4) (decide_eq_false h0) (decide_eq_false h1) (decide_eq_false h2) (decide_eq_false h3) w
  · exact scale_e5 a c n L mode hc hx (decide_eq_true (by omega)) (decide_eq_false h0) (decide_eq_false h1) (decide_eq_false h2) (decide_eq_false h3) (decide_eq_false h4) w
theorem rscale_chk (a : Int) (c : ByteArray) (n L mode : Int) (hc : c.size ≤ maxLen) (hx : (mchk a c == 0) = false) (w : World) :
    Calls Tryd.prog 20 #[mo a c, .int .i64 n, .int .i64 L, .int .i64 mode] w fun e w' => e = .returned (.tuple #[mo0, .int .i64 (mchk a c)]) ∧ Below w.heap.size w w' := by
  have HA := Lib.hid (fun w => rmcheck_any a c hc w)
  unfold mo0 at *
  unfold mo at *
  generalize mchk a c = x at *
  have hx2 : (x != 0) = true := by rw [bne, hx]; rfl
  clear hc
  go_enter Tryd.func20, Tryd.ntmps20
  go_wp2_with fail
  refine (HA.out _).mono ?_
  rintro e w1 ⟨rfl, hb⟩
  obtain ⟨d1, o1, rfl⟩ := regrow_of hb
  clear hb
  go_wp2_with fail
  exact bodyPost_ret (v := .tuple #[.agg #[.int .i64 0, .string ⟨#[]⟩], .int .i64 x]) (by simp [results, Tryd.results20, go_sem]) rfl ⟨rfl, by repeat (first | exact Below.refl _ _ | refine al ?_ | refine bre ?_ _ _)⟩
theorem rscale_e0 (a : Int) (c : ByteArray) (n L mode : Int) (hc : c.size ≤ maxLen) (hx : mchk a c = 0) (y0 : decide (L < 1) = true)  (w : World) :
    Calls Tryd.prog 20 #[mo a c, .int .i64 n, .int .i64 L, .int .i64 mode] w fun e w' => e = .returned (.tuple #[mo0, .int .i64 4]) ∧ Below w.heap.size w w' := by
  have HA := Lib.hid (fun w => rmcheck_any a c hc w)
  rw [hx] at HA
  unfold mo0 at *
  unfold mo at *
  clear hc hx
  go_enter Tryd.func20, Tryd.ntmps20
  go_wp2_with fail
  refine (HA.out _).mono ?_
  rintro e w1 ⟨rfl, hb⟩
  obtain ⟨d1, o1, rfl⟩ := regrow_of hb
  clear hb
  go_wp2_with fail
  exact bodyPost_ret (v := .tuple #[.agg #[.int .i64 0, .string ⟨#[]⟩], .int .i64 4]) (by simp [results, Tryd.results20, go_sem]) rfl ⟨rfl, by repeat (first | exact Below.refl _ _ | refine al ?_ | refine bre ?_ _ _)⟩
theorem rscale_e1 (a : Int) (c : ByteArray) (n L mode : Int) (hc : c.size ≤ maxLen) (hx : mchk a c = 0) (y0 : decide (1099511627776 < L) = true) (n0 : decide (L < 1) = false) (w : World) :
    Calls Tryd.prog 20 #[mo a c, .int .i64 n, .int .i64 L, .int .i64 mode] w fun e w' => e = .returned (.tuple #[mo0, .int .i64 4]) ∧ Below w.heap.size w w' := by
  have HA := Lib.hid (fun w => rmcheck_any a c hc w)
  rw [hx] at HA
  unfold mo0 at *
  unfold mo at *
  clear hc hx
  go_enter Tryd.func20, Tryd.ntmps20
  go_wp2_with fail
  refine (HA.out _).mono ?_
  rintro e w1 ⟨rfl, hb⟩
  obtain ⟨d1, o1, rfl⟩ := regrow_of hb
  clear hb
  go_wp2_with fail
  exact bodyPost_ret (v := .tuple #[.agg #[.int .i64 0, .string ⟨#[]⟩], .int .i64 4]) (by simp [results, Tryd.results20, go_sem]) rfl ⟨rfl, by repeat (first | exact Below.refl _ _ | refine al ?_ | refine bre ?_ _ _)⟩
theorem rscale_e2 (a : Int) (c : ByteArray) (n L mode : Int) (hc : c.size ≤ maxLen) (hx : mchk a c = 0) (y0 : decide (n < -1099511627776) = true) (n0 : decide (L < 1) = false) (n1 : decide (1099511627776 < L) = false) (w : World) :
    Calls Tryd.prog 20 #[mo a c, .int .i64 n, .int .i64 L, .int .i64 mode] w fun e w' => e = .returned (.tuple #[mo0, .int .i64 4]) ∧ Below w.heap.size w w' := by
  have HA := Lib.hid (fun w => rmcheck_any a c hc w)
  rw [hx] at HA
  unfold mo0 at *
  unfold mo at *
  clear hc hx
  go_enter Tryd.func20, Tryd.ntmps20
  go_wp2_with fail
  refine (HA.out _).mono ?_
  rintro e w1 ⟨rfl, hb⟩
  obtain ⟨d1, o1, rfl⟩ := regrow_of hb
  clear hb
  go_wp2_with fail
  exact bodyPost_ret (v := .tuple #[.agg #[.int .i64 0, .string ⟨#[]⟩], .int .i64 4]) (by simp [results, Tryd.results20, go_sem]) rfl ⟨rfl, by repeat (first | exact Below.refl _ _ | refine al ?_ | refine bre ?_ _ _)⟩
theorem rscale_e3 (a : Int) (c : ByteArray) (n L mode : Int) (hc : c.size ≤ maxLen) (hx : mchk a c = 0) (y0 : decide (1099511627776 < n) = true) (n0 : decide (L < 1) = false) (n1 : decide (1099511627776 < L) = false) (n2 : decide (n < -1099511627776) = false) (w : World) :
    Calls Tryd.prog 20 #[mo a c, .int .i64 n, .int .i64 L, .int .i64 mode] w fun e w' => e = .returned (.tuple #[mo0, .int .i64 4]) ∧ Below w.heap.size w w' := by
  have HA := Lib.hid (fun w => rmcheck_any a c hc w)
  rw [hx] at HA
  unfold mo0 at *
  unfold mo at *
  clear hc hx
  go_enter Tryd.func20, Tryd.ntmps20
  go_wp2_with fail
  refine (HA.out _).mono ?_
  rintro e w1 ⟨rfl, hb⟩
  obtain ⟨d1, o1, rfl⟩ := regrow_of hb
  clear hb
  go_wp2_with fail
  exact bodyPost_ret (v := .tuple #[.agg #[.int .i64 0, .string ⟨#[]⟩], .int .i64 4]) (by simp [results, Tryd.results20, go_sem]) rfl ⟨rfl, by repeat (first | exact Below.refl _ _ | refine al ?_ | refine bre ?_ _ _)⟩
theorem rscale_e4 (a : Int) (c : ByteArray) (n L mode : Int) (hc : c.size ≤ maxLen) (hx : mchk a c = 0) (y0 : decide (mode < 1) = true) (n0 : decide (L < 1) = false) (n1 : decide (1099511627776 < L) = false) (n2 : decide (n < -1099511627776) = false) (n3 : decide (1099511627776 < n) = false) (w : World) :
    Calls Tryd.prog 20 #[mo a c, .int .i64 n, .int .i64 L, .int .i64 mode] w fun e w' => e = .returned (.tuple #[mo0, .int .i64 4]) ∧ Below w.heap.size w w' := by
  have HA := Lib.hid (fun w => rmcheck_any a c hc w)
  rw [hx] at HA
  unfold mo0 at *
  unfold mo at *
  clear hc hx
  go_enter Tryd.func20, Tryd.ntmps20
  go_wp2_with fail
  refine (HA.out _).mono ?_
  rintro e w1 ⟨rfl, hb⟩
  obtain ⟨d1, o1, rfl⟩ := regrow_of hb
  clear hb
  go_wp2_with fail
  exact bodyPost_ret (v := .tuple #[.agg #[.int .i64 0, .string ⟨#[]⟩], .int .i64 4]) (by simp [results, Tryd.results20, go_sem]) rfl ⟨rfl, by repeat (first | exact Below.refl _ _ | refine al ?_ | refine bre ?_ _ _)⟩
theorem rscale_e5 (a : Int) (c : ByteArray) (n L mode : Int) (hc : c.size ≤ maxLen) (hx : mchk a c = 0) (y0 : decide (4 < mode) = true) (n0 : decide (L < 1) = false) (n1 : decide (1099511627776 < L) = false) (n2 : decide (n < -1099511627776) = false) (n3 : decide (1099511627776 < n) = false) (n4 : decide (mode < 1) = false) (w : World) :
    Calls Tryd.prog 20 #[mo a c, .int .i64 n, .int .i64 L, .int .i64 mode] w fun e w' => e = .returned (.tuple #[mo0, .int .i64 4]) ∧ Below w.heap.size w w' := by
  have HA := Lib.hid (fun w => rmcheck_any a c hc w)
  rw [hx] at HA
  unfold mo0 at *
  unfold mo at *
  clear hc hx
  go_enter Tryd.func20, Tryd.ntmps20
  go_wp2_with fail
  refine (HA.out _).mono ?_
  rintro e w1 ⟨rfl, hb⟩
  obtain ⟨d1, o1, rfl⟩ := regrow_of hb
  clear hb
  go_wp2_with fail
  exact bodyPost_ret (v := .tuple #[.agg #[.int .i64 0, .string ⟨#[]⟩], .int .i64 4]) (by simp [results, Tryd.results20, go_sem]) rfl ⟨rfl, by repeat (first | exact Below.refl _ _ | refine al ?_ | refine bre ?_ _ _)⟩
theorem rscale_prm (a : Int) (c : ByteArray) (n L mode : Int) (hc : c.size ≤ maxLen) (hx : mchk a c = 0) (h : ¬ prm n L mode) (w : World) :
    Calls Tryd.prog 20 #[mo a c, .int .i64 n, .int .i64 L, .int .i64 mode] w fun e w' => e = .returned (.tuple #[mo0, .int .i64 4]) ∧ Below w.heap.size w w' := by
  unfold prm at h
  by_cases h0 : L < 1
  · exact rscale_e0 a c n L mode hc hx (decide_eq_true h0) w
  by_cases h1 : 1099511627776 < L
  · exact rscale_e1 a c n L mode hc hx (decide_eq_true h1) (decide_eq_false h0) w
  by_cases h2 : n < -1099511627776
  · exact rscale_e2 a c n L mode hc hx (decide_eq_true h2) (decide_eq_false h0) (decide_eq_false h1) w
  by_cases h3 : 1099511627776 < n
  · exact rscale_e3 a c n L mode hc hx (decide_eq_true h3) (decide_eq_false h0) (decide_eq_false h1) (decide_eq_false h2) w
  by_cases h4 : mode < 1
  · exact rscale_e4 a c n L mode hc hx (decide_eq_true h4) (decide_eq_false h0) (decide_eq_false h1) (decide_eq_false h2) (decide_eq_false h3) w
  · exact rscale_e5 a c n L mode hc hx (decide_eq_true (by omega)) (decide_eq_false h0) (decide_eq_false h1) (decide_eq_false h2) (decide_eq_false h3) (decide_eq_false h4) w

theorem scaleG_too (a : Int) (c : ByteArray) (n M K L H P mode : Int) (w : World) (hp : prm n L mode)
    (hc : ∀ w, Calls Tryd.prog 16 #[mo a c] w fun e w' => e = .returned (.int .i64 0) ∧ Below w.heap.size w w')
    (h1 : ∀ w, Calls Tryd.prog 37 #[.int .i64 a] w fun e w' => e = .returned (.int .u64 M) ∧ w = w')
    (h2 : ∀ w, Calls Tryd.prog 37 #[.int .i64 n] w fun e w' => e = .returned (.int .u64 K) ∧ w = w')
    (h3 : ∀ w, Calls Tryd.prog 36 #[.int .u64 M, .int .u64 K] w fun e w' => e = .returned (.tuple #[.int .u64 H, .int .u64 P]) ∧ w' = w)
    (hL : decide (L ≤ H) = true) :
    Calls Tryd.prog 19 #[mo a c, .int .i64 n, .int .i64 L, .int .i64 mode] w fun e w' => e = .returned (.tuple #[mo0, .int .i64 4]) ∧ Below w.heap.size w w' := by
  have HC := Lib.hid hc
  have H1 := Lib.hid h1
  have H2 := Lib.hid h2
  have H3 := Lib.hid h3
  obtain ⟨l1, l2, n1, n2, m1, m2⟩ := hp
  have p1 : decide (L < 1) = false := decide_eq_false (by omega)
  have p2 : decide (1099511627776 < L) = false := decide_eq_false (by omega)
  have p3 : decide (n < -1099511627776) = false := decide_eq_false (by omega)
  have p4 : decide (1099511627776 < n) = false := decide_eq_false (by omega)
  have p5 : decide (mode < 1) = false := decide_eq_false (by omega)
  have p6 : decide (4 < mode) = false := decide_eq_false (by omega)
  clear hc h1 h2 h3
  unfold mo0 at *
  unfold mo at *
  go_enter Tryd.func19, Tryd.ntmps19
  go_wp2_with fail
  refine (HC.out _).mono ?_
  rintro e w1 ⟨rfl, hb⟩
  obtain ⟨d1, o1, rfl⟩ := regrow_of hb
  clear hb
  go_wp2_with fail
  refine (H1.out _).mono ?_
  rintro e q2 ⟨rfl, rfl⟩
  go_wp2_with fail
  refine (H2.out _).mono ?_
  rintro e q3 ⟨rfl, rfl⟩
  go_wp2_with fail
  refine (H3.out _).mono ?_
  rintro e q4 ⟨rfl, rfl⟩
  go_wp2_with fail
  exact bodyPost_ret (v := .tuple #[.agg #[.int .i64 0, .string ⟨#[]⟩], .int .i64 4]) (by simp [results, Tryd.results19, go_sem]) rfl ⟨rfl, by repeat (first | exact Below.refl _ _ | refine al ?_ | refine bre ?_ _ _)⟩

theorem scaleG_far (a : Int) (c : ByteArray) (n M K L H P q r mode : Int) (w : World) (hp : prm n L mode)
    (hc : ∀ w, Calls Tryd.prog 16 #[mo a c] w fun e w' => e = .returned (.int .i64 0) ∧ Below w.heap.size w w')
    (h1 : ∀ w, Calls Tryd.prog 37 #[.int .i64 a] w fun e w' => e = .returned (.int .u64 M) ∧ w = w')
    (h2 : ∀ w, Calls Tryd.prog 37 #[.int .i64 n] w fun e w' => e = .returned (.int .u64 K) ∧ w = w')
    (h3 : ∀ w, Calls Tryd.prog 36 #[.int .u64 M, .int .u64 K] w fun e w' => e = .returned (.tuple #[.int .u64 H, .int .u64 P]) ∧ w' = w)
    (h4 : ∀ w, Calls Tryd.prog 38 #[.int .u64 H, .int .u64 P, .int .u64 L] w fun e w' => e = .returned (.tuple #[.int .u64 q, .int .u64 r]) ∧ Below w.heap.size w w')
    (hL : decide (L ≤ H) = false) (hq : decide (q ≤ 4503599627370496) = false) (hq2 : decide (4503599627370496 < q) = true) :
    Calls Tryd.prog 19 #[mo a c, .int .i64 n, .int .i64 L, .int .i64 mode] w fun e w' => e = .returned (.tuple #[mo0, .int .i64 4]) ∧ Below w.heap.size w w' := by
  have HC := Lib.hid hc
  have H1 := Lib.hid h1
  have H2 := Lib.hid h2
  have H3 := Lib.hid h3
  have H4 := Lib.hid h4
  obtain ⟨l1, l2, n1, n2, m1, m2⟩ := hp
  have p1 : decide (L < 1) = false := decide_eq_false (by omega)
  have p2 : decide (1099511627776 < L) = false := decide_eq_false (by omega)
  have p3 : decide (n < -1099511627776) = false := decide_eq_false (by omega)
  have p4 : decide (1099511627776 < n) = false := decide_eq_false (by omega)
  have p5 : decide (mode < 1) = false := decide_eq_false (by omega)
  have p6 : decide (4 < mode) = false := decide_eq_false (by omega)
  clear hc h1 h2 h3 h4
  unfold mo0 at *
  unfold mo at *
  go_enter Tryd.func19, Tryd.ntmps19
  go_wp2_with fail
  refine (HC.out _).mono ?_
  rintro e w1 ⟨rfl, hb⟩
  obtain ⟨d1, o1, rfl⟩ := regrow_of hb
  clear hb
  go_wp2_with fail
  refine (H1.out _).mono ?_
  rintro e q2 ⟨rfl, rfl⟩
  go_wp2_with fail
  refine (H2.out _).mono ?_
  rintro e q3 ⟨rfl, rfl⟩
  go_wp2_with fail
  refine (H3.out _).mono ?_
  rintro e q4 ⟨rfl, rfl⟩
  go_wp2_with fail
  refine (H4.out _).mono ?_
  rintro e w2 ⟨rfl, hb⟩
  obtain ⟨d2, o2, rfl⟩ := regrow_of hb
  clear hb
  go_wp2_with fail
  exact bodyPost_ret (v := .tuple #[.agg #[.int .i64 0, .string ⟨#[]⟩], .int .i64 4]) (by simp [results, Tryd.results19, go_sem]) rfl ⟨rfl, by repeat (first | exact Below.refl _ _ | refine al ?_ | refine bre ?_ _ _)⟩

theorem scaleG_top (a : Int) (c : ByteArray) (n M K L H P r mode : Int) (w : World) (hp : prm n L mode)
    (hc : ∀ w, Calls Tryd.prog 16 #[mo a c] w fun e w' => e = .returned (.int .i64 0) ∧ Below w.heap.size w w')
    (h1 : ∀ w, Calls Tryd.prog 37 #[.int .i64 a] w fun e w' => e = .returned (.int .u64 M) ∧ w = w')
    (h2 : ∀ w, Calls Tryd.prog 37 #[.int .i64 n] w fun e w' => e = .returned (.int .u64 K) ∧ w = w')
    (h3 : ∀ w, Calls Tryd.prog 36 #[.int .u64 M, .int .u64 K] w fun e w' => e = .returned (.tuple #[.int .u64 H, .int .u64 P]) ∧ w' = w)
    (h4 : ∀ w, Calls Tryd.prog 38 #[.int .u64 H, .int .u64 P, .int .u64 L] w fun e w' => e = .returned (.tuple #[.int .u64 4503599627370496, .int .u64 r]) ∧ Below w.heap.size w w')
    (h5 : ∀ w, Calls Tryd.prog 39 #[.int .u64 4503599627370496, .int .u64 r, .int .u64 L, .int .i64 mode] w fun e w' => e = .returned (.bool true) ∧ w = w')
    (hL : decide (L ≤ H) = false) :
    Calls Tryd.prog 19 #[mo a c, .int .i64 n, .int .i64 L, .int .i64 mode] w fun e w' => e = .returned (.tuple #[mo0, .int .i64 4]) ∧ Below w.heap.size w w' := by
  have HC := Lib.hid hc
  have H1 := Lib.hid h1
  have H2 := Lib.hid h2
  have H3 := Lib.hid h3
  have H4 := Lib.hid h4
  have H5 := Lib.hid h5
  obtain ⟨l1, l2, n1, n2, m1, m2⟩ := hp
  have p1 : decide (L < 1) = false := decide_eq_false (by omega)
  have p2 : decide (1099511627776 < L) = false := decide_eq_false (by omega)
  have p3 : decide (n < -1099511627776) = false := decide_eq_false (by omega)
  have p4 : decide (1099511627776 < n) = false := decide_eq_false (by omega)
  have p5 : decide (mode < 1) = false := decide_eq_false (by omega)
  have p6 : decide (4 < mode) = false := decide_eq_false (by omega)
  clear hc h1 h2 h3 h4 h5
  unfold mo0 at *
  unfold mo at *
  go_enter Tryd.func19, Tryd.ntmps19
  go_wp2_with fail
  refine (HC.out _).mono ?_
  rintro e w1 ⟨rfl, hb⟩
  obtain ⟨d1, o1, rfl⟩ := regrow_of hb
  clear hb
  go_wp2_with fail
  refine (H1.out _).mono ?_
  rintro e q2 ⟨rfl, rfl⟩
  go_wp2_with fail
  refine (H2.out _).mono ?_
  rintro e q3 ⟨rfl, rfl⟩
  go_wp2_with fail
  refine (H3.out _).mono ?_
  rintro e q4 ⟨rfl, rfl⟩
  go_wp2_with fail
  refine (H4.out _).mono ?_
  rintro e w2 ⟨rfl, hb⟩
  obtain ⟨d2, o2, rfl⟩ := regrow_of hb
  clear hb
  go_wp2_with fail
  refine (H5.out _).mono ?_
  rintro e q5 ⟨rfl, rfl⟩
  go_wp2_with fail
  exact bodyPost_ret (v := .tuple #[.agg #[.int .i64 0, .string ⟨#[]⟩], .int .i64 4]) (by simp [results, Tryd.results19, go_sem]) rfl ⟨rfl, by repeat (first | exact Below.refl _ _ | refine al ?_ | refine bre ?_ _ _)⟩
set_option maxHeartbeats 4000000 in
theorem scaleG_core (a : Int) (c : ByteArray) (n M K L H P q r mode : Int) (b : Bool) (w : World) (hp : prm n L mode)
    (hc : ∀ w, Calls Tryd.prog 16 #[mo a c] w fun e w' => e = .returned (.int .i64 0) ∧ Below w.heap.size w w')
    (h1 : ∀ w, Calls Tryd.prog 37 #[.int .i64 a] w fun e w' => e = .returned (.int .u64 M) ∧ w = w')
    (h2 : ∀ w, Calls Tryd.prog 37 #[.int .i64 n] w fun e w' => e = .returned (.int .u64 K) ∧ w = w')
    (h3 : ∀ w, Calls Tryd.prog 36 #[.int .u64 M, .int .u64 K] w fun e w' => e = .returned (.tuple #[.int .u64 H, .int .u64 P]) ∧ w' = w)
    (h4 : ∀ w, Calls Tryd.prog 38 #[.int .u64 H, .int .u64 P, .int .u64 L] w fun e w' => e = .returned (.tuple #[.int .u64 q, .int .u64 r]) ∧ Below w.heap.size w w')
    (h5 : ∀ w, Calls Tryd.prog 39 #[.int .u64 q, .int .u64 r, .int .u64 L, .int .i64 mode] w fun e w' => e = .returned (.bool b) ∧ w = w')
    (hL : decide (L ≤ H) = false) (q1 : 0 ≤ q) (q2 : q ≤ 4503599627370496) (qb : q + bI b ≤ 4503599627370496) :
    Calls Tryd.prog 19 #[mo a c, .int .i64 n, .int .i64 L, .int .i64 mode] w fun e w' => e = .returned (.tuple #[mo (sg2 a n (q + bI b)) c, .int .i64 0]) ∧ Below w.heap.size w w' := by
  have HC := Lib.hid hc
  have H1 := Lib.hid h1
  have H2 := Lib.hid h2
  have H3 := Lib.hid h3
  have H4 := Lib.hid h4
  have H5 := Lib.hid h5
  obtain ⟨l1, l2, n1, n2, m1, m2⟩ := hp
  have p1 : decide (L < 1) = false := decide_eq_false (by omega)
  have p2 : decide (1099511627776 < L) = false := decide_eq_false (by omega)
  have p3 : decide (n < -1099511627776) = false := decide_eq_false (by omega)
  have p4 : decide (1099511627776 < n) = false := decide_eq_false (by omega)
  have p5 : decide (mode < 1) = false := decide_eq_false (by omega)
  have p6 : decide (4 < mode) = false := decide_eq_false (by omega)
  clear hc h1 h2 h3 h4 h5 n1 n2
  unfold sg2
  unfold mo at *
  have e0 : q + bI false = q := by simp [bI]
  have e1 : q + bI true = q + 1 := by simp [bI]
  cases ha : decide (a < 0) <;> cases hn : decide (n < 0) <;> cases b
  · rw [if_neg (by decide), e0]
    clear qb e0 e1
    go_enter Tryd.func19, Tryd.ntmps19
    go_wp2_with fail
    refine (HC.out _).mono ?_
    rintro e w1 ⟨rfl, hb⟩
    obtain ⟨d1, o1, rfl⟩ := regrow_of hb
    clear hb
    go_wp2_with fail
    refine (H1.out _).mono ?_
    rintro e q2 ⟨rfl, rfl⟩
    go_wp2_with fail
    refine (H2.out _).mono ?_
    rintro e q3 ⟨rfl, rfl⟩
    go_wp2_with fail
    refine (H3.out _).mono ?_
    rintro e q4 ⟨rfl, rfl⟩
    go_wp2_with fail
    refine (H4.out _).mono ?_
    rintro e w2 ⟨rfl, hb⟩
    obtain ⟨d2, o2, rfl⟩ := regrow_of hb
    clear hb
    go_wp2_with fail
    refine (H5.out _).mono ?_
    rintro e q5 ⟨rfl, rfl⟩
    go_wp2_with fail
    exact bodyPost_ret (v := .tuple #[.agg #[.int .i64 q, .string c], .int .i64 0]) (by simp [results, Tryd.results19, go_sem]) rfl ⟨rfl, by repeat (first | exact Below.refl _ _ | refine al ?_ | refine bre ?_ _ _)⟩
  · rw [if_neg (by decide), e1]
    have q3 : q ≤ 4503599627370495 := by rw [e1] at qb; omega
    clear qb e0 e1
    go_enter Tryd.func19, Tryd.ntmps19
    go_wp2_with fail
    refine (HC.out _).mono ?_
    rintro e w1 ⟨rfl, hb⟩
    obtain ⟨d1, o1, rfl⟩ := regrow_of hb
    clear hb
    go_wp2_with fail
    refine (H1.out _).mono ?_
    rintro e q2 ⟨rfl, rfl⟩
    go_wp2_with fail
    refine (H2.out _).mono ?_
    rintro e q3 ⟨rfl, rfl⟩
    go_wp2_with fail
    refine (H3.out _).mono ?_
    rintro e q4 ⟨rfl, rfl⟩
    go_wp2_with fail
    refine (H4.out _).mono ?_
    rintro e w2 ⟨rfl, hb⟩
    obtain ⟨d2, o2, rfl⟩ := regrow_of hb
    clear hb
    go_wp2_with fail
    refine (H5.out _).mono ?_
    rintro e q5 ⟨rfl, rfl⟩
    go_wp2_with fail
    exact bodyPost_ret (v := .tuple #[.agg #[.int .i64 (q + 1), .string c], .int .i64 0]) (by simp [results, Tryd.results19, go_sem]) rfl ⟨rfl, by repeat (first | exact Below.refl _ _ | refine al ?_ | refine bre ?_ _ _)⟩
  · rw [if_pos (by decide), e0]
    clear qb e0 e1
    go_enter Tryd.func19, Tryd.ntmps19
    go_wp2_with fail
    refine (HC.out _).mono ?_
    rintro e w1 ⟨rfl, hb⟩
    obtain ⟨d1, o1, rfl⟩ := regrow_of hb
    clear hb
    go_wp2_with fail
    refine (H1.out _).mono ?_
    rintro e q2 ⟨rfl, rfl⟩
    go_wp2_with fail
    refine (H2.out _).mono ?_
    rintro e q3 ⟨rfl, rfl⟩
    go_wp2_with fail
    refine (H3.out _).mono ?_
    rintro e q4 ⟨rfl, rfl⟩
    go_wp2_with fail
    refine (H4.out _).mono ?_
    rintro e w2 ⟨rfl, hb⟩
    obtain ⟨d2, o2, rfl⟩ := regrow_of hb
    clear hb
    go_wp2_with fail
    refine (H5.out _).mono ?_
    rintro e q5 ⟨rfl, rfl⟩
    go_wp2_with fail
    exact bodyPost_ret (v := .tuple #[.agg #[.int .i64 (-q), .string c], .int .i64 0]) (by simp [results, Tryd.results19, go_sem]) rfl ⟨rfl, by repeat (first | exact Below.refl _ _ | refine al ?_ | refine bre ?_ _ _)⟩
  · rw [if_pos (by decide), e1]
    have q3 : q ≤ 4503599627370495 := by rw [e1] at qb; omega
    clear qb e0 e1
    go_enter Tryd.func19, Tryd.ntmps19
    go_wp2_with fail
    refine (HC.out _).mono ?_
    rintro e w1 ⟨rfl, hb⟩
    obtain ⟨d1, o1, rfl⟩ := regrow_of hb
    clear hb
    go_wp2_with fail
    refine (H1.out _).mono ?_
    rintro e q2 ⟨rfl, rfl⟩
    go_wp2_with fail
    refine (H2.out _).mono ?_
    rintro e q3 ⟨rfl, rfl⟩
    go_wp2_with fail
    refine (H3.out _).mono ?_
    rintro e q4 ⟨rfl, rfl⟩
    go_wp2_with fail
    refine (H4.out _).mono ?_
    rintro e w2 ⟨rfl, hb⟩
    obtain ⟨d2, o2, rfl⟩ := regrow_of hb
    clear hb
    go_wp2_with fail
    refine (H5.out _).mono ?_
    rintro e q5 ⟨rfl, rfl⟩
    go_wp2_with fail
    exact bodyPost_ret (v := .tuple #[.agg #[.int .i64 (-(q + 1)), .string c], .int .i64 0]) (by simp [results, Tryd.results19, go_sem]) rfl ⟨rfl, by repeat (first | exact Below.refl _ _ | refine al ?_ | refine bre ?_ _ _)⟩
  · rw [if_pos (by decide), e0]
    clear qb e0 e1
    go_enter Tryd.func19, Tryd.ntmps19
    go_wp2_with fail
    refine (HC.out _).mono ?_
    rintro e w1 ⟨rfl, hb⟩
    obtain ⟨d1, o1, rfl⟩ := regrow_of hb
    clear hb
    go_wp2_with fail
    refine (H1.out _).mono ?_
    rintro e q2 ⟨rfl, rfl⟩
    go_wp2_with fail
    refine (H2.out _).mono ?_
    rintro e q3 ⟨rfl, rfl⟩
    go_wp2_with fail
    refine (H3.out _).mono ?_
    rintro e q4 ⟨rfl, rfl⟩
    go_wp2_with fail
    refine (H4.out _).mono ?_
    rintro e w2 ⟨rfl, hb⟩
    obtain ⟨d2, o2, rfl⟩ := regrow_of hb
    clear hb
    go_wp2_with fail
    refine (H5.out _).mono ?_
    rintro e q5 ⟨rfl, rfl⟩
    go_wp2_with fail
    exact bodyPost_ret (v := .tuple #[.agg #[.int .i64 (-q), .string c], .int .i64 0]) (by simp [results, Tryd.results19, go_sem]) rfl ⟨rfl, by repeat (first | exact Below.refl _ _ | refine al ?_ | refine bre ?_ _ _)⟩
  · rw [if_pos (by decide), e1]
    have q3 : q ≤ 4503599627370495 := by rw [e1] at qb; omega
    clear qb e0 e1
    go_enter Tryd.func19, Tryd.ntmps19
    go_wp2_with fail
    refine (HC.out _).mono ?_
    rintro e w1 ⟨rfl, hb⟩
    obtain ⟨d1, o1, rfl⟩ := regrow_of hb
    clear hb
    go_wp2_with fail
    refine (H1.out _).mono ?_
    rintro e q2 ⟨rfl, rfl⟩
    go_wp2_with fail
    refine (H2.out _).mono ?_
    rintro e q3 ⟨rfl, rfl⟩
    go_wp2_with fail
    refine (H3.out _).mono ?_
    rintro e q4 ⟨rfl, rfl⟩
    go_wp2_with fail
    refine (H4.out _).mono ?_
    rintro e w2 ⟨rfl, hb⟩
    obtain ⟨d2, o2, rfl⟩ := regrow_of hb
    clear hb
    go_wp2_with fail
    refine (H5.out _).mono ?_
    rintro e q5 ⟨rfl, rfl⟩
    go_wp2_with fail
    exact bodyPost_ret (v := .tuple #[.agg #[.int .i64 (-(q + 1)), .string c], .int .i64 0]) (by simp [results, Tryd.results19, go_sem]) rfl ⟨rfl, by repeat (first | exact Below.refl _ _ | refine al ?_ | refine bre ?_ _ _)⟩
  · rw [if_neg (by decide), e0]
    clear qb e0 e1
    go_enter Tryd.func19, Tryd.ntmps19
    go_wp2_with fail
    refine (HC.out _).mono ?_
    rintro e w1 ⟨rfl, hb⟩
    obtain ⟨d1, o1, rfl⟩ := regrow_of hb
    clear hb
    go_wp2_with fail
    refine (H1.out _).mono ?_
    rintro e q2 ⟨rfl, rfl⟩
    go_wp2_with fail
    refine (H2.out _).mono ?_
    rintro e q3 ⟨rfl, rfl⟩
    go_wp2_with fail
    refine (H3.out _).mono ?_
    rintro e q4 ⟨rfl, rfl⟩
    go_wp2_with fail
    refine (H4.out _).mono ?_
    rintro e w2 ⟨rfl, hb⟩
    obtain ⟨d2, o2, rfl⟩ := regrow_of hb
    clear hb
    go_wp2_with fail
    refine (H5.out _).mono ?_
    rintro e q5 ⟨rfl, rfl⟩
    go_wp2_with fail
    exact bodyPost_ret (v := .tuple #[.agg #[.int .i64 q, .string c], .int .i64 0]) (by simp [results, Tryd.results19, go_sem]) rfl ⟨rfl, by repeat (first | exact Below.refl _ _ | refine al ?_ | refine bre ?_ _ _)⟩
  · rw [if_neg (by decide), e1]
    have q3 : q ≤ 4503599627370495 := by rw [e1] at qb; omega
    clear qb e0 e1
    go_enter Tryd.func19, Tryd.ntmps19
    go_wp2_with fail
    refine (HC.out _).mono ?_
    rintro e w1 ⟨rfl, hb⟩
    obtain ⟨d1, o1, rfl⟩ := regrow_of hb
    clear hb
    go_wp2_with fail
    refine (H1.out _).mono ?_
    rintro e q2 ⟨rfl, rfl⟩
    go_wp2_with fail
    refine (H2.out _).mono ?_
    rintro e q3 ⟨rfl, rfl⟩
    go_wp2_with fail
    refine (H3.out _).mono ?_
    rintro e q4 ⟨rfl, rfl⟩
    go_wp2_with fail
    refine (H4.out _).mono ?_
    rintro e w2 ⟨rfl, hb⟩
    obtain ⟨d2, o2, rfl⟩ := regrow_of hb
    clear hb
    go_wp2_with fail
    refine (H5.out _).mono ?_
    rintro e q5 ⟨rfl, rfl⟩
    go_wp2_with fail
    exact bodyPost_ret (v := .tuple #[.agg #[.int .i64 (q + 1), .string c], .int .i64 0]) (by simp [results, Tryd.results19, go_sem]) rfl ⟨rfl, by repeat (first | exact Below.refl _ _ | refine al ?_ | refine bre ?_ _ _)⟩
/-- what Scale answers where its arguments are permitted -/
theorem scale_all (a : Int) (c : ByteArray) (n : Int) (L : Nat) (mode : Int) (w : World) (hc : c.size ≤ maxLen) (hx : mchk a c = 0) (hp : prm n L mode) :
    Calls Tryd.prog 19 #[mo a c, .int .i64 n, .int .i64 L, .int .i64 mode] w fun e w' => e = .returned (if rndQ a n.natAbs L mode ≤ 4503599627370496 then .tuple #[mo (sg2 a n (rndQ a n.natAbs L mode)) c, .int .i64 0] else .tuple #[mo0, .int .i64 4]) ∧ Below w.heap.size w w' := by
  obtain ⟨hcl, a0, a1⟩ := mchk_zero hx
  obtain ⟨l1, l2, n1, n2, m1, m2⟩ := id hp
  have hbI : ∀ b, 0 ≤ bI b ∧ bI b ≤ 1 := by intro b; cases b <;> decide
  have hr : a.natAbs * n.natAbs % L < L := Nat.mod_lt _ (by omega)
  have hcm : n.natAbs * a.natAbs = a.natAbs * n.natAbs := Nat.mul_comm _ _
  have h3 : ∀ w, Calls Tryd.prog 36 #[.int .u64 (a.natAbs : Nat), .int .u64 (n.natAbs : Nat)] w fun e w' => e = .returned (.tuple #[.int .u64 ((a.natAbs * n.natAbs / 18446744073709551616 : Nat) : Int), .int .u64 ((a.natAbs * n.natAbs % 18446744073709551616 : Nat) : Int)]) ∧ w' = w := fun w =>
    (Tryd.bits_Mul64 a.natAbs n.natAbs (by omega) (by omega) w).mono fun e w' ⟨he, hw⟩ => ⟨he, hw⟩
  have g1 := fun w => mcheck_ok a c hc hcl a0 a1 w
  have g2 := fun w => magn_any a a0 a1 w
  have g3 := fun w => magn_any n (by omega) (by omega) w
  unfold rndQ
  rw [hcm]
  generalize a.natAbs * n.natAbs = P at *
  by_cases hH : L ≤ P / 18446744073709551616
  · have hq : 4503599627370497 ≤ P / L := by
      rw [Nat.le_div_iff_mul_le (by omega)] at hH ⊢
      omega
    have hcq : capQ (P / L) = 4503599627370497 := by unfold capQ; rw [if_neg (by omega)]
    have := (hbI (upI (capQ (P / L)) ((P % L : Nat) : Int) L mode)).1
    rw [if_neg (by rw [hcq] at this ⊢; omega)]
    exact scaleG_too a c n (a.natAbs : Nat) (n.natAbs : Nat) L _ _ mode w hp g1 g2 g3 h3 (decide_eq_true (by omega))
  · have hdl : decide ((L : Int) ≤ ((P / 18446744073709551616 : Nat) : Int)) = false := decide_eq_false (by omega)
    have g4 := fun w => div_words P L w (by omega) (by omega) (by omega)
    by_cases hq : P / L ≤ 4503599627370496
    · have hcq : capQ (P / L) = ((P / L : Nat) : Int) := by unfold capQ; rw [if_pos hq]
      have g5 := fun w => up_any (P / L) (P % L) L mode hq (by omega) (by omega) m1 m2 w
      rw [up_same] at g5
      rw [hcq]
      by_cases hs : ((P / L : Nat) : Int) + bI (upI ((P / L : Nat) : Int) ((P % L : Nat) : Int) L mode) ≤ 4503599627370496
      · rw [if_pos hs]
        exact scaleG_core a c n (a.natAbs : Nat) (n.natAbs : Nat) L _ _ _ _ mode _ w hp g1 g2 g3 h3 g4 g5 hdl (Int.natCast_nonneg _) (by omega) hs
      · rw [if_neg hs]
        have hb : upI ((P / L : Nat) : Int) ((P % L : Nat) : Int) L mode = true := by
          cases h : upI ((P / L : Nat) : Int) ((P % L : Nat) : Int) L mode
          · rw [h, show bI false = 0 from rfl] at hs; exfalso; generalize P / L = z at *; omega
          · rfl
        rw [hb] at g5 hs
        have hqq : ((P / L : Nat) : Int) = 4503599627370496 := by rw [show bI true = 1 from rfl] at hs; generalize P / L = z at *; omega
        rw [hqq] at g4 g5
        exact scaleG_top a c n (a.natAbs : Nat) (n.natAbs : Nat) L _ _ _ mode w hp g1 g2 g3 h3 g4 g5 hdl
    · have hcq : capQ (P / L) = 4503599627370497 := by unfold capQ; rw [if_neg hq]
      have := (hbI (upI (capQ (P / L)) ((P % L : Nat) : Int) L mode)).1
      rw [if_neg (by rw [hcq] at this ⊢; omega)]
      exact scaleG_far a c n (a.natAbs : Nat) (n.natAbs : Nat) L _ _ _ _ mode w hp g1 g2 g3 h3 g4 hdl (decide_eq_false (by omega)) (decide_eq_true (by omega))
set_option maxHeartbeats 4000000 in
theorem rscaleG_core (a : Int) (c : ByteArray) (n M K L q r Q mode : Int) (w : World) (hp : prm n L mode)
    (hc : ∀ w, Calls Tryd.prog 17 #[mo a c] w fun e w' => e = .returned (.int .i64 0) ∧ Below w.heap.size w w')
    (h1 : ∀ w, Calls Tryd.prog 40 #[.int .i64 M, .int .i64 K, .int .i64 L, .int .i64 4503599627370496] w fun e w' => e = .returned (.tuple #[.int .i64 q, .int .i64 r]) ∧ w = w')
    (h2 : ∀ w, Calls Tryd.prog 41 #[.int .i64 q, .int .i64 r, .int .i64 L, .int .i64 mode] w fun e w' => e = .returned (.int .i64 Q) ∧ w = w')
    (fa : max a (-a) = M) (fK : max n (-n) = K) (a0 : -4503599627370496 ≤ a) (a1 : a ≤ 4503599627370496) (q0 : 0 ≤ Q) (q1 : Q ≤ 4503599627370498) :
    Calls Tryd.prog 20 #[mo a c, .int .i64 n, .int .i64 L, .int .i64 mode] w fun e w' => e = .returned (if Q ≤ 4503599627370496 then .tuple #[mo (sg2 a n Q) c, .int .i64 0] else .tuple #[mo0, .int .i64 4]) ∧ Below w.heap.size w w' := by
  have HC := Lib.hid hc
  have HD := Lib.hid h1
  have HR := Lib.hid h2
  obtain ⟨l1, l2, n1, n2, m1, m2⟩ := hp
  have p1 : decide (L < 1) = false := decide_eq_false (by omega)
  have p2 : decide (1099511627776 < L) = false := decide_eq_false (by omega)
  have p3 : decide (n < -1099511627776) = false := decide_eq_false (by omega)
  have p4 : decide (1099511627776 < n) = false := decide_eq_false (by omega)
  have p5 : decide (mode < 1) = false := decide_eq_false (by omega)
  have p6 : decide (4 < mode) = false := decide_eq_false (by omega)
  have wa : IntKind.i64.wrap (-a) = -a := by rw [IntKind.wrap_i64]; omega
  have wn : IntKind.i64.wrap (-n) = -n := by rw [IntKind.wrap_i64]; omega
  unfold sg2
  unfold mo0 at *
  unfold mo at *
  clear hc h1 h2
  by_cases hQ : Q ≤ 4503599627370496
  · rw [if_pos hQ]
    have hq9 : decide (4503599627370496 < Q) = false := decide_eq_false (by omega)
    cases ha : decide (a < 0) <;> cases hn : decide (n < 0)
    · rw [if_neg (by decide)]
      go_enter Tryd.func20, Tryd.ntmps20
      go_wp2_with fail
      refine (HC.out _).mono ?_
      rintro e w1 ⟨rfl, hb⟩
      obtain ⟨d1, o1, rfl⟩ := regrow_of hb
      clear hb
      go_wp2_with fail
      refine (HD.out _).mono ?_
      rintro e q2 ⟨rfl, rfl⟩
      go_wp2_with fail
      refine (HR.out _).mono ?_
      rintro e q3 ⟨rfl, rfl⟩
      go_wp2_with fail
      exact bodyPost_ret (v := .tuple #[.agg #[.int .i64 Q, .string c], .int .i64 0]) (by simp [results, Tryd.results20, go_sem]) rfl ⟨rfl, by repeat (first | exact Below.refl _ _ | refine al ?_ | refine bre ?_ _ _)⟩
    · rw [if_pos (by decide)]
      go_enter Tryd.func20, Tryd.ntmps20
      go_wp2_with fail
      refine (HC.out _).mono ?_
      rintro e w1 ⟨rfl, hb⟩
      obtain ⟨d1, o1, rfl⟩ := regrow_of hb
      clear hb
      go_wp2_with fail
      refine (HD.out _).mono ?_
      rintro e q2 ⟨rfl, rfl⟩
      go_wp2_with fail
      refine (HR.out _).mono ?_
      rintro e q3 ⟨rfl, rfl⟩
      go_wp2_with fail
      exact bodyPost_ret (v := .tuple #[.agg #[.int .i64 (-Q), .string c], .int .i64 0]) (by simp [results, Tryd.results20, go_sem]) rfl ⟨rfl, by repeat (first | exact Below.refl _ _ | refine al ?_ | refine bre ?_ _ _)⟩
    · rw [if_pos (by decide)]
      go_enter Tryd.func20, Tryd.ntmps20
      go_wp2_with fail
      refine (HC.out _).mono ?_
      rintro e w1 ⟨rfl, hb⟩
      obtain ⟨d1, o1, rfl⟩ := regrow_of hb
      clear hb
      go_wp2_with fail
      refine (HD.out _).mono ?_
      rintro e q2 ⟨rfl, rfl⟩
      go_wp2_with fail
      refine (HR.out _).mono ?_
      rintro e q3 ⟨rfl, rfl⟩
      go_wp2_with fail
      exact bodyPost_ret (v := .tuple #[.agg #[.int .i64 (-Q), .string c], .int .i64 0]) (by simp [results, Tryd.results20, go_sem]) rfl ⟨rfl, by repeat (first | exact Below.refl _ _ | refine al ?_ | refine bre ?_ _ _)⟩
    · rw [if_neg (by decide)]
      go_enter Tryd.func20, Tryd.ntmps20
      go_wp2_with fail
      refine (HC.out _).mono ?_
      rintro e w1 ⟨rfl, hb⟩
      obtain ⟨d1, o1, rfl⟩ := regrow_of hb
      clear hb
      go_wp2_with fail
      refine (HD.out _).mono ?_
      rintro e q2 ⟨rfl, rfl⟩
      go_wp2_with fail
      refine (HR.out _).mono ?_
      rintro e q3 ⟨rfl, rfl⟩
      go_wp2_with fail
      exact bodyPost_ret (v := .tuple #[.agg #[.int .i64 Q, .string c], .int .i64 0]) (by simp [results, Tryd.results20, go_sem]) rfl ⟨rfl, by repeat (first | exact Below.refl _ _ | refine al ?_ | refine bre ?_ _ _)⟩
  · rw [if_neg hQ]
    have hq9 : decide (4503599627370496 < Q) = true := decide_eq_true (by omega)
    go_enter Tryd.func20, Tryd.ntmps20
    go_wp2_with fail
    refine (HC.out _).mono ?_
    rintro e w1 ⟨rfl, hb⟩
    obtain ⟨d1, o1, rfl⟩ := regrow_of hb
    clear hb
    go_wp2_with fail
    refine (HD.out _).mono ?_
    rintro e q2 ⟨rfl, rfl⟩
    go_wp2_with fail
    refine (HR.out _).mono ?_
    rintro e q3 ⟨rfl, rfl⟩
    go_wp2_with fail
    exact bodyPost_ret (v := .tuple #[.agg #[.int .i64 0, .string ⟨#[]⟩], .int .i64 4]) (by simp [results, Tryd.results20, go_sem]) rfl ⟨rfl, by repeat (first | exact Below.refl _ _ | refine al ?_ | refine bre ?_ _ _)⟩
theorem max_abs (a : Int) : max a (-a) = ((a.natAbs : Nat) : Int) := by
  rw [Int.max_def]; split <;> omega
theorem rscale_all (a : Int) (c : ByteArray) (n : Int) (L : Nat) (mode : Int) (w : World) (hc : c.size ≤ maxLen) (hx : mchk a c = 0) (hp : prm n L mode) :
    Calls Tryd.prog 20 #[mo a c, .int .i64 n, .int .i64 L, .int .i64 mode] w fun e w' => e = .returned (if rndQ a n.natAbs L mode ≤ 4503599627370496 then .tuple #[mo (sg2 a n (rndQ a n.natAbs L mode)) c, .int .i64 0] else .tuple #[mo0, .int .i64 4]) ∧ Below w.heap.size w w' := by
  obtain ⟨hcl, a0, a1⟩ := mchk_zero hx
  obtain ⟨l1, l2, n1, n2, m1, m2⟩ := id hp
  have hr : n.natAbs * a.natAbs % L < L := Nat.mod_lt _ (by omega)
  have hr2 : ((n.natAbs * a.natAbs % L : Nat) : Int) ≤ 70368744177664 := by generalize n.natAbs * a.natAbs % L = z at hr ⊢; omega
  have hq := capQ_in (n.natAbs * a.natAbs / L)
  have hd := fun w => divide_any a.natAbs n.natAbs L w (by omega) (by omega) (by omega) (by omega)
  have ho := fun w => round_any (capQ (n.natAbs * a.natAbs / L)) ((n.natAbs * a.natAbs % L : Nat) : Int) L mode hq.1 hq.2 (Int.natCast_nonneg _) hr2 (by omega) (by omega) m1 m2 w
  exact rscaleG_core a c n (a.natAbs : Nat) (n.natAbs : Nat) L _ _ _ mode w hp (fun w => rmcheck_ok a c hc hcl a0 a1 w) hd ho (max_abs a) (max_abs n) a0 a1 (rndQ_in a n.natAbs L mode).1 (rndQ_in a n.natAbs L mode).2
/-- both answer the same -/
theorem scale_both (a : Int) (c : ByteArray) (n L mode : Int) (hc : c.size ≤ maxLen) : ∃ (v : Int) (s : ByteArray) (E : Int),
    (∀ w, Calls Tryd.prog 19 #[mo a c, .int .i64 n, .int .i64 L, .int .i64 mode] w fun e w' => e = .returned (.tuple #[mo v s, .int .i64 E]) ∧ Below w.heap.size w w') ∧
    (∀ w, Calls Tryd.prog 20 #[mo a c, .int .i64 n, .int .i64 L, .int .i64 mode] w fun e w' => e = .returned (.tuple #[mo v s, .int .i64 E]) ∧ Below w.heap.size w w') := by
  cases hx : (mchk a c == 0)
  · exact ⟨0, ⟨#[]⟩, mchk a c, fun w => scale_chk a c n L mode hc hx w, fun w => rscale_chk a c n L mode hc hx w⟩
  · have hx0 : mchk a c = 0 := by simpa using hx
    by_cases hp : prm n L mode
    · have hL : ((L.toNat : Nat) : Int) = L := by have := hp.1; omega
      have h1 := fun w => scale_all a c n L.toNat mode w hc hx0 (by rw [hL]; exact hp)
      have h2 := fun w => rscale_all a c n L.toNat mode w hc hx0 (by rw [hL]; exact hp)
      rw [hL] at h1 h2
      by_cases hq : rndQ a n.natAbs L.toNat mode ≤ 4503599627370496
      · rw [if_pos hq] at h1 h2
        exact ⟨_, _, _, h1, h2⟩
      · rw [if_neg hq] at h1 h2
        exact ⟨_, _, _, h1, h2⟩
    · exact ⟨0, ⟨#[]⟩, 4, fun w => scale_prm a c n L mode hc hx0 hp w, fun w => rscale_prm a c n L mode hc hx0 hp w⟩
end Go.Proofs.YtompeealmgdfhaaDoor
