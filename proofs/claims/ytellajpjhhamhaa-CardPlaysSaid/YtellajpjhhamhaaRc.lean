/- Cards that are none; New of both. -/
import Derived.Test.YtellajpjhhamhaaRb
set_option linter.unusedVariables false
set_option linter.unusedSimpArgs false
namespace Go.Proofs.Ytellajpjhhamhaa
open Go.ChangeShapes Go.WideShapes Go.ChangeAt Go.RowKit
theorem nil20 (day : Int) (w : World) : Calls Try.prog 20 #[.pointer none, .int .i64 day] w fun e w' => e = .returned (.int .i64 6) ∧ w' = w := by
  go_enter Try.func20, Try.ntmps20
  go_wp2_with fail
  exact bodyPost_ret (v := .int .i64 6) (by simp [results, Try.results20, go_sem]) rfl ⟨rfl, rfl⟩
theorem nil31 (day : Int) (w : World) : Calls Try.prog 31 #[.pointer none, .int .i64 day] w fun e w' => e = .returned (.int .i64 6) ∧ w' = w := by
  go_enter Try.func31, Try.ntmps31
  go_wp2_with fail
  exact bodyPost_ret (v := .int .i64 6) (by simp [results, Try.results31, go_sem]) rfl ⟨rfl, rfl⟩
theorem nil22 (day : Int) (w : World) : Calls Try.prog 22 #[.pointer none, .int .i64 day] w fun e w' => e = .returned (.tuple #[.int .i64 0, .int .i64 0]) ∧ w' = w := by
  go_enter Try.func22, Try.ntmps22
  go_wp2_with fail
  exact bodyPost_ret (v := .tuple #[.int .i64 0, .int .i64 0]) (by simp [results, Try.results22, go_sem]) rfl ⟨rfl, rfl⟩
theorem nil23 (day : Int) (am : Int) (w : World) : Calls Try.prog 23 #[.pointer none, .int .i64 day, .int .i64 am] w fun e w' => e = .returned (.int .i64 6) ∧ w' = w := by
  go_enter Try.func23, Try.ntmps23
  go_wp2_with fail
  exact bodyPost_ret (v := .int .i64 6) (by simp [results, Try.results23, go_sem]) rfl ⟨rfl, rfl⟩
theorem nil12 (w : World) : Calls Try.prog 12 #[.pointer none] w fun e w' => e = .returned (.int .i64 0) ∧ w' = w := by
  go_enter Try.func12, Try.ntmps12
  go_wp2_with fail
  exact bodyPost_ret (v := .int .i64 0) (by simp [results, Try.results12, go_sem]) rfl ⟨rfl, rfl⟩
theorem nil14 (w : World) : Calls Try.prog 14 #[.pointer none] w fun e w' => e = .returned (.string ⟨#[]⟩) ∧ w' = w := by
  go_enter Try.func14, Try.ntmps14
  go_wp2_with fail
  exact bodyPost_ret (v := .string ⟨#[]⟩) (by simp [results, Try.results14, go_sem]) rfl ⟨rfl, rfl⟩
theorem nil16 (w : World) : Calls Try.prog 16 #[.pointer none] w fun e w' => e = .returned (.int .i64 0) ∧ w' = w := by
  go_enter Try.func16, Try.ntmps16
  go_wp2_with fail
  exact bodyPost_ret (v := .int .i64 0) (by simp [results, Try.results16, go_sem]) rfl ⟨rfl, rfl⟩
theorem nil30 (day : Int) (w : World) : Calls Try.prog 30 #[.pointer none, .int .i64 day] w fun e w' => e = .returned (.int .i64 6) ∧ w' = w := by
  go_enter Try.func30, Try.ntmps30
  go_wp2_with fail
  exact bodyPost_ret (v := .int .i64 6) (by simp [results, Try.results30, go_sem]) rfl ⟨rfl, rfl⟩
theorem nil32 (day : Int) (w : World) : Calls Try.prog 32 #[.pointer none, .int .i64 day] w fun e w' => e = .returned (.int .i64 6) ∧ w' = w := by
  go_enter Try.func32, Try.ntmps32
  go_wp2_with fail
  exact bodyPost_ret (v := .int .i64 6) (by simp [results, Try.results32, go_sem]) rfl ⟨rfl, rfl⟩
theorem nil35 (day : Int) (w : World) : Calls Try.prog 35 #[.pointer none, .int .i64 day] w fun e w' => e = .returned (.tuple #[.int .i64 0, .int .i64 0]) ∧ w' = w := by
  go_enter Try.func35, Try.ntmps35
  go_wp2_with fail
  exact bodyPost_ret (v := .tuple #[.int .i64 0, .int .i64 0]) (by simp [results, Try.results35, go_sem]) rfl ⟨rfl, rfl⟩
theorem nil34 (day : Int) (am : Int) (w : World) : Calls Try.prog 34 #[.pointer none, .int .i64 day, .int .i64 am] w fun e w' => e = .returned (.int .i64 6) ∧ w' = w := by
  go_enter Try.func34, Try.ntmps34
  go_wp2_with fail
  exact bodyPost_ret (v := .int .i64 6) (by simp [results, Try.results34, go_sem]) rfl ⟨rfl, rfl⟩
theorem nil13 (w : World) : Calls Try.prog 13 #[.pointer none] w fun e w' => e = .returned (.int .i64 0) ∧ w' = w := by
  go_enter Try.func13, Try.ntmps13
  go_wp2_with fail
  exact bodyPost_ret (v := .int .i64 0) (by simp [results, Try.results13, go_sem]) rfl ⟨rfl, rfl⟩
theorem nil15 (w : World) : Calls Try.prog 15 #[.pointer none] w fun e w' => e = .returned (.string ⟨#[]⟩) ∧ w' = w := by
  go_enter Try.func15, Try.ntmps15
  go_wp2_with fail
  exact bodyPost_ret (v := .string ⟨#[]⟩) (by simp [results, Try.results15, go_sem]) rfl ⟨rfl, rfl⟩
theorem nil17 (w : World) : Calls Try.prog 17 #[.pointer none] w fun e w' => e = .returned (.int .i64 0) ∧ w' = w := by
  go_enter Try.func17, Try.ntmps17
  go_wp2_with fail
  exact bodyPost_ret (v := .int .i64 0) (by simp [results, Try.results17, go_sem]) rfl ⟨rfl, rfl⟩
theorem nil21 (day : Int) (am : Int) (w : World) : Calls Try.prog 21 #[.pointer none, .int .i64 day, .int .i64 am] w fun e w' => e = .returned (.int .i64 6) ∧ w' = w := by
  have HS := Lib.hid (nil31 day w)
  go_enter Try.func21, Try.ntmps21
  go_wp2_with fail
  refine HS.out.mono ?_
  rintro e w1 ⟨rfl, rfl⟩
  go_wp2_with fail
  exact bodyPost_ret (v := .int .i64 6) (by simp [results, Try.results21, go_sem]) rfl ⟨rfl, rfl⟩
theorem nil33 (day : Int) (am : Int) (w : World) : Calls Try.prog 33 #[.pointer none, .int .i64 day, .int .i64 am] w fun e w' => e = .returned (.int .i64 6) ∧ w' = w := by
  have HS := Lib.hid (nil32 day w)
  go_enter Try.func33, Try.ntmps33
  go_wp2_with fail
  refine HS.out.mono ?_
  rintro e w1 ⟨rfl, rfl⟩
  go_wp2_with fail
  exact bodyPost_ret (v := .int .i64 6) (by simp [results, Try.results33, go_sem]) rfl ⟨rfl, rfl⟩
theorem new9_chk (nm : ByteArray) (ex am cn : Int) (w : World) (hs : nm.size ≤ 100) (E : Int) (h0 : chkP nm = E) (hE : E ≠ 0) : Calls Try.prog 9 #[.string nm, .int .i64 ex, .int .i64 am, .int .i64 cn] w fun e w' => e = .returned (.tuple #[.pointer none, .int .i64 E]) ∧ Below w.heap.size w w' := by
  have hc := check_any nm (by omega) w
  rw [h0] at hc
  have HC := Lib.hid hc
  clear hc h0 hs
  have x1 : (E == 0) = false := beq_eq_false_iff_ne.2 hE
  have x2 : (E != 0) = true := by rw [bne, x1]; rfl
  go_enter Try.func9, Try.ntmps9
  go_wp2_with fail
  refine HC.out.mono ?_
  rintro e w1 ⟨rfl, hb⟩
  have HB := Lib.hid hb
  clear hb
  go_wp2_with fail
  exact bodyPost_ret (v := .tuple #[.pointer none, .int .i64 E]) (by simp [results, Try.results9, go_sem]) rfl ⟨rfl, HB.out⟩
theorem new9_date (nm : ByteArray) (ex am cn : Int) (w : World) (hs : nm.size ≤ 100) (h0 : chkP nm = 0) (h1 : ¬ (0 ≤ ex ∧ ex ≤ 99999)) : Calls Try.prog 9 #[.string nm, .int .i64 ex, .int .i64 am, .int .i64 cn] w fun e w' => e = .returned (.tuple #[.pointer none, .int .i64 14]) ∧ Below w.heap.size w w' := by
  have hc := check_any nm (by omega) w
  rw [h0] at hc
  have HC := Lib.hid hc
  clear hc h0 hs
  have HXD := Lib.hid (fun w => date_any ex w)
  simp only [decide_eq_false h1] at HXD
  go_enter Try.func9, Try.ntmps9
  go_wp2_with fail
  refine HC.out.mono ?_
  rintro e w1 ⟨rfl, hb⟩
  have HB := Lib.hid hb
  clear hb
  go_wp2_with fail
  refine (HXD.out _).mono ?_
  rintro e w2 ⟨rfl, rfl⟩
  go_wp2_with fail
  exact bodyPost_ret (v := .tuple #[.pointer none, .int .i64 14]) (by simp [results, Try.results9, go_sem]) rfl ⟨rfl, HB.out⟩
theorem new9_am (nm : ByteArray) (ex am cn : Int) (w : World) (hs : nm.size ≤ 100) (h0 : chkP nm = 0) (h1 : 0 ≤ ex ∧ ex ≤ 99999) (h2 : ¬ (0 ≤ am ∧ am ≤ 999999999999)) : Calls Try.prog 9 #[.string nm, .int .i64 ex, .int .i64 am, .int .i64 cn] w fun e w' => e = .returned (.tuple #[.pointer none, .int .i64 4]) ∧ Below w.heap.size w w' := by
  have hc := check_any nm (by omega) w
  rw [h0] at hc
  have HC := Lib.hid hc
  clear hc h0 hs
  have HXD := Lib.hid (fun w => date_any ex w)
  simp only [decide_eq_true h1] at HXD
  have HXA := Lib.hid (fun w => amount_any am 0 w)
  simp only [decide_eq_false h2] at HXA
  go_enter Try.func9, Try.ntmps9
  go_wp2_with fail
  refine HC.out.mono ?_
  rintro e w1 ⟨rfl, hb⟩
  have HB := Lib.hid hb
  clear hb
  go_wp2_with fail
  refine (HXD.out _).mono ?_
  rintro e w2 ⟨rfl, rfl⟩
  go_wp2_with fail
  refine (HXA.out _).mono ?_
  rintro e w3 ⟨rfl, rfl⟩
  go_wp2_with fail
  exact bodyPost_ret (v := .tuple #[.pointer none, .int .i64 4]) (by simp [results, Try.results9, go_sem]) rfl ⟨rfl, HB.out⟩
theorem new9_neg (nm : ByteArray) (ex am cn : Int) (w : World) (hs : nm.size ≤ 100) (h0 : chkP nm = 0) (h1 : 0 ≤ ex ∧ ex ≤ 99999) (h2 : 0 ≤ am ∧ am ≤ 999999999999) (h3 : cn < 0) : Calls Try.prog 9 #[.string nm, .int .i64 ex, .int .i64 am, .int .i64 cn] w fun e w' => e = .returned (.tuple #[.pointer none, .int .i64 4]) ∧ Below w.heap.size w w' := by
  have hc := check_any nm (by omega) w
  rw [h0] at hc
  have HC := Lib.hid hc
  clear hc h0 hs
  have HXD := Lib.hid (fun w => date_any ex w)
  simp only [decide_eq_true h1] at HXD
  have HXA := Lib.hid (fun w => amount_any am 0 w)
  simp only [decide_eq_true h2] at HXA
  have x1 : decide (cn < 0) = true := decide_eq_true h3
  go_enter Try.func9, Try.ntmps9
  go_wp2_with fail
  refine HC.out.mono ?_
  rintro e w1 ⟨rfl, hb⟩
  have HB := Lib.hid hb
  clear hb
  go_wp2_with fail
  refine (HXD.out _).mono ?_
  rintro e w2 ⟨rfl, rfl⟩
  go_wp2_with fail
  refine (HXA.out _).mono ?_
  rintro e w3 ⟨rfl, rfl⟩
  go_wp2_with fail
  exact bodyPost_ret (v := .tuple #[.pointer none, .int .i64 4]) (by simp [results, Try.results9, go_sem]) rfl ⟨rfl, HB.out⟩
theorem new9_big (nm : ByteArray) (ex am cn : Int) (w : World) (hs : nm.size ≤ 100) (h0 : chkP nm = 0) (h1 : 0 ≤ ex ∧ ex ≤ 99999) (h2 : 0 ≤ am ∧ am ≤ 999999999999) (h3 : 1000 < cn) : Calls Try.prog 9 #[.string nm, .int .i64 ex, .int .i64 am, .int .i64 cn] w fun e w' => e = .returned (.tuple #[.pointer none, .int .i64 4]) ∧ Below w.heap.size w w' := by
  have hc := check_any nm (by omega) w
  rw [h0] at hc
  have HC := Lib.hid hc
  clear hc h0 hs
  have HXD := Lib.hid (fun w => date_any ex w)
  simp only [decide_eq_true h1] at HXD
  have HXA := Lib.hid (fun w => amount_any am 0 w)
  simp only [decide_eq_true h2] at HXA
  have x1 : decide (cn < 0) = false := decide_eq_false (by omega)
  have x2 : decide (1000 < cn) = true := decide_eq_true h3
  go_enter Try.func9, Try.ntmps9
  go_wp2_with fail
  refine HC.out.mono ?_
  rintro e w1 ⟨rfl, hb⟩
  have HB := Lib.hid hb
  clear hb
  go_wp2_with fail
  refine (HXD.out _).mono ?_
  rintro e w2 ⟨rfl, rfl⟩
  go_wp2_with fail
  refine (HXA.out _).mono ?_
  rintro e w3 ⟨rfl, rfl⟩
  go_wp2_with fail
  exact bodyPost_ret (v := .tuple #[.pointer none, .int .i64 4]) (by simp [results, Try.results9, go_sem]) rfl ⟨rfl, HB.out⟩
theorem new9_ok (nm : ByteArray) (ex am cn : Int) (w : World) (hs : nm.size ≤ 100) (h0 : chkP nm = 0) (h1 : 0 ≤ ex ∧ ex ≤ 99999) (h2 : 0 ≤ am ∧ am ≤ 999999999999) (h3 : 0 ≤ cn) (h4 : cn ≤ 1000) : Calls Try.prog 9 #[.string nm, .int .i64 ex, .int .i64 am, .int .i64 cn] w fun e w' => ∃ g, e = .returned (.tuple #[.pointer (some ⟨g, 0, none⟩), .int .i64 0]) ∧ w.heap.size ≤ g ∧ g < w'.heap.size ∧ Blk w' g 57 (cc nm ex 1 am cn false 0 0 0) ∧ Below w.heap.size w w' := by
  have hc := check_any nm (by omega) w
  rw [h0] at hc
  have HC := Lib.hid hc
  clear hc h0 hs
  have HXD := Lib.hid (fun w => date_any ex w)
  simp only [decide_eq_true h1] at HXD
  have HXA := Lib.hid (fun w => amount_any am 0 w)
  simp only [decide_eq_true h2] at HXA
  have x1 : decide (cn < 0) = false := decide_eq_false (by omega)
  have x2 : decide (1000 < cn) = false := decide_eq_false (by omega)
  go_enter Try.func9, Try.ntmps9
  go_wp2_with fail
  refine HC.out.mono ?_
  rintro e w1 ⟨rfl, hb⟩
  have HB := Lib.hid hb
  clear hb
  go_wp2_with fail
  refine (HXD.out _).mono ?_
  rintro e w2 ⟨rfl, rfl⟩
  go_wp2_with fail
  refine (HXA.out _).mono ?_
  rintro e w3 ⟨rfl, rfl⟩
  go_wp2_with fail
  refine bodyPost_ret (v := .tuple #[.pointer (some ⟨_, 0, none⟩), .int .i64 0]) (by simp [results, Try.results9, go_sem]) rfl ⟨_, rfl, HB.out.size, by simp, Blk.new _ _ _, HB.out.alloc HB.out.size _⟩
theorem new10_chk (nm : ByteArray) (ex am cn : Int) (w : World) (hs : nm.size ≤ 100) (E : Int) (h0 : chkP nm = E) (hE : E ≠ 0) : Calls Try.prog 10 #[.string nm, .int .i64 ex, .int .i64 am, .int .i64 cn] w fun e w' => e = .returned (.tuple #[.pointer none, .int .i64 E]) ∧ Below w.heap.size w w' := by
  have hc := rcheck_any nm (by omega) w
  rw [h0] at hc
  have HC := Lib.hid hc
  clear hc h0 hs
  have x1 : (E == 0) = false := beq_eq_false_iff_ne.2 hE
  have x2 : (E != 0) = true := by rw [bne, x1]; rfl
  go_enter Try.func10, Try.ntmps10
  go_wp2_with fail
  refine HC.out.mono ?_
  rintro e w1 ⟨rfl, rfl⟩
  have hb := Below.refl w1.heap.size w1
  have HB := Lib.hid hb
  clear hb
  go_wp2_with fail
  exact bodyPost_ret (v := .tuple #[.pointer none, .int .i64 E]) (by simp [results, Try.results10, go_sem]) rfl ⟨rfl, HB.out⟩
theorem new10_date (nm : ByteArray) (ex am cn : Int) (w : World) (hs : nm.size ≤ 100) (h0 : chkP nm = 0) (h1 : ¬ (0 ≤ ex ∧ ex ≤ 99999)) : Calls Try.prog 10 #[.string nm, .int .i64 ex, .int .i64 am, .int .i64 cn] w fun e w' => e = .returned (.tuple #[.pointer none, .int .i64 14]) ∧ Below w.heap.size w w' := by
  have hc := rcheck_any nm (by omega) w
  rw [h0] at hc
  have HC := Lib.hid hc
  clear hc h0 hs
  have HXD := Lib.hid (fun w => rdate_any ex w)
  simp only [decide_eq_false h1] at HXD
  go_enter Try.func10, Try.ntmps10
  go_wp2_with fail
  refine HC.out.mono ?_
  rintro e w1 ⟨rfl, rfl⟩
  have hb := Below.refl w1.heap.size w1
  have HB := Lib.hid hb
  clear hb
  go_wp2_with fail
  refine (HXD.out _).mono ?_
  rintro e w2 ⟨rfl, rfl⟩
  go_wp2_with fail
  exact bodyPost_ret (v := .tuple #[.pointer none, .int .i64 14]) (by simp [results, Try.results10, go_sem]) rfl ⟨rfl, HB.out⟩
theorem new10_am (nm : ByteArray) (ex am cn : Int) (w : World) (hs : nm.size ≤ 100) (h0 : chkP nm = 0) (h1 : 0 ≤ ex ∧ ex ≤ 99999) (h2 : ¬ (0 ≤ am ∧ am ≤ 999999999999)) : Calls Try.prog 10 #[.string nm, .int .i64 ex, .int .i64 am, .int .i64 cn] w fun e w' => e = .returned (.tuple #[.pointer none, .int .i64 4]) ∧ Below w.heap.size w w' := by
  have hc := rcheck_any nm (by omega) w
  rw [h0] at hc
  have HC := Lib.hid hc
  clear hc h0 hs
  have HXD := Lib.hid (fun w => rdate_any ex w)
  simp only [decide_eq_true h1] at HXD
  have HXA := Lib.hid (fun w => ramount_any am w)
  simp only [decide_eq_false h2] at HXA
  go_enter Try.func10, Try.ntmps10
  go_wp2_with fail
  refine HC.out.mono ?_
  rintro e w1 ⟨rfl, rfl⟩
  have hb := Below.refl w1.heap.size w1
  have HB := Lib.hid hb
  clear hb
  go_wp2_with fail
  refine (HXD.out _).mono ?_
  rintro e w2 ⟨rfl, rfl⟩
  go_wp2_with fail
  refine (HXA.out _).mono ?_
  rintro e w3 ⟨rfl, rfl⟩
  go_wp2_with fail
  exact bodyPost_ret (v := .tuple #[.pointer none, .int .i64 4]) (by simp [results, Try.results10, go_sem]) rfl ⟨rfl, HB.out⟩
theorem new10_neg (nm : ByteArray) (ex am cn : Int) (w : World) (hs : nm.size ≤ 100) (h0 : chkP nm = 0) (h1 : 0 ≤ ex ∧ ex ≤ 99999) (h2 : 0 ≤ am ∧ am ≤ 999999999999) (h3 : cn < 0) : Calls Try.prog 10 #[.string nm, .int .i64 ex, .int .i64 am, .int .i64 cn] w fun e w' => e = .returned (.tuple #[.pointer none, .int .i64 4]) ∧ Below w.heap.size w w' := by
  have hc := rcheck_any nm (by omega) w
  rw [h0] at hc
  have HC := Lib.hid hc
  clear hc h0 hs
  have HXD := Lib.hid (fun w => rdate_any ex w)
  simp only [decide_eq_true h1] at HXD
  have HXA := Lib.hid (fun w => ramount_any am w)
  simp only [decide_eq_true h2] at HXA
  have x1 : decide (cn < 0) = true := decide_eq_true h3
  go_enter Try.func10, Try.ntmps10
  go_wp2_with fail
  refine HC.out.mono ?_
  rintro e w1 ⟨rfl, rfl⟩
  have hb := Below.refl w1.heap.size w1
  have HB := Lib.hid hb
  clear hb
  go_wp2_with fail
  refine (HXD.out _).mono ?_
  rintro e w2 ⟨rfl, rfl⟩
  go_wp2_with fail
  refine (HXA.out _).mono ?_
  rintro e w3 ⟨rfl, rfl⟩
  go_wp2_with fail
  exact bodyPost_ret (v := .tuple #[.pointer none, .int .i64 4]) (by simp [results, Try.results10, go_sem]) rfl ⟨rfl, HB.out⟩
theorem new10_big (nm : ByteArray) (ex am cn : Int) (w : World) (hs : nm.size ≤ 100) (h0 : chkP nm = 0) (h1 : 0 ≤ ex ∧ ex ≤ 99999) (h2 : 0 ≤ am ∧ am ≤ 999999999999) (h3 : 1000 < cn) : Calls Try.prog 10 #[.string nm, .int .i64 ex, .int .i64 am, .int .i64 cn] w fun e w' => e = .returned (.tuple #[.pointer none, .int .i64 4]) ∧ Below w.heap.size w w' := by
  have hc := rcheck_any nm (by omega) w
  rw [h0] at hc
  have HC := Lib.hid hc
  clear hc h0 hs
  have HXD := Lib.hid (fun w => rdate_any ex w)
  simp only [decide_eq_true h1] at HXD
  have HXA := Lib.hid (fun w => ramount_any am w)
  simp only [decide_eq_true h2] at HXA
  have x1 : decide (cn < 0) = false := decide_eq_false (by omega)
  have x2 : decide (1000 < cn) = true := decide_eq_true h3
  go_enter Try.func10, Try.ntmps10
  go_wp2_with fail
  refine HC.out.mono ?_
  rintro e w1 ⟨rfl, rfl⟩
  have hb := Below.refl w1.heap.size w1
  have HB := Lib.hid hb
  clear hb
  go_wp2_with fail
  refine (HXD.out _).mono ?_
  rintro e w2 ⟨rfl, rfl⟩
  go_wp2_with fail
  refine (HXA.out _).mono ?_
  rintro e w3 ⟨rfl, rfl⟩
  go_wp2_with fail
  exact bodyPost_ret (v := .tuple #[.pointer none, .int .i64 4]) (by simp [results, Try.results10, go_sem]) rfl ⟨rfl, HB.out⟩
theorem new10_ok (nm : ByteArray) (ex am cn : Int) (w : World) (hs : nm.size ≤ 100) (h0 : chkP nm = 0) (h1 : 0 ≤ ex ∧ ex ≤ 99999) (h2 : 0 ≤ am ∧ am ≤ 999999999999) (h3 : 0 ≤ cn) (h4 : cn ≤ 1000) : Calls Try.prog 10 #[.string nm, .int .i64 ex, .int .i64 am, .int .i64 cn] w fun e w' => ∃ g, e = .returned (.tuple #[.pointer (some ⟨g, 0, none⟩), .int .i64 0]) ∧ w.heap.size ≤ g ∧ g < w'.heap.size ∧ Blk w' g 60 (rc nm ex 1 am cn false 0 0 0) ∧ Below w.heap.size w w' := by
  have hc := rcheck_any nm (by omega) w
  rw [h0] at hc
  have HC := Lib.hid hc
  clear hc h0 hs
  have HXD := Lib.hid (fun w => rdate_any ex w)
  simp only [decide_eq_true h1] at HXD
  have HXA := Lib.hid (fun w => ramount_any am w)
  simp only [decide_eq_true h2] at HXA
  have x1 : decide (cn < 0) = false := decide_eq_false (by omega)
  have x2 : decide (1000 < cn) = false := decide_eq_false (by omega)
  go_enter Try.func10, Try.ntmps10
  go_wp2_with fail
  refine HC.out.mono ?_
  rintro e w1 ⟨rfl, rfl⟩
  have hb := Below.refl w1.heap.size w1
  have HB := Lib.hid hb
  clear hb
  go_wp2_with fail
  refine (HXD.out _).mono ?_
  rintro e w2 ⟨rfl, rfl⟩
  go_wp2_with fail
  refine (HXA.out _).mono ?_
  rintro e w3 ⟨rfl, rfl⟩
  go_wp2_with fail
  refine bodyPost_ret (v := .tuple #[.pointer (some ⟨_, 0, none⟩), .int .i64 0]) (by simp [results, Try.results10, go_sem]) rfl ⟨_, rfl, HB.out.size, by simp, Blk.new _ _ _, HB.out.alloc HB.out.size _⟩
end Go.Proofs.Ytellajpjhhamhaa
