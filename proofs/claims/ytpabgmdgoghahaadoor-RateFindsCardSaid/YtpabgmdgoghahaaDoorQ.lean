/- direct of both. -/
import Derived.Test.YtpabgmdgoghahaaDoorP
set_option linter.unusedVariables false
set_option linter.unusedSimpArgs false
namespace Go.Proofs.YtpabgmdgoghahaaDoor
open Go.Sort Go.ChangeShapes Go.WideShapes Go.ChangeAt Go.RowKit
@[go_sem] theorem lt_q1 (n a : Nat) : (n < n + 1 + a + 1) = True := by simp; omega
@[go_sem] theorem lt_q2 (n a b : Nat) : (n < n + 1 + a + 1 + b) = True := by simp; omega
@[go_sem] theorem lt_q3 (n a : Nat) : (n < n + 1 + 1 + a + 1) = True := by simp; omega
@[go_sem] theorem lt_q4 (n a b : Nat) : (n < n + 1 + 1 + a + 1 + b) = True := by simp; omega
@[go_sem] theorem lt_q5 (n a b : Nat) : (n < n + 1 + a + 1 + b + 1) = True := by simp; omega
@[go_sem] theorem lt_q6 (n a b : Nat) : (n < n + 1 + 1 + a + 1 + b + 1) = True := by simp; omega
@[go_sem] theorem lt_q7 (n a b c : Nat) : (n < n + 1 + a + 1 + b + 1 + c) = True := by simp; omega
@[go_sem] theorem lt_q8 (n a b c : Nat) : (n < n + 1 + 1 + a + 1 + b + 1 + c) = True := by simp; omega
@[go_sem] theorem lt_q9 (n a b c : Nat) : (n < n + 1 + a + 1 + b + 1 + c + 1) = True := by simp; omega
@[go_sem] theorem lt_q10 (n a : Nat) : (n < n + 1 + a + 1 + 1) = True := by simp; omega
@[go_sem] theorem lt_q11 (n a b : Nat) : (n < n + 1 + a + 1 + b + 1 + 1) = True := by simp; omega
@[go_sem] theorem lt_q12 (n a b c : Nat) : (n < n + 1 + a + 1 + b + 1 + c + 1 + 1) = True := by simp; omega
@[go_sem] theorem lt_q13 (n a b c : Nat) : (n < n + 1 + a + 1 + b + 1 + 1 + c) = True := by simp; omega
/-- the first of the rates that is meant, or none -/
theorem first_or (p : Nat → Bool) (len : Nat) : (∃ k, k < len ∧ p k = true ∧ ∀ j, j < k → p j = false) ∨ ∀ j, j < len → p j = false := by
  induction len with
  | zero => exact .inr fun j hj => absurd hj (Nat.not_lt_zero _)
  | succ m ih =>
    rcases ih with ⟨k, h1, h2, h3⟩ | h
    · exact .inl ⟨k, by omega, h2, h3⟩
    · cases hp : p m
      · refine .inr fun j hj => ?_
        by_cases hjm : j = m
        · rw [hjm]; exact hp
        · exact h j (by omega)
      · exact .inl ⟨m, by omega, hp, h⟩
theorem okR_chk {r : Rt} {f t : ByteArray} (h : okR r f t = true) : chkR r.f r.t r.n r.d = 0 := by
  unfold okR at h
  simp only [Bool.and_eq_true, beq_iff_eq] at h
  exact h.2
theorem size3_ne {f : ByteArray} (h : f.size = 3) : (f.toList == (⟨#[]⟩ : ByteArray).toList) = false := by
  obtain ⟨⟨l⟩⟩ := f
  match l, h with
  | [a, b, c], _ => simp [ByteArray.toList, ByteArray.toList.loop, ByteArray.size]
theorem size3_nil {f : ByteArray} (h : f.size = 3) : ¬ f.toList = [] := by
  have := size3_ne h
  intro e
  rw [e] at this
  revert this
  decide +kernel
theorem nil_eq : ((⟨#[]⟩ : ByteArray).toList == (⟨#[]⟩ : ByteArray).toList) = true := by decide +kernel
def vP : Option Rt → Value
  | some r => rt r.f r.t r.n r.d
  | none => rt0
def vQ : Option Rt → Value
  | some r => .tuple #[rt r.f r.t r.n r.d, .bool true]
  | none => .tuple #[rt0, .bool false]
/-- what direct finds -/
structure Dir (A : Option Addr) (len cap : Nat) (xs : Nat → Rt) (f t : ByteArray) (D : Option Rt) : Prop where
  good : ∀ r, D = some r → r.f.size = 3 ∧ r.t.size = 3
  prog : ∀ w, RatesAt w A len xs → Calls Tryd.prog 40 #[.slice A len cap, .string f, .string t] w fun e w' => e = .returned (vP D) ∧ Below w.heap.size w w'
  ref : ∀ w, RatesAt w A len xs → Calls Tryd.prog 41 #[.slice A len cap, .string f, .string t] w fun e w' => e = .returned (vQ D) ∧ Below w.heap.size w w'
/-- a stated rate -/
structure St (A : Option Addr) (len cap : Nat) (xs : Nat → Rt) (f t : ByteArray) (S : Option Rt) : Prop where
  good : ∀ r, S = some r → chkR r.f r.t r.n r.d = 0 ∧ r.f.size = 3 ∧ r.t.size = 3
  prog : ∀ w, RatesAt w A len xs → Calls Tryd.prog 54 #[.slice A len cap, .string f, .string t] w fun e w' => e = .returned (vP S) ∧ Below w.heap.size w w'
  ref : ∀ w, RatesAt w A len xs → Calls Tryd.prog 55 #[.slice A len cap, .string f, .string t] w fun e w' => e = .returned (vQ S) ∧ Below w.heap.size w w'
theorem st_of (A : Option Addr) (len cap : Nat) (xs : Nat → Rt) (f t : ByteArray) (hm : len ≤ 20) : ∃ S, St A len cap xs f t S := by
  rcases first_or (fun k => okR (xs k) f t) len with ⟨k, hk, hok, hno⟩ | hno
  · refine ⟨some (xs k), ?_, fun w hw => stated_hit A len cap xs f t w hm hw k hk hok hno, fun w hw => rstated_hit A len cap xs f t w hm hw k hk hok hno⟩
    intro r hr
    cases hr
    have := okR_chk hok
    exact ⟨this, sB_len (chk_zero this).1⟩
  · exact ⟨none, fun r hr => (by cases hr), fun w hw => stated_miss A len cap xs f t w hm hw hno, fun w hw => rstated_miss A len cap xs f t w hm hw hno⟩
theorem chk_rt0 : chkR ⟨#[]⟩ ⟨#[]⟩ 0 0 = 11 := by decide +kernel
theorem inv_rt0 (w : World) : Calls Tryd.prog 19 #[rt0] w fun e w' => e = .returned (.tuple #[rt0, .int .i64 11]) ∧ Below w.heap.size w w' :=
  inv_no ⟨#[]⟩ ⟨#[]⟩ 0 0 w (by decide) (by decide) 11 chk_rt0 (by decide)
section
variable {A : Option Addr} {len cap : Nat} {xs : Nat → Rt} {f t : ByteArray}
set_option maxHeartbeats 2000000 in
theorem dir40_a {f1 t1 : ByteArray} {n1 d1 : Int} (h1 : ∀ w, RatesAt w A len xs → Calls Tryd.prog 54 #[.slice A len cap, .string f, .string t] w fun e w' => e = .returned (rt f1 t1 n1 d1) ∧ Below w.heap.size w w') (k1 : f1.size = 3) (w : World) (hw : RatesAt w A len xs) :
    Calls Tryd.prog 40 #[.slice A len cap, .string f, .string t] w fun e w' => e = .returned (rt f1 t1 n1 d1) ∧ Below w.heap.size w w' := by
  have HP := Lib.hid h1
  have HW := Lib.hid hw
  have e1 := size3_nil k1
  unfold rt at *
  clear h1 hw k1
  go_enter Tryd.func40, Tryd.ntmps40
  go_wp2_with fail
  refine (HP.out _ (HW.out.call (al (Below.refl _ _)))).mono ?_
  rintro e w1 ⟨rfl, hb⟩
  obtain ⟨q1, o1, rfl⟩ := regrow_of hb
  clear hb
  go_wp2_with fail
  exact bodyPost_ret (v := .agg #[.string f1, .string t1, .int .i64 n1, .int .i64 d1]) (by simp [results, Tryd.results40, go_sem]) rfl ⟨rfl, al (bre (al (Below.refl _ _)) _ _)⟩
set_option maxHeartbeats 2000000 in
theorem dir40_b {f1 t1 : ByteArray} {n1 d1 : Int} {f2 t2 : ByteArray} {n2 d2 E : Int} (h1 : ∀ w, RatesAt w A len xs → Calls Tryd.prog 54 #[.slice A len cap, .string f, .string t] w fun e w' => e = .returned rt0 ∧ Below w.heap.size w w')
    (h2 : ∀ w, RatesAt w A len xs → Calls Tryd.prog 54 #[.slice A len cap, .string t, .string f] w fun e w' => e = .returned (rt f1 t1 n1 d1) ∧ Below w.heap.size w w')
    (h3 : ∀ w, Calls Tryd.prog 19 #[rt f1 t1 n1 d1] w fun e w' => e = .returned (.tuple #[rt f2 t2 n2 d2, .int .i64 E]) ∧ Below w.heap.size w w') (w : World) (hw : RatesAt w A len xs) :
    Calls Tryd.prog 40 #[.slice A len cap, .string f, .string t] w fun e w' => e = .returned (rt f2 t2 n2 d2) ∧ Below w.heap.size w w' := by
  have HP := Lib.hid h1
  have HQ := Lib.hid h2
  have HI := Lib.hid h3
  have HW := Lib.hid hw
  have e1 := nil_eq
  unfold rt0 rt at *
  clear h1 hw h2 h3
  go_enter Tryd.func40, Tryd.ntmps40
  go_wp2_with fail
  refine (HP.out _ (HW.out.call (al (Below.refl _ _)))).mono ?_
  rintro e w1 ⟨rfl, hb⟩
  obtain ⟨q1, o1, rfl⟩ := regrow_of hb
  clear hb
  go_wp2_with fail
  refine (HQ.out _ (HW.out.call (al (bre (al (Below.refl _ _)) _ _)))).mono ?_
  rintro e w1 ⟨rfl, hb⟩
  obtain ⟨q2, o2, rfl⟩ := regrow_of hb
  clear hb
  go_wp2_with fail
  refine (HI.out _).mono ?_
  rintro e w1 ⟨rfl, hb⟩
  obtain ⟨q3, o3, rfl⟩ := regrow_of hb
  clear hb
  go_wp2_with fail
  exact bodyPost_ret (v := .agg #[.string f2, .string t2, .int .i64 n2, .int .i64 d2]) (by simp [results, Tryd.results40, go_sem]) rfl ⟨rfl, al (bre (al (bre (al (Below.refl _ _)) _ _)) _ _)⟩
set_option maxHeartbeats 2000000 in
theorem dir41_a {f1 t1 : ByteArray} {n1 d1 : Int} (h1 : ∀ w, RatesAt w A len xs → Calls Tryd.prog 55 #[.slice A len cap, .string f, .string t] w fun e w' => e = .returned (.tuple #[rt f1 t1 n1 d1, .bool true]) ∧ Below w.heap.size w w') (w : World) (hw : RatesAt w A len xs) :
    Calls Tryd.prog 41 #[.slice A len cap, .string f, .string t] w fun e w' => e = .returned (.tuple #[rt f1 t1 n1 d1, .bool true]) ∧ Below w.heap.size w w' := by
  have HP := Lib.hid h1
  have HW := Lib.hid hw
  unfold rt at *
  clear h1 hw
  go_enter Tryd.func41, Tryd.ntmps41
  go_wp2_with fail
  refine (HP.out _ (HW.out.call (al (Below.refl _ _)))).mono ?_
  rintro e w1 ⟨rfl, hb⟩
  obtain ⟨q1, o1, rfl⟩ := regrow_of hb
  clear hb
  go_wp2_with fail
  exact bodyPost_ret (v := .tuple #[.agg #[.string f1, .string t1, .int .i64 n1, .int .i64 d1], .bool true]) (by simp [results, Tryd.results41, go_sem]) rfl ⟨rfl, al (bre (al (Below.refl _ _)) _ _)⟩
set_option maxHeartbeats 2000000 in
theorem dir41_b {f1 t1 : ByteArray} {n1 d1 : Int} {f2 t2 : ByteArray} {n2 d2 E : Int} (h1 : ∀ w, RatesAt w A len xs → Calls Tryd.prog 55 #[.slice A len cap, .string f, .string t] w fun e w' => e = .returned (.tuple #[rt0, .bool false]) ∧ Below w.heap.size w w')
    (h2 : ∀ w, RatesAt w A len xs → Calls Tryd.prog 55 #[.slice A len cap, .string t, .string f] w fun e w' => e = .returned (.tuple #[rt f1 t1 n1 d1, .bool true]) ∧ Below w.heap.size w w')
    (h3 : ∀ w, Calls Tryd.prog 20 #[rt f1 t1 n1 d1] w fun e w' => e = .returned (.tuple #[rt f2 t2 n2 d2, .int .i64 E]) ∧ Below w.heap.size w w') (w : World) (hw : RatesAt w A len xs) :
    Calls Tryd.prog 41 #[.slice A len cap, .string f, .string t] w fun e w' => e = .returned (.tuple #[rt f2 t2 n2 d2, .bool true]) ∧ Below w.heap.size w w' := by
  have HP := Lib.hid h1
  have HQ := Lib.hid h2
  have HI := Lib.hid h3
  have HW := Lib.hid hw
  unfold rt0 rt at *
  clear h1 hw h2 h3
  go_enter Tryd.func41, Tryd.ntmps41
  go_wp2_with fail
  refine (HP.out _ (HW.out.call (al (Below.refl _ _)))).mono ?_
  rintro e w1 ⟨rfl, hb⟩
  obtain ⟨q1, o1, rfl⟩ := regrow_of hb
  clear hb
  go_wp2_with fail
  refine (HQ.out _ (HW.out.call (al (bre (al (Below.refl _ _)) _ _)))).mono ?_
  rintro e w1 ⟨rfl, hb⟩
  obtain ⟨q2, o2, rfl⟩ := regrow_of hb
  clear hb
  go_wp2_with fail
  refine (HI.out _).mono ?_
  rintro e w1 ⟨rfl, hb⟩
  obtain ⟨q3, o3, rfl⟩ := regrow_of hb
  clear hb
  go_wp2_with fail
  exact bodyPost_ret (v := .tuple #[.agg #[.string f2, .string t2, .int .i64 n2, .int .i64 d2], .bool true]) (by simp [results, Tryd.results41, go_sem]) rfl ⟨rfl, al (bre (al (bre (al (bre (al (Below.refl _ _)) _ _)) _ _)) _ _)⟩
set_option maxHeartbeats 2000000 in
theorem dir41_c (h1 : ∀ w, RatesAt w A len xs → Calls Tryd.prog 55 #[.slice A len cap, .string f, .string t] w fun e w' => e = .returned (.tuple #[rt0, .bool false]) ∧ Below w.heap.size w w')
    (h2 : ∀ w, RatesAt w A len xs → Calls Tryd.prog 55 #[.slice A len cap, .string t, .string f] w fun e w' => e = .returned (.tuple #[rt0, .bool false]) ∧ Below w.heap.size w w') (w : World) (hw : RatesAt w A len xs) :
    Calls Tryd.prog 41 #[.slice A len cap, .string f, .string t] w fun e w' => e = .returned (.tuple #[rt0, .bool false]) ∧ Below w.heap.size w w' := by
  have HP := Lib.hid h1
  have HQ := Lib.hid h2
  have HW := Lib.hid hw
  unfold rt0 rt at *
  clear h1 hw h2
  go_enter Tryd.func41, Tryd.ntmps41
  go_wp2_with fail
  refine (HP.out _ (HW.out.call (al (Below.refl _ _)))).mono ?_
  rintro e w1 ⟨rfl, hb⟩
  obtain ⟨q1, o1, rfl⟩ := regrow_of hb
  clear hb
  go_wp2_with fail
  refine (HQ.out _ (HW.out.call (al (bre (al (Below.refl _ _)) _ _)))).mono ?_
  rintro e w1 ⟨rfl, hb⟩
  obtain ⟨q2, o2, rfl⟩ := regrow_of hb
  clear hb
  go_wp2_with fail
  exact bodyPost_ret (v := .tuple #[.agg #[.string ⟨#[]⟩, .string ⟨#[]⟩, .int .i64 0, .int .i64 0], .bool false]) (by simp [results, Tryd.results41, go_sem]) rfl ⟨rfl, al (bre (al (bre (al (Below.refl _ _)) _ _)) _ _)⟩
end
theorem dir_of (A : Option Addr) (len cap : Nat) (xs : Nat → Rt) (f t : ByteArray) (hm : len ≤ 20) : ∃ D, Dir A len cap xs f t D := by
  obtain ⟨S1, g1, p1, q1⟩ := st_of A len cap xs f t hm
  obtain ⟨S2, g2, p2, q2⟩ := st_of A len cap xs t f hm
  cases S1 with
  | some r =>
    obtain ⟨-, k1, k2⟩ := g1 r rfl
    exact ⟨some r, fun r' hr => (by cases hr; exact ⟨k1, k2⟩), dir40_a p1 k1, dir41_a q1⟩
  | none =>
    cases S2 with
    | some r =>
      obtain ⟨k0, k1, k2⟩ := g2 r rfl
      have l1 : r.f.size ≤ maxLen := by rw [k1]; decide
      have l2 : r.t.size ≤ maxLen := by rw [k2]; decide
      exact ⟨some ⟨r.t, r.f, redN r.d r.n, redD r.d r.n⟩, fun r' hr => (by cases hr; exact ⟨k2, k1⟩), dir40_b p1 p2 (fun w => inv_ok r.f r.t r.n r.d w l1 l2 k0), dir41_b q1 q2 (fun w => rinv_ok r.f r.t r.n r.d w l1 l2 k0)⟩
    | none => exact ⟨none, fun r' hr => (by cases hr), dir40_b p1 p2 inv_rt0, dir41_c q1 q2⟩
end Go.Proofs.YtpabgmdgoghahaaDoor
