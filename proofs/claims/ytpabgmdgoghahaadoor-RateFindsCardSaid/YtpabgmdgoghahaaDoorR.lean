/- Find of both. -/
import Derived.Test.YtpabgmdgoghahaaDoorQ
import Derived.Test.YtpabgmdgoghahaaDoorMakes
set_option linter.unusedVariables false
set_option linter.unusedSimpArgs false
namespace Go.Proofs.YtpabgmdgoghahaaDoor
open Go.Sort Go.ChangeShapes Go.WideShapes Go.ChangeAt Go.RowKit
@[go_sem] theorem lt_r1 (n a b c d : Nat) : (n < n + 1 + a + 1 + b + 1 + c + 1 + d) = True := by simp; omega
@[go_sem] theorem lt_r2 (n a b c d : Nat) : (n < n + 1 + a + 1 + b + 1 + c + 1) = True := by simp; omega
section
variable {A : Option Addr} {len cap : Nat} {xs : Nat → Rt} {f t p : ByteArray}
theorem find25_a (h : (f.toList == t.toList) = true) (w : World) :
    Calls Tryd.prog 25 #[.slice A len cap, .string f, .string t, .string p] w fun e w' => e = .returned (.tuple #[rt0, .int .i64 11]) ∧ Below w.heap.size w w' := by
  unfold rt0 rt
  go_enter Tryd.func25, Tryd.ntmps25
  go_wp2_with fail
  exact bodyPost_ret (v := .tuple #[.agg #[.string ⟨#[]⟩, .string ⟨#[]⟩, .int .i64 0, .int .i64 0], .int .i64 11]) (by simp [results, Tryd.results25, go_sem]) rfl ⟨rfl, al (Below.refl _ _)⟩
theorem find26_a (h : (f.toList == t.toList) = true) (w : World) :
    Calls Tryd.prog 26 #[.slice A len cap, .string f, .string t, .string p] w fun e w' => e = .returned (.tuple #[rt0, .int .i64 11]) ∧ Below w.heap.size w w' := by
  unfold rt0 rt
  go_enter Tryd.func26, Tryd.ntmps26
  go_wp2_with fail
  exact bodyPost_ret (v := .tuple #[.agg #[.string ⟨#[]⟩, .string ⟨#[]⟩, .int .i64 0, .int .i64 0], .int .i64 11]) (by simp [results, Tryd.results26, go_sem]) rfl ⟨rfl, al (Below.refl _ _)⟩
set_option maxHeartbeats 2000000 in
theorem find25_b {f1 t1 : ByteArray} {n1 d1 : Int} (hs : (f.toList == t.toList) = false) (h1 : ∀ w, RatesAt w A len xs → Calls Tryd.prog 40 #[.slice A len cap, .string f, .string t] w fun e w' => e = .returned (rt f1 t1 n1 d1) ∧ Below w.heap.size w w') (k1 : f1.size = 3) (w : World) (hw : RatesAt w A len xs) :
    Calls Tryd.prog 25 #[.slice A len cap, .string f, .string t, .string p] w fun e w' => e = .returned (.tuple #[rt f1 t1 n1 d1, .int .i64 0]) ∧ Below w.heap.size w w' := by
  have H1 := Lib.hid h1
  have HW := Lib.hid hw
  have e1 := size3_nil k1
  unfold rt at *
  clear h1 hw k1
  go_enter Tryd.func25, Tryd.ntmps25
  go_wp2_with fail
  refine (H1.out _ (HW.out.call (al (Below.refl _ _)))).mono ?_
  rintro e w1 ⟨rfl, hb⟩
  obtain ⟨q1, o1, rfl⟩ := regrow_of hb
  clear hb
  go_wp2_with fail
  exact bodyPost_ret (v := .tuple #[.agg #[.string f1, .string t1, .int .i64 n1, .int .i64 d1], .int .i64 0]) (by simp [results, Tryd.results25, go_sem]) rfl ⟨rfl, al (bre (al (Below.refl _ _)) _ _)⟩
set_option maxHeartbeats 2000000 in
theorem find26_b {f1 t1 : ByteArray} {n1 d1 : Int} (hs : (f.toList == t.toList) = false) (h1 : ∀ w, RatesAt w A len xs → Calls Tryd.prog 41 #[.slice A len cap, .string f, .string t] w fun e w' => e = .returned (.tuple #[rt f1 t1 n1 d1, .bool true]) ∧ Below w.heap.size w w') (w : World) (hw : RatesAt w A len xs) :
    Calls Tryd.prog 26 #[.slice A len cap, .string f, .string t, .string p] w fun e w' => e = .returned (.tuple #[rt f1 t1 n1 d1, .int .i64 0]) ∧ Below w.heap.size w w' := by
  have H1 := Lib.hid h1
  have HW := Lib.hid hw
  unfold rt at *
  clear h1 hw
  go_enter Tryd.func26, Tryd.ntmps26
  go_wp2_with fail
  refine (H1.out _ (HW.out.call (al (Below.refl _ _)))).mono ?_
  rintro e w1 ⟨rfl, hb⟩
  obtain ⟨q1, o1, rfl⟩ := regrow_of hb
  clear hb
  go_wp2_with fail
  exact bodyPost_ret (v := .tuple #[.agg #[.string f1, .string t1, .int .i64 n1, .int .i64 d1], .int .i64 0]) (by simp [results, Tryd.results26, go_sem]) rfl ⟨rfl, al (bre (al (Below.refl _ _)) _ _)⟩
set_option maxHeartbeats 2000000 in
theorem find25_c {f2 t2 : ByteArray} {n2 d2 : Int} (hs : (f.toList == t.toList) = false) (h1 : ∀ w, RatesAt w A len xs → Calls Tryd.prog 40 #[.slice A len cap, .string f, .string t] w fun e w' => e = .returned (rt0) ∧ Below w.heap.size w w') (h2 : ∀ w, RatesAt w A len xs → Calls Tryd.prog 40 #[.slice A len cap, .string f, .string p] w fun e w' => e = .returned (rt f2 t2 n2 d2) ∧ Below w.heap.size w w') (h3 : ∀ w, RatesAt w A len xs → Calls Tryd.prog 40 #[.slice A len cap, .string p, .string t] w fun e w' => e = .returned (rt0) ∧ Below w.heap.size w w') (k2 : f2.size = 3) (w : World) (hw : RatesAt w A len xs) :
    Calls Tryd.prog 25 #[.slice A len cap, .string f, .string t, .string p] w fun e w' => e = .returned (.tuple #[rt0, .int .i64 6]) ∧ Below w.heap.size w w' := by
  have H1 := Lib.hid h1
  have H2 := Lib.hid h2
  have H3 := Lib.hid h3
  have HW := Lib.hid hw
  have e2 := size3_nil k2
  unfold rt0 at *
  unfold rt at *
  clear h1 h2 h3 hw k2
  go_enter Tryd.func25, Tryd.ntmps25
  go_wp2_with fail
  refine (H1.out _ (HW.out.call (al (Below.refl _ _)))).mono ?_
  rintro e w1 ⟨rfl, hb⟩
  obtain ⟨q1, o1, rfl⟩ := regrow_of hb
  clear hb
  go_wp2_with fail
  refine (H2.out _ (HW.out.call (al (bre (al (Below.refl _ _)) _ _)))).mono ?_
  rintro e w1 ⟨rfl, hb⟩
  obtain ⟨q2, o2, rfl⟩ := regrow_of hb
  clear hb
  go_wp2_with fail
  refine (H3.out _ (HW.out.call (bre (al (bre (al (Below.refl _ _)) _ _)) _ _))).mono ?_
  rintro e w1 ⟨rfl, hb⟩
  obtain ⟨q3, o3, rfl⟩ := regrow_of hb
  clear hb
  go_wp2_with fail
  exact bodyPost_ret (v := .tuple #[.agg #[.string ⟨#[]⟩, .string ⟨#[]⟩, .int .i64 0, .int .i64 0], .int .i64 6]) (by simp [results, Tryd.results25, go_sem]) rfl ⟨rfl, al (al (bre (al (bre (al (Below.refl _ _)) _ _)) _ _))⟩
set_option maxHeartbeats 2000000 in
theorem find26_c {f2 t2 : ByteArray} {n2 d2 : Int} (hs : (f.toList == t.toList) = false) (h1 : ∀ w, RatesAt w A len xs → Calls Tryd.prog 41 #[.slice A len cap, .string f, .string t] w fun e w' => e = .returned (.tuple #[rt0, .bool false]) ∧ Below w.heap.size w w') (h2 : ∀ w, RatesAt w A len xs → Calls Tryd.prog 41 #[.slice A len cap, .string f, .string p] w fun e w' => e = .returned (.tuple #[rt f2 t2 n2 d2, .bool true]) ∧ Below w.heap.size w w') (h3 : ∀ w, RatesAt w A len xs → Calls Tryd.prog 41 #[.slice A len cap, .string p, .string t] w fun e w' => e = .returned (.tuple #[rt0, .bool false]) ∧ Below w.heap.size w w') (w : World) (hw : RatesAt w A len xs) :
    Calls Tryd.prog 26 #[.slice A len cap, .string f, .string t, .string p] w fun e w' => e = .returned (.tuple #[rt0, .int .i64 6]) ∧ Below w.heap.size w w' := by
  have H1 := Lib.hid h1
  have H2 := Lib.hid h2
  have H3 := Lib.hid h3
  have HW := Lib.hid hw
  unfold rt0 at *
  unfold rt at *
  clear h1 h2 h3 hw
  go_enter Tryd.func26, Tryd.ntmps26
  go_wp2_with fail
  refine (H1.out _ (HW.out.call (al (Below.refl _ _)))).mono ?_
  rintro e w1 ⟨rfl, hb⟩
  obtain ⟨q1, o1, rfl⟩ := regrow_of hb
  clear hb
  go_wp2_with fail
  refine (H2.out _ (HW.out.call (al (bre (al (Below.refl _ _)) _ _)))).mono ?_
  rintro e w1 ⟨rfl, hb⟩
  obtain ⟨q2, o2, rfl⟩ := regrow_of hb
  clear hb
  go_wp2_with fail
  refine (H3.out _ (HW.out.call (al (bre (al (bre (al (Below.refl _ _)) _ _)) _ _)))).mono ?_
  rintro e w1 ⟨rfl, hb⟩
  obtain ⟨q3, o3, rfl⟩ := regrow_of hb
  clear hb
  go_wp2_with fail
  exact bodyPost_ret (v := .tuple #[.agg #[.string ⟨#[]⟩, .string ⟨#[]⟩, .int .i64 0, .int .i64 0], .int .i64 6]) (by simp [results, Tryd.results26, go_sem]) rfl ⟨rfl, al (bre (al (bre (al (bre (al (Below.refl _ _)) _ _)) _ _)) _ _)⟩
set_option maxHeartbeats 2000000 in
theorem find25_d {f3 t3 : ByteArray} {n3 d3 : Int} (hs : (f.toList == t.toList) = false) (h1 : ∀ w, RatesAt w A len xs → Calls Tryd.prog 40 #[.slice A len cap, .string f, .string t] w fun e w' => e = .returned (rt0) ∧ Below w.heap.size w w') (h2 : ∀ w, RatesAt w A len xs → Calls Tryd.prog 40 #[.slice A len cap, .string f, .string p] w fun e w' => e = .returned (rt0) ∧ Below w.heap.size w w') (h3 : ∀ w, RatesAt w A len xs → Calls Tryd.prog 40 #[.slice A len cap, .string p, .string t] w fun e w' => e = .returned (rt f3 t3 n3 d3) ∧ Below w.heap.size w w') (k3 : f3.size = 3) (w : World) (hw : RatesAt w A len xs) :
    Calls Tryd.prog 25 #[.slice A len cap, .string f, .string t, .string p] w fun e w' => e = .returned (.tuple #[rt0, .int .i64 6]) ∧ Below w.heap.size w w' := by
  have H1 := Lib.hid h1
  have H2 := Lib.hid h2
  have H3 := Lib.hid h3
  have HW := Lib.hid hw
  have e3 := size3_nil k3
  unfold rt0 at *
  unfold rt at *
  clear h1 h2 h3 hw k3
  go_enter Tryd.func25, Tryd.ntmps25
  go_wp2_with fail
  refine (H1.out _ (HW.out.call (al (Below.refl _ _)))).mono ?_
  rintro e w1 ⟨rfl, hb⟩
  obtain ⟨q1, o1, rfl⟩ := regrow_of hb
  clear hb
  go_wp2_with fail
  refine (H2.out _ (HW.out.call (al (bre (al (Below.refl _ _)) _ _)))).mono ?_
  rintro e w1 ⟨rfl, hb⟩
  obtain ⟨q2, o2, rfl⟩ := regrow_of hb
  clear hb
  go_wp2_with fail
  refine (H3.out _ (HW.out.call (bre (al (bre (al (Below.refl _ _)) _ _)) _ _))).mono ?_
  rintro e w1 ⟨rfl, hb⟩
  obtain ⟨q3, o3, rfl⟩ := regrow_of hb
  clear hb
  go_wp2_with fail
  exact bodyPost_ret (v := .tuple #[.agg #[.string ⟨#[]⟩, .string ⟨#[]⟩, .int .i64 0, .int .i64 0], .int .i64 6]) (by simp [results, Tryd.results25, go_sem]) rfl ⟨rfl, al (al (bre (al (bre (al (Below.refl _ _)) _ _)) _ _))⟩
set_option maxHeartbeats 2000000 in
theorem find26_d {f3 t3 : ByteArray} {n3 d3 : Int} (hs : (f.toList == t.toList) = false) (h1 : ∀ w, RatesAt w A len xs → Calls Tryd.prog 41 #[.slice A len cap, .string f, .string t] w fun e w' => e = .returned (.tuple #[rt0, .bool false]) ∧ Below w.heap.size w w') (h2 : ∀ w, RatesAt w A len xs → Calls Tryd.prog 41 #[.slice A len cap, .string f, .string p] w fun e w' => e = .returned (.tuple #[rt0, .bool false]) ∧ Below w.heap.size w w') (h3 : ∀ w, RatesAt w A len xs → Calls Tryd.prog 41 #[.slice A len cap, .string p, .string t] w fun e w' => e = .returned (.tuple #[rt f3 t3 n3 d3, .bool true]) ∧ Below w.heap.size w w') (w : World) (hw : RatesAt w A len xs) :
    Calls Tryd.prog 26 #[.slice A len cap, .string f, .string t, .string p] w fun e w' => e = .returned (.tuple #[rt0, .int .i64 6]) ∧ Below w.heap.size w w' := by
  have H1 := Lib.hid h1
  have H2 := Lib.hid h2
  have H3 := Lib.hid h3
  have HW := Lib.hid hw
  unfold rt0 at *
  unfold rt at *
  clear h1 h2 h3 hw
  go_enter Tryd.func26, Tryd.ntmps26
  go_wp2_with fail
  refine (H1.out _ (HW.out.call (al (Below.refl _ _)))).mono ?_
  rintro e w1 ⟨rfl, hb⟩
  obtain ⟨q1, o1, rfl⟩ := regrow_of hb
  clear hb
  go_wp2_with fail
  refine (H2.out _ (HW.out.call (al (bre (al (Below.refl _ _)) _ _)))).mono ?_
  rintro e w1 ⟨rfl, hb⟩
  obtain ⟨q2, o2, rfl⟩ := regrow_of hb
  clear hb
  go_wp2_with fail
  refine (H3.out _ (HW.out.call (al (bre (al (bre (al (Below.refl _ _)) _ _)) _ _)))).mono ?_
  rintro e w1 ⟨rfl, hb⟩
  obtain ⟨q3, o3, rfl⟩ := regrow_of hb
  clear hb
  go_wp2_with fail
  exact bodyPost_ret (v := .tuple #[.agg #[.string ⟨#[]⟩, .string ⟨#[]⟩, .int .i64 0, .int .i64 0], .int .i64 6]) (by simp [results, Tryd.results26, go_sem]) rfl ⟨rfl, al (bre (al (bre (al (bre (al (Below.refl _ _)) _ _)) _ _)) _ _)⟩
set_option maxHeartbeats 2000000 in
theorem find25_e  (hs : (f.toList == t.toList) = false) (h1 : ∀ w, RatesAt w A len xs → Calls Tryd.prog 40 #[.slice A len cap, .string f, .string t] w fun e w' => e = .returned (rt0) ∧ Below w.heap.size w w') (h2 : ∀ w, RatesAt w A len xs → Calls Tryd.prog 40 #[.slice A len cap, .string f, .string p] w fun e w' => e = .returned (rt0) ∧ Below w.heap.size w w') (h3 : ∀ w, RatesAt w A len xs → Calls Tryd.prog 40 #[.slice A len cap, .string p, .string t] w fun e w' => e = .returned (rt0) ∧ Below w.heap.size w w') (w : World) (hw : RatesAt w A len xs) :
    Calls Tryd.prog 25 #[.slice A len cap, .string f, .string t, .string p] w fun e w' => e = .returned (.tuple #[rt0, .int .i64 6]) ∧ Below w.heap.size w w' := by
  have H1 := Lib.hid h1
  have H2 := Lib.hid h2
  have H3 := Lib.hid h3
  have HW := Lib.hid hw
  unfold rt0 at *
  unfold rt at *
  clear h1 h2 h3 hw
  go_enter Tryd.func25, Tryd.ntmps25
  go_wp2_with fail
  refine (H1.out _ (HW.out.call (al (Below.refl _ _)))).mono ?_
  rintro e w1 ⟨rfl, hb⟩
  obtain ⟨q1, o1, rfl⟩ := regrow_of hb
  clear hb
  go_wp2_with fail
  refine (H2.out _ (HW.out.call (al (bre (al (Below.refl _ _)) _ _)))).mono ?_
  rintro e w1 ⟨rfl, hb⟩
  obtain ⟨q2, o2, rfl⟩ := regrow_of hb
  clear hb
  go_wp2_with fail
  refine (H3.out _ (HW.out.call (bre (al (bre (al (Below.refl _ _)) _ _)) _ _))).mono ?_
  rintro e w1 ⟨rfl, hb⟩
  obtain ⟨q3, o3, rfl⟩ := regrow_of hb
  clear hb
  go_wp2_with fail
  exact bodyPost_ret (v := .tuple #[.agg #[.string ⟨#[]⟩, .string ⟨#[]⟩, .int .i64 0, .int .i64 0], .int .i64 6]) (by simp [results, Tryd.results25, go_sem]) rfl ⟨rfl, al (al (bre (al (bre (al (Below.refl _ _)) _ _)) _ _))⟩
set_option maxHeartbeats 2000000 in
theorem find26_e  (hs : (f.toList == t.toList) = false) (h1 : ∀ w, RatesAt w A len xs → Calls Tryd.prog 41 #[.slice A len cap, .string f, .string t] w fun e w' => e = .returned (.tuple #[rt0, .bool false]) ∧ Below w.heap.size w w') (h2 : ∀ w, RatesAt w A len xs → Calls Tryd.prog 41 #[.slice A len cap, .string f, .string p] w fun e w' => e = .returned (.tuple #[rt0, .bool false]) ∧ Below w.heap.size w w') (h3 : ∀ w, RatesAt w A len xs → Calls Tryd.prog 41 #[.slice A len cap, .string p, .string t] w fun e w' => e = .returned (.tuple #[rt0, .bool false]) ∧ Below w.heap.size w w') (w : World) (hw : RatesAt w A len xs) :
    Calls Tryd.prog 26 #[.slice A len cap, .string f, .string t, .string p] w fun e w' => e = .returned (.tuple #[rt0, .int .i64 6]) ∧ Below w.heap.size w w' := by
  have H1 := Lib.hid h1
  have H2 := Lib.hid h2
  have H3 := Lib.hid h3
  have HW := Lib.hid hw
  unfold rt0 at *
  unfold rt at *
  clear h1 h2 h3 hw
  go_enter Tryd.func26, Tryd.ntmps26
  go_wp2_with fail
  refine (H1.out _ (HW.out.call (al (Below.refl _ _)))).mono ?_
  rintro e w1 ⟨rfl, hb⟩
  obtain ⟨q1, o1, rfl⟩ := regrow_of hb
  clear hb
  go_wp2_with fail
  refine (H2.out _ (HW.out.call (al (bre (al (Below.refl _ _)) _ _)))).mono ?_
  rintro e w1 ⟨rfl, hb⟩
  obtain ⟨q2, o2, rfl⟩ := regrow_of hb
  clear hb
  go_wp2_with fail
  refine (H3.out _ (HW.out.call (al (bre (al (bre (al (Below.refl _ _)) _ _)) _ _)))).mono ?_
  rintro e w1 ⟨rfl, hb⟩
  obtain ⟨q3, o3, rfl⟩ := regrow_of hb
  clear hb
  go_wp2_with fail
  exact bodyPost_ret (v := .tuple #[.agg #[.string ⟨#[]⟩, .string ⟨#[]⟩, .int .i64 0, .int .i64 0], .int .i64 6]) (by simp [results, Tryd.results26, go_sem]) rfl ⟨rfl, al (bre (al (bre (al (bre (al (Below.refl _ _)) _ _)) _ _)) _ _)⟩
set_option maxHeartbeats 2000000 in
theorem find25_f {f2 t2 : ByteArray} {n2 d2 : Int} {f3 t3 : ByteArray} {n3 d3 : Int} {f4 t4 : ByteArray} {n4 d4 : Int} {E : Int} (hs : (f.toList == t.toList) = false) (h1 : ∀ w, RatesAt w A len xs → Calls Tryd.prog 40 #[.slice A len cap, .string f, .string t] w fun e w' => e = .returned (rt0) ∧ Below w.heap.size w w') (h2 : ∀ w, RatesAt w A len xs → Calls Tryd.prog 40 #[.slice A len cap, .string f, .string p] w fun e w' => e = .returned (rt f2 t2 n2 d2) ∧ Below w.heap.size w w') (h3 : ∀ w, RatesAt w A len xs → Calls Tryd.prog 40 #[.slice A len cap, .string p, .string t] w fun e w' => e = .returned (rt f3 t3 n3 d3) ∧ Below w.heap.size w w') (k2 : f2.size = 3) (k3 : f3.size = 3)
    (h4 : ∀ w, Calls Tryd.prog 21 #[rt f2 t2 n2 d2, rt f3 t3 n3 d3] w fun e w' => e = .returned (.tuple #[rt f4 t4 n4 d4, .int .i64 E]) ∧ Below w.heap.size w w') (w : World) (hw : RatesAt w A len xs) :
    Calls Tryd.prog 25 #[.slice A len cap, .string f, .string t, .string p] w fun e w' => e = .returned (.tuple #[rt f4 t4 n4 d4, .int .i64 E]) ∧ Below w.heap.size w w' := by
  have H1 := Lib.hid h1
  have H2 := Lib.hid h2
  have H3 := Lib.hid h3
  have H4 := Lib.hid h4
  have HW := Lib.hid hw
  have e2 := size3_nil k2
  have e3 := size3_nil k3
  unfold rt0 at *
  unfold rt at *
  clear h1 h2 h3 h4 hw k2 k3
  go_enter Tryd.func25, Tryd.ntmps25
  go_wp2_with fail
  refine (H1.out _ (HW.out.call (al (Below.refl _ _)))).mono ?_
  rintro e w1 ⟨rfl, hb⟩
  obtain ⟨q1, o1, rfl⟩ := regrow_of hb
  clear hb
  go_wp2_with fail
  refine (H2.out _ (HW.out.call (al (bre (al (Below.refl _ _)) _ _)))).mono ?_
  rintro e w1 ⟨rfl, hb⟩
  obtain ⟨q2, o2, rfl⟩ := regrow_of hb
  clear hb
  go_wp2_with fail
  refine (H3.out _ (HW.out.call (bre (al (bre (al (Below.refl _ _)) _ _)) _ _))).mono ?_
  rintro e w1 ⟨rfl, hb⟩
  obtain ⟨q3, o3, rfl⟩ := regrow_of hb
  clear hb
  go_wp2_with fail
  refine (H4.out _).mono ?_
  rintro e w1 ⟨rfl, hb⟩
  obtain ⟨q4, o4, rfl⟩ := regrow_of hb
  clear hb
  go_wp2_with fail
  exact bodyPost_ret (v := .tuple #[.agg #[.string f4, .string t4, .int .i64 n4, .int .i64 d4], .int .i64 E]) (by simp [results, Tryd.results25, go_sem]) rfl ⟨rfl, bre (al (al (bre (al (bre (al (Below.refl _ _)) _ _)) _ _))) _ _⟩
set_option maxHeartbeats 2000000 in
theorem find26_f {f2 t2 : ByteArray} {n2 d2 : Int} {f3 t3 : ByteArray} {n3 d3 : Int} {f4 t4 : ByteArray} {n4 d4 : Int} {E : Int} (hs : (f.toList == t.toList) = false) (h1 : ∀ w, RatesAt w A len xs → Calls Tryd.prog 41 #[.slice A len cap, .string f, .string t] w fun e w' => e = .returned (.tuple #[rt0, .bool false]) ∧ Below w.heap.size w w') (h2 : ∀ w, RatesAt w A len xs → Calls Tryd.prog 41 #[.slice A len cap, .string f, .string p] w fun e w' => e = .returned (.tuple #[rt f2 t2 n2 d2, .bool true]) ∧ Below w.heap.size w w') (h3 : ∀ w, RatesAt w A len xs → Calls Tryd.prog 41 #[.slice A len cap, .string p, .string t] w fun e w' => e = .returned (.tuple #[rt f3 t3 n3 d3, .bool true]) ∧ Below w.heap.size w w')
    (h4 : ∀ w, Calls Tryd.prog 22 #[rt f2 t2 n2 d2, rt f3 t3 n3 d3] w fun e w' => e = .returned (.tuple #[rt f4 t4 n4 d4, .int .i64 E]) ∧ Below w.heap.size w w') (w : World) (hw : RatesAt w A len xs) :
    Calls Tryd.prog 26 #[.slice A len cap, .string f, .string t, .string p] w fun e w' => e = .returned (.tuple #[rt f4 t4 n4 d4, .int .i64 E]) ∧ Below w.heap.size w w' := by
  have H1 := Lib.hid h1
  have H2 := Lib.hid h2
  have H3 := Lib.hid h3
  have H4 := Lib.hid h4
  have HW := Lib.hid hw
  unfold rt0 at *
  unfold rt at *
  clear h1 h2 h3 h4 hw
  go_enter Tryd.func26, Tryd.ntmps26
  go_wp2_with fail
  refine (H1.out _ (HW.out.call (al (Below.refl _ _)))).mono ?_
  rintro e w1 ⟨rfl, hb⟩
  obtain ⟨q1, o1, rfl⟩ := regrow_of hb
  clear hb
  go_wp2_with fail
  refine (H2.out _ (HW.out.call (al (bre (al (Below.refl _ _)) _ _)))).mono ?_
  rintro e w1 ⟨rfl, hb⟩
  obtain ⟨q2, o2, rfl⟩ := regrow_of hb
  clear hb
  go_wp2_with fail
  refine (H3.out _ (HW.out.call (al (bre (al (bre (al (Below.refl _ _)) _ _)) _ _)))).mono ?_
  rintro e w1 ⟨rfl, hb⟩
  obtain ⟨q3, o3, rfl⟩ := regrow_of hb
  clear hb
  go_wp2_with fail
  refine (H4.out _).mono ?_
  rintro e w1 ⟨rfl, hb⟩
  obtain ⟨q4, o4, rfl⟩ := regrow_of hb
  clear hb
  go_wp2_with fail
  exact bodyPost_ret (v := .tuple #[.agg #[.string f4, .string t4, .int .i64 n4, .int .i64 d4], .int .i64 E]) (by simp [results, Tryd.results26, go_sem]) rfl ⟨rfl, bre (al (bre (al (bre (al (bre (al (Below.refl _ _)) _ _)) _ _)) _ _)) _ _⟩
end
/-- both find the same -/
theorem find_both (A : Option Addr) (len cap : Nat) (xs : Nat → Rt) (f t p : ByteArray) (hm : len ≤ 20) : ∃ (f0 t0 : ByteArray) (n0 d0 E : Int),
    (∀ w, RatesAt w A len xs → Calls Tryd.prog 25 #[.slice A len cap, .string f, .string t, .string p] w fun e w' => e = .returned (.tuple #[rt f0 t0 n0 d0, .int .i64 E]) ∧ Below w.heap.size w w') ∧
    (∀ w, RatesAt w A len xs → Calls Tryd.prog 26 #[.slice A len cap, .string f, .string t, .string p] w fun e w' => e = .returned (.tuple #[rt f0 t0 n0 d0, .int .i64 E]) ∧ Below w.heap.size w w') := by
  cases hs : (f.toList == t.toList)
  · obtain ⟨D1, g1, p1, q1⟩ := dir_of A len cap xs f t hm
    obtain ⟨D2, g2, p2, q2⟩ := dir_of A len cap xs f p hm
    obtain ⟨D3, g3, p3, q3⟩ := dir_of A len cap xs p t hm
    cases D1 with
    | some r1 => exact ⟨_, _, _, _, _, find25_b hs p1 (g1 r1 rfl).1, find26_b hs q1⟩
    | none =>
      cases D2 with
      | none =>
        cases D3 with
        | none => exact ⟨_, _, _, _, _, find25_e hs p1 p2 p3, find26_e hs q1 q2 q3⟩
        | some r3 => exact ⟨_, _, _, _, _, find25_d hs p1 p2 p3 (g3 r3 rfl).1, find26_d hs q1 q2 q3⟩
      | some r2 =>
        cases D3 with
        | none => exact ⟨_, _, _, _, _, find25_c hs p1 p2 p3 (g2 r2 rfl).1, find26_c hs q1 q2 q3⟩
        | some r3 =>
          have l : ∀ s : ByteArray, s.size = 3 → s.size ≤ maxLen := fun s h => by rw [h]; decide
          obtain ⟨f0, t0, n0, d0, E, c1, c2⟩ := rateMakes.cross_both r2.f r2.t r3.f r3.t r2.n r2.d r3.n r3.d (l _ (g2 r2 rfl).1) (l _ (g2 r2 rfl).2) (l _ (g3 r3 rfl).1) (l _ (g3 r3 rfl).2)
          exact ⟨f0, t0, n0, d0, E, find25_f hs p1 p2 p3 (g2 r2 rfl).1 (g3 r3 rfl).1 c1, find26_f hs q1 q2 q3 c2⟩
  · exact ⟨_, _, _, _, _, fun w _ => find25_a hs w, fun w _ => find26_a hs w⟩
end Go.Proofs.YtpabgmdgoghahaaDoor
