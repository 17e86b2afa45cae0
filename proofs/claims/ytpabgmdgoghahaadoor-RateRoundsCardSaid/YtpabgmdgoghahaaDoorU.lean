/- Convert: the walks. -/
import Derived.Test.YtpabgmdgoghahaaDoorT
set_option linter.unusedVariables false
set_option linter.unusedSimpArgs false
namespace Go.Proofs.YtpabgmdgoghahaaDoor
open Go.Sort Go.ChangeShapes Go.WideShapes Go.ChangeAt Go.RowKit
/-- no money -/
def mo0 : Value := mo 0 ⟨#[]⟩
theorem conv_1 (a : Int) (c f t : ByteArray) (n d mode : Int) (w : World) (hc : c.size ≤ maxLen) (h : curL c.data.toList = false) :
    Calls Tryd.prog 17 #[mo a c, rt f t n d, .int .i64 mode] w fun e w' => e = .returned (.tuple #[mo0, .int .i64 11]) ∧ Below w.heap.size w w' := by
  have HC := Lib.hid (mcheck_no a c hc h)
  unfold mo0 mo rt at *
  clear hc h
  go_enter Tryd.func17, Tryd.ntmps17
  go_wp2_with fail
  refine (HC.out _).mono ?_
  rintro e w1 ⟨rfl, hb⟩
  obtain ⟨d1, o1, rfl⟩ := regrow_of hb
  clear hb
  go_wp2_with fail
  exact bodyPost_ret (v := .tuple #[.agg #[.int .i64 0, .string ⟨#[]⟩], .int .i64 11]) (by simp [results, Tryd.results17, go_sem]) rfl ⟨rfl, bre (al (al (al (Below.refl _ _)))) _ _⟩
theorem conv_2 (a : Int) (c f t : ByteArray) (n d mode : Int) (w : World) (hc : c.size ≤ maxLen) (hf : f.size ≤ maxLen) (ht : t.size ≤ maxLen) (h : curL c.data.toList = true) (a0 : -4503599627370496 ≤ a) (a1 : a ≤ 4503599627370496) (E : Int) (he : chkR f t n d = E) (hE : E ≠ 0) :
    Calls Tryd.prog 17 #[mo a c, rt f t n d, .int .i64 mode] w fun e w' => e = .returned (.tuple #[mo0, .int .i64 E]) ∧ Below w.heap.size w w' := by
  have HC := Lib.hid (mcheck_ok a c hc h a0 a1)
  have hr := fun w => check_any f t n d w hf ht
  rw [he] at hr
  have HR := Lib.hid hr
  have hE' : (E != 0) = true := by rw [bne_iff_ne]; exact hE
  unfold mo0 mo rt at *
  clear hc h hr he hE
  go_enter Tryd.func17, Tryd.ntmps17
  go_wp2_with fail
  refine (HC.out _).mono ?_
  rintro e w1 ⟨rfl, hb⟩
  obtain ⟨d1, o1, rfl⟩ := regrow_of hb
  clear hb
  go_wp2_with fail
  refine (HR.out _).mono ?_
  rintro e w1 ⟨rfl, hb⟩
  obtain ⟨d2, o2, rfl⟩ := regrow_of hb
  clear hb
  go_wp2_with fail
  exact bodyPost_ret (v := .tuple #[.agg #[.int .i64 0, .string ⟨#[]⟩], .int .i64 E]) (by simp [results, Tryd.results17, go_sem]) rfl ⟨rfl, bre (al (al (al (Below.refl _ _)))) _ _⟩
theorem conv_3 (a : Int) (c f t : ByteArray) (n d mode : Int) (w : World) (hc : c.size ≤ maxLen) (hf : f.size ≤ maxLen) (ht : t.size ≤ maxLen) (h : curL c.data.toList = true) (a0 : -4503599627370496 ≤ a) (a1 : a ≤ 4503599627370496) (he : chkR f t n d = 0) (hs : (c.toList == f.toList) = false) :
    Calls Tryd.prog 17 #[mo a c, rt f t n d, .int .i64 mode] w fun e w' => e = .returned (.tuple #[mo0, .int .i64 11]) ∧ Below w.heap.size w w' := by
  have HC := Lib.hid (mcheck_ok a c hc h a0 a1)
  have hr := fun w => check_any f t n d w hf ht
  rw [he] at hr
  have HR := Lib.hid hr
  unfold mo0 mo rt at *
  clear hc h hr he
  go_enter Tryd.func17, Tryd.ntmps17
  go_wp2_with fail
  refine (HC.out _).mono ?_
  rintro e w1 ⟨rfl, hb⟩
  obtain ⟨d1, o1, rfl⟩ := regrow_of hb
  clear hb
  go_wp2_with fail
  refine (HR.out _).mono ?_
  rintro e w1 ⟨rfl, hb⟩
  obtain ⟨d2, o2, rfl⟩ := regrow_of hb
  clear hb
  go_wp2_with fail
  exact bodyPost_ret (v := .tuple #[.agg #[.int .i64 0, .string ⟨#[]⟩], .int .i64 11]) (by simp [results, Tryd.results17, go_sem]) rfl ⟨rfl, bre (al (al (al (Below.refl _ _)))) _ _⟩
theorem conv_4 (a : Int) (c f t : ByteArray) (n d mode : Int) (w : World) (hc : c.size ≤ maxLen) (hf : f.size ≤ maxLen) (ht : t.size ≤ maxLen) (h : curL c.data.toList = true) (a0 : -4503599627370496 ≤ a) (a1 : a ≤ 4503599627370496) (he : chkR f t n d = 0) (hs : (c.toList == f.toList) = true)
    (hm : mode < 1 ∨ 4 < mode) :
    Calls Tryd.prog 17 #[mo a c, rt f t n d, .int .i64 mode] w fun e w' => e = .returned (.tuple #[mo0, .int .i64 4]) ∧ Below w.heap.size w w' := by
  obtain ⟨-, hn, hd⟩ := chk_zero he
  have HC := Lib.hid (mcheck_ok a c hc h a0 a1)
  have HS : Hid (∀ w, _) := Lib.hid (fun w => scale_mode a c n d mode w hc h a0 a1 hn.1 hn.2 hd.1 hd.2 hm)
  have hr := fun w => check_any f t n d w hf ht
  rw [he] at hr
  have HR := Lib.hid hr
  unfold mo0 mo rt at *
  clear hc h hr he hn hd hm
  go_enter Tryd.func17, Tryd.ntmps17
  go_wp2_with fail
  refine (HC.out _).mono ?_
  rintro e w1 ⟨rfl, hb⟩
  obtain ⟨d1, o1, rfl⟩ := regrow_of hb
  clear hb
  go_wp2_with fail
  refine (HR.out _).mono ?_
  rintro e w1 ⟨rfl, hb⟩
  obtain ⟨d2, o2, rfl⟩ := regrow_of hb
  clear hb
  go_wp2_with fail
  refine (HS.out _).mono ?_
  rintro e w1 ⟨rfl, hb⟩
  obtain ⟨d3, o3, rfl⟩ := regrow_of hb
  clear hb
  go_wp2_with fail
  exact bodyPost_ret (v := .tuple #[.agg #[.int .i64 0, .string ⟨#[]⟩], .int .i64 4]) (by simp [results, Tryd.results17, go_sem]) rfl ⟨rfl, al (bre (al (al (al (Below.refl _ _)))) _ _)⟩
theorem conv_5 (a : Int) (c f t : ByteArray) (n d mode Q : Int) (w : World) (hc : c.size ≤ maxLen) (hf : f.size ≤ maxLen) (ht : t.size ≤ maxLen) (h : curL c.data.toList = true) (a0 : -4503599627370496 ≤ a) (a1 : a ≤ 4503599627370496) (he : chkR f t n d = 0) (hs : (c.toList == f.toList) = true)
    (hsc : ∀ w, Calls Tryd.prog 35 #[mo a c, .int .i64 n, .int .i64 d, .int .i64 mode] w fun e w' => e = .returned (.tuple #[mo Q c, .int .i64 0]) ∧ Below w.heap.size w w') :
    Calls Tryd.prog 17 #[mo a c, rt f t n d, .int .i64 mode] w fun e w' => e = .returned (.tuple #[mo Q t, .int .i64 0]) ∧ Below w.heap.size w w' := by
  have HC := Lib.hid (mcheck_ok a c hc h a0 a1)
  have HS := Lib.hid hsc
  have hr := fun w => check_any f t n d w hf ht
  rw [he] at hr
  have HR := Lib.hid hr
  unfold mo rt at *
  clear hc h hr he hsc
  go_enter Tryd.func17, Tryd.ntmps17
  go_wp2_with fail
  refine (HC.out _).mono ?_
  rintro e w1 ⟨rfl, hb⟩
  obtain ⟨d1, o1, rfl⟩ := regrow_of hb
  clear hb
  go_wp2_with fail
  refine (HR.out _).mono ?_
  rintro e w1 ⟨rfl, hb⟩
  obtain ⟨d2, o2, rfl⟩ := regrow_of hb
  clear hb
  go_wp2_with fail
  refine (HS.out _).mono ?_
  rintro e w1 ⟨rfl, hb⟩
  obtain ⟨d3, o3, rfl⟩ := regrow_of hb
  clear hb
  go_wp2_with fail
  exact bodyPost_ret (v := .tuple #[.agg #[.int .i64 Q, .string t], .int .i64 0]) (by simp [results, Tryd.results17, go_sem]) rfl ⟨rfl, al (bre (al (al (al (Below.refl _ _)))) _ _)⟩
end Go.Proofs.YtpabgmdgoghahaaDoor
