/- Convert of both, at any amount, rate and mode. -/
import Derived.Test.YtpabgmdgoghahaaDoorDj
set_option linter.unusedVariables false
set_option linter.unusedSimpArgs false
namespace Go.Proofs.YtpabgmdgoghahaaDoor.div
open Go.Sort Go.ChangeShapes Go.WideShapes Go.ChangeAt Go.RowKit
theorem mcheck_far (a : Int) (c : ByteArray) (hc : c.size ≤ maxLen) (h : curL c.data.toList = true) (h0 : a < -4503599627370496 ∨ 4503599627370496 < a) (w : World) :
    Calls Tryd.prog 34 #[mo a c] w fun e w' => e = .returned (.int .i64 4) ∧ Below w.heap.size w w' := by
  have HC := Lib.hid (cur_yes c hc h)
  unfold mo
  clear hc h
  by_cases g : a < -4503599627370496
  · clear h0
    go_enter Tryd.func34, Tryd.ntmps34
    go_wp2_with fail
    refine (HC.out _).mono ?_
    rintro e w1 ⟨rfl, rfl⟩
    go_wp2_with fail
    go_ret
    exact ⟨rfl, al (Below.refl _ _)⟩
  · have g1 : 4503599627370496 < a := by omega
    have g2 : -4503599627370496 ≤ a := by omega
    clear h0
    go_enter Tryd.func34, Tryd.ntmps34
    go_wp2_with fail
    refine (HC.out _).mono ?_
    rintro e w1 ⟨rfl, rfl⟩
    go_wp2_with fail
    go_ret
    exact ⟨rfl, al (Below.refl _ _)⟩
theorem rmcheck_far (a : Int) (c : ByteArray) (hc : c.size ≤ maxLen) (h : curL c.data.toList = true) (h0 : a < -4503599627370496 ∨ 4503599627370496 < a) (w : World) :
    Calls Tryd.prog 36 #[mo a c] w fun e w' => e = .returned (.int .i64 4) ∧ Below w.heap.size w w' := by
  have := rmcheck_any a c hc w
  rw [show mchk a c = 4 from by unfold mchk; rw [if_neg (by rw [h]; decide), if_neg (by omega)]] at this
  exact this
theorem cconv_0 (a : Int) (c f t : ByteArray) (n d mode : Int) (w : World) (hc : c.size ≤ maxLen) (h : curL c.data.toList = true) (h0 : a < -4503599627370496 ∨ 4503599627370496 < a) :
    Calls Tryd.prog 17 #[mo a c, rt f t n d, .int .i64 mode] w fun e w' => e = .returned (.tuple #[mo0, .int .i64 4]) ∧ Below w.heap.size w w' := by
  have HC := Lib.hid (mcheck_far a c hc h h0)
  unfold mo0 mo rt at *
  clear hc h h0
  go_enter Tryd.func17, Tryd.ntmps17
  go_wp2_with fail
  refine (HC.out _).mono ?_
  rintro e w1 ⟨rfl, hb⟩
  obtain ⟨d1, o1, rfl⟩ := regrow_of hb
  clear hb
  go_wp2_with fail
  exact bodyPost_ret (v := .tuple #[.agg #[.int .i64 0, .string ⟨#[]⟩], .int .i64 4]) (by simp [results, Tryd.results17, go_sem]) rfl ⟨rfl, bre (al (al (al (Below.refl _ _)))) _ _⟩
theorem cconv_e (a : Int) (c f t : ByteArray) (n d mode : Int) (w : World) (hc : c.size ≤ maxLen) (hf : f.size ≤ maxLen) (ht : t.size ≤ maxLen) (h : curL c.data.toList = true) (a0 : -4503599627370496 ≤ a) (a1 : a ≤ 4503599627370496) (he : chkR f t n d = 0) (hs : (c.toList == f.toList) = true)
    (hsc : ∀ w, Calls Tryd.prog 35 #[mo a c, .int .i64 n, .int .i64 d, .int .i64 mode] w fun e w' => e = .returned (.tuple #[mo0, .int .i64 4]) ∧ Below w.heap.size w w') :
    Calls Tryd.prog 17 #[mo a c, rt f t n d, .int .i64 mode] w fun e w' => e = .returned (.tuple #[mo0, .int .i64 4]) ∧ Below w.heap.size w w' := by
  have HC := Lib.hid (mcheck_ok a c hc h a0 a1)
  have HS := Lib.hid hsc
  have hr := fun w => check_any f t n d w hf ht
  rw [he] at hr
  have HR := Lib.hid hr
  unfold mo0 mo rt at *
  clear hc h hr he hsc
  go_enter Tryd.func17, Tryd.ntmps17
  go_wp2_with fail
  refine (HC.out _).mono ?_
  rintro e w1 ⟨rfl, hb⟩
  obtain ⟨d1, o1, rfl⟩ := regrow_of hb
  clear hb
  go_wp2_with fail
  refine (HR.out _).mono ?_
  rintro e w1 ⟨rfl, hb⟩
  obtain ⟨d2, o2, rfl⟩ := regrow_of hb
  clear hb
  go_wp2_with fail
  refine (HS.out _).mono ?_
  rintro e w1 ⟨rfl, hb⟩
  obtain ⟨d3, o3, rfl⟩ := regrow_of hb
  clear hb
  go_wp2_with fail
  exact bodyPost_ret (v := .tuple #[.agg #[.int .i64 0, .string ⟨#[]⟩], .int .i64 4]) (by simp [results, Tryd.results17, go_sem]) rfl ⟨rfl, al (bre (al (al (al (Below.refl _ _)))) _ _)⟩
theorem rconv_0 (a : Int) (c f t : ByteArray) (n d mode : Int) (w : World) (hc : c.size ≤ maxLen) (h : curL c.data.toList = true) (h0 : a < -4503599627370496 ∨ 4503599627370496 < a) :
    Calls Tryd.prog 18 #[mo a c, rt f t n d, .int .i64 mode] w fun e w' => e = .returned (.tuple #[mo0, .int .i64 4]) ∧ Below w.heap.size w w' := by
  have HC := Lib.hid (rmcheck_far a c hc h h0)
  unfold mo0 mo rt at *
  clear hc h h0
  go_enter Tryd.func18, Tryd.ntmps18
  go_wp2_with fail
  refine (HC.out _).mono ?_
  rintro e w1 ⟨rfl, hb⟩
  obtain ⟨d1, o1, rfl⟩ := regrow_of hb
  clear hb
  go_wp2_with fail
  exact bodyPost_ret (v := .tuple #[.agg #[.int .i64 0, .string ⟨#[]⟩], .int .i64 4]) (by simp [results, Tryd.results18, go_sem]) rfl ⟨rfl, bre (al (al (al (Below.refl _ _)))) _ _⟩
theorem rconv_e (a : Int) (c f t : ByteArray) (n d mode : Int) (w : World) (hc : c.size ≤ maxLen) (hf : f.size ≤ maxLen) (ht : t.size ≤ maxLen) (h : curL c.data.toList = true) (a0 : -4503599627370496 ≤ a) (a1 : a ≤ 4503599627370496) (he : chkR f t n d = 0) (hs : (c.toList == f.toList) = true)
    (hsc : ∀ w, Calls Tryd.prog 37 #[mo a c, .int .i64 n, .int .i64 d, .int .i64 mode] w fun e w' => e = .returned (.tuple #[mo0, .int .i64 4]) ∧ Below w.heap.size w w') :
    Calls Tryd.prog 18 #[mo a c, rt f t n d, .int .i64 mode] w fun e w' => e = .returned (.tuple #[mo0, .int .i64 4]) ∧ Below w.heap.size w w' := by
  have HC := Lib.hid (rmcheck_ok a c hc h a0 a1)
  have HS := Lib.hid hsc
  have hr := fun w => rcheck_any f t n d w hf ht
  rw [he] at hr
  have HR := Lib.hid hr
  unfold mo0 mo rt at *
  clear hc h hr he hsc
  go_enter Tryd.func18, Tryd.ntmps18
  go_wp2_with fail
  refine (HC.out _).mono ?_
  rintro e w1 ⟨rfl, hb⟩
  obtain ⟨d1, o1, rfl⟩ := regrow_of hb
  clear hb
  go_wp2_with fail
  refine (HR.out _).mono ?_
  rintro e w1 ⟨rfl, hb⟩
  obtain ⟨d2, o2, rfl⟩ := regrow_of hb
  clear hb
  go_wp2_with fail
  refine (HS.out _).mono ?_
  rintro e w1 ⟨rfl, hb⟩
  obtain ⟨d3, o3, rfl⟩ := regrow_of hb
  clear hb
  go_wp2_with fail
  exact bodyPost_ret (v := .tuple #[.agg #[.int .i64 0, .string ⟨#[]⟩], .int .i64 4]) (by simp [results, Tryd.results18, go_sem]) rfl ⟨rfl, al (bre (al (al (al (Below.refl _ _)))) _ _)⟩
/-- both give the same money and the same word -/
theorem conv_both (a : Int) (c f t : ByteArray) (n d mode : Int) (hc : c.size ≤ maxLen) (hf : f.size ≤ maxLen) (ht : t.size ≤ maxLen) : ∃ (x : Int) (s : ByteArray) (E : Int),
    (∀ w, Calls Tryd.prog 17 #[mo a c, rt f t n d, .int .i64 mode] w fun e w' => e = .returned (.tuple #[mo x s, .int .i64 E]) ∧ Below w.heap.size w w') ∧
    (∀ w, Calls Tryd.prog 18 #[mo a c, rt f t n d, .int .i64 mode] w fun e w' => e = .returned (.tuple #[mo x s, .int .i64 E]) ∧ Below w.heap.size w w') := by
  cases h : curL c.data.toList
  · exact ⟨_, _, _, fun w => conv_1 a c f t n d mode w hc h, fun w => rconv_1 a c f t n d mode w hc h⟩
  · by_cases hr : -4503599627370496 ≤ a ∧ a ≤ 4503599627370496
    · obtain ⟨a0, a1⟩ := hr
      by_cases he : chkR f t n d = 0
      · cases hs : (c.toList == f.toList)
        · exact ⟨_, _, _, fun w => conv_3 a c f t n d mode w hc hf ht h a0 a1 he hs, fun w => rconv_3 a c f t n d mode w hc hf ht h a0 a1 he hs⟩
        · by_cases hm : mode < 1 ∨ 4 < mode
          · exact ⟨_, _, _, fun w => conv_4 a c f t n d mode w hc hf ht h a0 a1 he hs hm, fun w => rconv_4 a c f t n d mode w hc hf ht h a0 a1 he hs hm⟩
          · obtain ⟨-, hn, hd⟩ := chk_zero he
            obtain ⟨K, rfl⟩ : ∃ K : Nat, n = K := ⟨n.toNat, by omega⟩
            obtain ⟨L, rfl⟩ : ∃ L : Nat, d = L := ⟨d.toNat, by omega⟩
            have s1 := fun w => scale_full a c K L mode w hc h a0 a1 (by omega) (by omega) (by omega) (by omega) (by omega) (by omega)
            have s2 := fun w => rscale_ok a c K L mode w hc h a0 a1 (by omega) (by omega) (by omega) (by omega) (by omega) (by omega)
            by_cases hq : rndQ a K L mode ≤ 4503599627370496
            · rw [if_pos hq] at s1 s2
              exact ⟨_, _, _, fun w => conv_5 a c f t K L mode _ w hc hf ht h a0 a1 he hs s1, fun w => rconv_5 a c f t K L mode _ w hc hf ht h a0 a1 he hs s2⟩
            · rw [if_neg hq] at s1 s2
              exact ⟨_, _, _, fun w => cconv_e a c f t K L mode w hc hf ht h a0 a1 he hs s1, fun w => rconv_e a c f t K L mode w hc hf ht h a0 a1 he hs s2⟩
      · exact ⟨_, _, _, fun w => conv_2 a c f t n d mode w hc hf ht h a0 a1 _ rfl he, fun w => rconv_2 a c f t n d mode w hc hf ht h a0 a1 _ rfl he⟩
    · exact ⟨_, _, _, fun w => cconv_0 a c f t n d mode w hc h (by omega), fun w => rconv_0 a c f t n d mode w hc h (by omega)⟩
end Go.Proofs.YtpabgmdgoghahaaDoor.div
