/- Convert of the reference. -/
import Derived.Test.YtpabgmdgoghahaaDoorDh
set_option linter.unusedVariables false
set_option linter.unusedSimpArgs false
namespace Go.Proofs.YtpabgmdgoghahaaDoor.div
open Go.Sort Go.ChangeShapes Go.WideShapes Go.ChangeAt Go.RowKit
theorem rmcheck_ok (a : Int) (c : ByteArray) (hc : c.size ≤ maxLen) (h : curL c.data.toList = true) (h0 : -4503599627370496 ≤ a) (h1 : a ≤ 4503599627370496) (w : World) :
    Calls Tryd.prog 36 #[mo a c] w fun e w' => e = .returned (.int .i64 0) ∧ Below w.heap.size w w' := by
  have := rmcheck_any a c hc w
  rw [show mchk a c = 0 from by unfold mchk; rw [if_neg (by rw [h]; decide), if_pos ⟨h0, h1⟩]] at this
  exact this
theorem rmcheck_no (a : Int) (c : ByteArray) (hc : c.size ≤ maxLen) (h : curL c.data.toList = false) (w : World) :
    Calls Tryd.prog 36 #[mo a c] w fun e w' => e = .returned (.int .i64 11) ∧ Below w.heap.size w w' := by
  have := rmcheck_any a c hc w
  rw [show mchk a c = 11 from by unfold mchk; rw [if_pos h]] at this
  exact this
/-- the rounded quotient, as the reference reckons it -/
def rndQ (a : Int) (K L : Nat) (mode : Int) : Int := capQ (K * a.natAbs / L) + bI (upI (capQ (K * a.natAbs / L)) ((K * a.natAbs % L : Nat) : Int) L mode)
theorem rndQ_in (a : Int) (K L : Nat) (mode : Int) : 0 ≤ rndQ a K L mode ∧ rndQ a K L mode ≤ 4503599627370498 := by
  have := capQ_in (K * a.natAbs / L)
  unfold rndQ bI
  split <;> omega
theorem rscale_ok (a : Int) (c : ByteArray) (K L : Nat) (mode : Int) (w : World) (hc : c.size ≤ maxLen) (hcl : curL c.data.toList = true) (a0 : -4503599627370496 ≤ a) (a1 : a ≤ 4503599627370496)
    (k1 : 1 ≤ K) (k2 : K ≤ 1099511627776) (l1 : 1 ≤ L) (l2 : L ≤ 1099511627776) (m1 : 1 ≤ mode) (m2 : mode ≤ 4) :
    Calls Tryd.prog 37 #[mo a c, .int .i64 K, .int .i64 L, .int .i64 mode] w fun e w' => e = .returned (if rndQ a K L mode ≤ 4503599627370496 then .tuple #[mo (sgn a (rndQ a K L mode)) c, .int .i64 0] else .tuple #[mo0, .int .i64 4]) ∧ Below w.heap.size w w' := by
  have hr : K * a.natAbs % L < L := Nat.mod_lt _ (by omega)
  have hr2 : ((K * a.natAbs % L : Nat) : Int) ≤ 70368744177664 := by generalize K * a.natAbs % L = z at hr ⊢; omega
  have hq := capQ_in (K * a.natAbs / L)
  obtain ⟨q0, q1⟩ := rndQ_in a K L mode
  exact rscale_core a c (a.natAbs : Nat) K L (capQ (K * a.natAbs / L)) ((K * a.natAbs % L : Nat) : Int) (rndQ a K L mode) mode w (fun w => rmcheck_ok a c hc hcl a0 a1 w)
    (fun w => divide_any a.natAbs K L w (by omega) (by omega) l1 (by omega))
    (fun w => round_any _ _ L mode hq.1 hq.2 (Int.natCast_nonneg _) hr2 (by omega) (by omega) m1 m2 w)
    (by split <;> omega) a0 a1 (by omega) (by omega) (by omega) (by omega) m1 m2 q0 q1
set_option maxRecDepth 20000 in
theorem rscale_mode (a : Int) (c : ByteArray) (K L mode : Int) (w : World) (hc : c.size ≤ maxLen) (hcl : curL c.data.toList = true) (a0 : -4503599627370496 ≤ a) (a1 : a ≤ 4503599627370496)
    (k1 : 1 ≤ K) (k2 : K ≤ 1099511627776) (l1 : 1 ≤ L) (l2 : L ≤ 1099511627776) (hm : mode < 1 ∨ 4 < mode) :
    Calls Tryd.prog 37 #[mo a c, .int .i64 K, .int .i64 L, .int .i64 mode] w fun e w' => e = .returned (.tuple #[mo 0 ⟨#[]⟩, .int .i64 4]) ∧ Below w.heap.size w w' := by
  have HC : Hid (∀ w, _) := Lib.hid (fun w => rmcheck_ok a c hc hcl a0 a1 w)
  unfold mo at *
  clear hc hcl a0 a1
  by_cases g : mode < 1
  · clear hm
    go_enter Tryd.func37, Tryd.ntmps37
    go_wp2_with fail
    refine (HC.out _).mono ?_
    rintro e w1 ⟨rfl, hb⟩
    obtain ⟨d1, o1, rfl⟩ := regrow_of hb
    clear hb
    go_wp2_with fail
    exact bodyPost_ret (v := .tuple #[.agg #[.int .i64 0, .string ⟨#[]⟩], .int .i64 4]) (by simp [results, Tryd.results37, go_sem]) rfl ⟨rfl, bre (al (al (Below.refl _ _))) _ _⟩
  · have g2 : 4 < mode := by omega
    have g3 : 1 ≤ mode := by omega
    clear hm
    go_enter Tryd.func37, Tryd.ntmps37
    go_wp2_with fail
    refine (HC.out _).mono ?_
    rintro e w1 ⟨rfl, hb⟩
    obtain ⟨d1, o1, rfl⟩ := regrow_of hb
    clear hb
    go_wp2_with fail
    exact bodyPost_ret (v := .tuple #[.agg #[.int .i64 0, .string ⟨#[]⟩], .int .i64 4]) (by simp [results, Tryd.results37, go_sem]) rfl ⟨rfl, bre (al (al (Below.refl _ _))) _ _⟩
theorem rconv_1 (a : Int) (c f t : ByteArray) (n d mode : Int) (w : World) (hc : c.size ≤ maxLen) (h : curL c.data.toList = false) :
    Calls Tryd.prog 18 #[mo a c, rt f t n d, .int .i64 mode] w fun e w' => e = .returned (.tuple #[mo0, .int .i64 11]) ∧ Below w.heap.size w w' := by
  have HC := Lib.hid (rmcheck_no a c hc h)
  unfold mo0 mo rt at *
  clear hc h
  go_enter Tryd.func18, Tryd.ntmps18
  go_wp2_with fail
  refine (HC.out _).mono ?_
  rintro e w1 ⟨rfl, hb⟩
  obtain ⟨d1, o1, rfl⟩ := regrow_of hb
  clear hb
  go_wp2_with fail
  exact bodyPost_ret (v := .tuple #[.agg #[.int .i64 0, .string ⟨#[]⟩], .int .i64 11]) (by simp [results, Tryd.results18, go_sem]) rfl ⟨rfl, bre (al (al (al (Below.refl _ _)))) _ _⟩
theorem rconv_2 (a : Int) (c f t : ByteArray) (n d mode : Int) (w : World) (hc : c.size ≤ maxLen) (hf : f.size ≤ maxLen) (ht : t.size ≤ maxLen) (h : curL c.data.toList = true) (a0 : -4503599627370496 ≤ a) (a1 : a ≤ 4503599627370496) (E : Int) (he : chkR f t n d = E) (hE : E ≠ 0) :
    Calls Tryd.prog 18 #[mo a c, rt f t n d, .int .i64 mode] w fun e w' => e = .returned (.tuple #[mo0, .int .i64 E]) ∧ Below w.heap.size w w' := by
  have HC := Lib.hid (rmcheck_ok a c hc h a0 a1)
  have hr := fun w => rcheck_any f t n d w hf ht
  rw [he] at hr
  have HR := Lib.hid hr
  have hE' : (E != 0) = true := by rw [bne_iff_ne]; exact hE
  unfold mo0 mo rt at *
  clear hc h hr he hE
  go_enter Tryd.func18, Tryd.ntmps18
  go_wp2_with fail
  refine (HC.out _).mono ?_
  rintro e w1 ⟨rfl, hb⟩
  obtain ⟨d1, o1, rfl⟩ := regrow_of hb
  clear hb
  go_wp2_with fail
  refine (HR.out _).mono ?_
  rintro e w1 ⟨rfl, hb⟩
  obtain ⟨d2, o2, rfl⟩ := regrow_of hb
  clear hb
  go_wp2_with fail
  exact bodyPost_ret (v := .tuple #[.agg #[.int .i64 0, .string ⟨#[]⟩], .int .i64 E]) (by simp [results, Tryd.results18, go_sem]) rfl ⟨rfl, bre (al (al (al (Below.refl _ _)))) _ _⟩
theorem rconv_3 (a : Int) (c f t : ByteArray) (n d mode : Int) (w : World) (hc : c.size ≤ maxLen) (hf : f.size ≤ maxLen) (ht : t.size ≤ maxLen) (h : curL c.data.toList = true) (a0 : -4503599627370496 ≤ a) (a1 : a ≤ 4503599627370496) (he : chkR f t n d = 0) (hs : (c.toList == f.toList) = false) :
    Calls Tryd.prog 18 #[mo a c, rt f t n d, .int .i64 mode] w fun e w' => e = .returned (.tuple #[mo0, .int .i64 11]) ∧ Below w.heap.size w w' := by
  have HC := Lib.hid (rmcheck_ok a c hc h a0 a1)
  have hr := fun w => rcheck_any f t n d w hf ht
  rw [he] at hr
  have HR := Lib.hid hr
  unfold mo0 mo rt at *
  clear hc h hr he
  go_enter Tryd.func18, Tryd.ntmps18
  go_wp2_with fail
  refine (HC.out _).mono ?_
  rintro e w1 ⟨rfl, hb⟩
  obtain ⟨d1, o1, rfl⟩ := regrow_of hb
  clear hb
  go_wp2_with fail
  refine (HR.out _).mono ?_
  rintro e w1 ⟨rfl, hb⟩
  obtain ⟨d2, o2, rfl⟩ := regrow_of hb
  clear hb
  go_wp2_with fail
  exact bodyPost_ret (v := .tuple #[.agg #[.int .i64 0, .string ⟨#[]⟩], .int .i64 11]) (by simp [results, Tryd.results18, go_sem]) rfl ⟨rfl, bre (al (al (al (Below.refl _ _)))) _ _⟩
theorem rconv_4 (a : Int) (c f t : ByteArray) (n d mode : Int) (w : World) (hc : c.size ≤ maxLen) (hf : f.size ≤ maxLen) (ht : t.size ≤ maxLen) (h : curL c.data.toList = true) (a0 : -4503599627370496 ≤ a) (a1 : a ≤ 4503599627370496) (he : chkR f t n d = 0) (hs : (c.toList == f.toList) = true)
    (hm : mode < 1 ∨ 4 < mode) :
    Calls Tryd.prog 18 #[mo a c, rt f t n d, .int .i64 mode] w fun e w' => e = .returned (.tuple #[mo0, .int .i64 4]) ∧ Below w.heap.size w w' := by
  obtain ⟨-, hn, hd⟩ := chk_zero he
  have HC := Lib.hid (rmcheck_ok a c hc h a0 a1)
  have HS : Hid (∀ w, _) := Lib.hid (fun w => rscale_mode a c n d mode w hc h a0 a1 hn.1 hn.2 hd.1 hd.2 hm)
  have hr := fun w => rcheck_any f t n d w hf ht
  rw [he] at hr
  have HR := Lib.hid hr
  unfold mo0 mo rt at *
  clear hc h hr he hn hd hm
  go_enter Tryd.func18, Tryd.ntmps18
  go_wp2_with fail
  refine (HC.out _).mono ?_
  rintro e w1 ⟨rfl, hb⟩
  obtain ⟨d1, o1, rfl⟩ := regrow_of hb
  clear hb
  go_wp2_with fail
  refine (HR.out _).mono ?_
  rintro e w1 ⟨rfl, hb⟩
  obtain ⟨d2, o2, rfl⟩ := regrow_of hb
  clear hb
  go_wp2_with fail
  refine (HS.out _).mono ?_
  rintro e w1 ⟨rfl, hb⟩
  obtain ⟨d3, o3, rfl⟩ := regrow_of hb
  clear hb
  go_wp2_with fail
  exact bodyPost_ret (v := .tuple #[.agg #[.int .i64 0, .string ⟨#[]⟩], .int .i64 4]) (by simp [results, Tryd.results18, go_sem]) rfl ⟨rfl, al (bre (al (al (al (Below.refl _ _)))) _ _)⟩
theorem rconv_5 (a : Int) (c f t : ByteArray) (n d mode Q : Int) (w : World) (hc : c.size ≤ maxLen) (hf : f.size ≤ maxLen) (ht : t.size ≤ maxLen) (h : curL c.data.toList = true) (a0 : -4503599627370496 ≤ a) (a1 : a ≤ 4503599627370496) (he : chkR f t n d = 0) (hs : (c.toList == f.toList) = true)
    (hsc : ∀ w, Calls Tryd.prog 37 #[mo a c, .int .i64 n, .int .i64 d, .int .i64 mode] w fun e w' => e = .returned (.tuple #[mo Q c, .int .i64 0]) ∧ Below w.heap.size w w') :
    Calls Tryd.prog 18 #[mo a c, rt f t n d, .int .i64 mode] w fun e w' => e = .returned (.tuple #[mo Q t, .int .i64 0]) ∧ Below w.heap.size w w' := by
  have HC := Lib.hid (rmcheck_ok a c hc h a0 a1)
  have HS := Lib.hid hsc
  have hr := fun w => rcheck_any f t n d w hf ht
  rw [he] at hr
  have HR := Lib.hid hr
  unfold mo rt at *
  clear hc h hr he hsc
  go_enter Tryd.func18, Tryd.ntmps18
  go_wp2_with fail
  refine (HC.out _).mono ?_
  rintro e w1 ⟨rfl, hb⟩
  obtain ⟨d1, o1, rfl⟩ := regrow_of hb
  clear hb
  go_wp2_with fail
  refine (HR.out _).mono ?_
  rintro e w1 ⟨rfl, hb⟩
  obtain ⟨d2, o2, rfl⟩ := regrow_of hb
  clear hb
  go_wp2_with fail
  refine (HS.out _).mono ?_
  rintro e w1 ⟨rfl, hb⟩
  obtain ⟨d3, o3, rfl⟩ := regrow_of hb
  clear hb
  go_wp2_with fail
  exact bodyPost_ret (v := .tuple #[.agg #[.int .i64 Q, .string t], .int .i64 0]) (by simp [results, Tryd.results18, go_sem]) rfl ⟨rfl, al (bre (al (al (al (Below.refl _ _)))) _ _)⟩
end Go.Proofs.YtpabgmdgoghahaaDoor.div
