/- Set and Clear; the reference's bit and Has. -/
import Derived.Test.YtfiingnanofneaaDoorA
set_option linter.unusedVariables false
set_option linter.unusedSimpArgs false
namespace Go.Proofs.YtfiingnanofneaaDoor
open Go.Sort Go.ChangeShapes Go.WideShapes Go.ChangeAt Go.RowKit
theorem has_no (a b : Nat) (n : Int) (h : n < 2 ∨ 128 < n) (w : World) :
    Calls Tryd.prog 13 #[bm a b, .int .i64 n] w fun e w' => e = .returned (.bool false) ∧ Below w.heap.size w w' := by
  have HS : Hid (∀ w, _) := Lib.hid (fun w => single_no n h w)
  clear h
  unfold bm at *
  go_enter Tryd.func13, Tryd.ntmps13
  go_wp2_with fail
  refine (HS.out _).mono ?_
  rintro e w1 ⟨rfl, hb⟩
  obtain ⟨dd, os, rfl⟩ := regrow_of hb
  clear hb
  go_wp2_with fail
  go_ret
  exact ⟨rfl, (al (bre (al (Below.refl _ _)) _ _))⟩
theorem set_ok (a b m : Nat) (ha : a < B64) (hb : b < B64) (h1 : 2 ≤ m) (h2 : m ≤ 128) (w : World) :
    Calls Tryd.prog 9 #[bm a b, .int .i64 m] w fun e w' => e = .returned (.tuple #[bm ((a ||| b0 m) % B63) (b ||| b1 m), .int .i64 0]) ∧ Below w.heap.size w w' := by
  have HS : Hid (∀ w, _) := Lib.hid (fun w => single_ok m h1 h2 w)
  have HM : Hid (∀ w, _) := Lib.hid (fun w => union_any a b (b0 m) (b1 m) ha hb (b0_lt m h1) (b1_lt m h1) w)
  generalize b0 m = x at *
  generalize b1 m = y at *
  generalize (a ||| x) % B63 = u at *
  generalize b ||| y = v at *
  unfold bm at *
  go_enter Tryd.func9, Tryd.ntmps9
  go_wp2_with fail
  refine (HS.out _).mono ?_
  rintro e w1 ⟨rfl, hb⟩
  obtain ⟨dd, os, rfl⟩ := regrow_of hb
  clear hb
  go_wp2_with fail
  refine (HM.out _).mono ?_
  rintro e w1 ⟨rfl, hb⟩
  obtain ⟨d2, os2, rfl⟩ := regrow_of hb
  clear hb
  go_wp2_with fail
  exact bodyPost_ret (v := .tuple #[.agg #[.int .u64 _, .int .u64 _], .int .i64 0]) (by simp [results, Tryd.results9, go_sem]) rfl ⟨rfl, bre (al (bre (al (al (Below.refl _ _))) _ _)) _ _⟩
theorem set_no (a b : Nat) (n : Int) (h : n < 2 ∨ 128 < n) (w : World) :
    Calls Tryd.prog 9 #[bm a b, .int .i64 n] w fun e w' => e = .returned (.tuple #[bm 0 0, .int .i64 4]) ∧ Below w.heap.size w w' := by
  have HS : Hid (∀ w, _) := Lib.hid (fun w => single_no n h w)
  clear h
  unfold bm at *
  go_enter Tryd.func9, Tryd.ntmps9
  go_wp2_with fail
  refine (HS.out _).mono ?_
  rintro e w1 ⟨rfl, hb⟩
  obtain ⟨dd, os, rfl⟩ := regrow_of hb
  clear hb
  go_wp2_with fail
  exact bodyPost_ret (v := .tuple #[.agg #[.int .u64 0, .int .u64 0], .int .i64 4]) (by simp [results, Tryd.results9, go_sem]) rfl ⟨rfl, (al (bre (al (al (Below.refl _ _))) _ _))⟩
theorem clear_ok (a b m : Nat) (ha : a < B64) (hb : b < B64) (h1 : 2 ≤ m) (h2 : m ≤ 128) (w : World) :
    Calls Tryd.prog 11 #[bm a b, .int .i64 m] w fun e w' => e = .returned (.tuple #[bm ((a &&& nt (b0 m)) % B63) (b &&& nt (b1 m)), .int .i64 0]) ∧ Below w.heap.size w w' := by
  have HS : Hid (∀ w, _) := Lib.hid (fun w => single_ok m h1 h2 w)
  have HM : Hid (∀ w, _) := Lib.hid (fun w => minus_any a b (b0 m) (b1 m) ha hb (b0_lt m h1) (b1_lt m h1) w)
  generalize b0 m = x at *
  generalize b1 m = y at *
  generalize (a &&& nt x) % B63 = u at *
  generalize b &&& nt y = v at *
  unfold bm at *
  go_enter Tryd.func11, Tryd.ntmps11
  go_wp2_with fail
  refine (HS.out _).mono ?_
  rintro e w1 ⟨rfl, hb⟩
  obtain ⟨dd, os, rfl⟩ := regrow_of hb
  clear hb
  go_wp2_with fail
  refine (HM.out _).mono ?_
  rintro e w1 ⟨rfl, hb⟩
  obtain ⟨d2, os2, rfl⟩ := regrow_of hb
  clear hb
  go_wp2_with fail
  exact bodyPost_ret (v := .tuple #[.agg #[.int .u64 _, .int .u64 _], .int .i64 0]) (by simp [results, Tryd.results11, go_sem]) rfl ⟨rfl, bre (al (bre (al (al (Below.refl _ _))) _ _)) _ _⟩
theorem clear_no (a b : Nat) (n : Int) (h : n < 2 ∨ 128 < n) (w : World) :
    Calls Tryd.prog 11 #[bm a b, .int .i64 n] w fun e w' => e = .returned (.tuple #[bm 0 0, .int .i64 4]) ∧ Below w.heap.size w w' := by
  have HS : Hid (∀ w, _) := Lib.hid (fun w => single_no n h w)
  clear h
  unfold bm at *
  go_enter Tryd.func11, Tryd.ntmps11
  go_wp2_with fail
  refine (HS.out _).mono ?_
  rintro e w1 ⟨rfl, hb⟩
  obtain ⟨dd, os, rfl⟩ := regrow_of hb
  clear hb
  go_wp2_with fail
  exact bodyPost_ret (v := .tuple #[.agg #[.int .u64 0, .int .u64 0], .int .i64 4]) (by simp [results, Tryd.results11, go_sem]) rfl ⟨rfl, (al (bre (al (al (Below.refl _ _))) _ _))⟩
/-- the bit of a number in its element -/
def bitN (m : Nat) : Nat := if m ≤ 64 then 2 ^ (64 - m) else 2 ^ (128 - m)
theorem bit_any (m : Nat) (h1 : 2 ≤ m) (h2 : m ≤ 128) (w : World) :
    Calls Tryd.prog 32 #[.int .i64 m] w fun e w' => e = .returned (.int .u64 (bitN m)) ∧ w' = w := by
  have g1 : 2 ≤ (m : Int) := by omega
  have g2 : (m : Int) ≤ 128 := by omega
  by_cases h : m ≤ 64
  · have hr : ((m : Int) - 1) % 64 = (m : Int) - 1 := by omega
    have he : 63 - (m - 1) = 64 - m := by omega
    have hw := Lib.hid (wrap_pow (64 - m) (by omega))
    have hb : bitN m = 2 ^ (64 - m) := if_pos h
    have HE := Lib.hid he
    rw [hb]
    clear hb he
    go_enter Tryd.func32, Tryd.ntmps32
    go_wp2_with fail
    go_ret
    exact ⟨by rw [← hw.out, ← HE.out]; rfl, rfl⟩
  · have hr : ((m : Int) - 1) % 64 = (m : Int) - 65 := by omega
    have he : 63 - (m - 65) = 128 - m := by omega
    have hw := Lib.hid (wrap_pow (128 - m) (by omega))
    have hb : bitN m = 2 ^ (128 - m) := if_neg h
    have HE := Lib.hid he
    rw [hb]
    clear hb he
    go_enter Tryd.func32, Tryd.ntmps32
    go_wp2_with fail
    go_ret
    exact ⟨by rw [← hw.out, ← HE.out]; rfl, rfl⟩
end Go.Proofs.YtfiingnanofneaaDoor
