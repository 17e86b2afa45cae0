/- RateMakes. -/
import Derived.Test.YtpabgmdgoghahaaDoorL
set_option linter.unusedVariables false
set_option linter.unusedSimpArgs false
namespace Go.Proofs.YtpabgmdgoghahaaDoor.rateMakes
open Go.Sort Go.ChangeShapes Go.WideShapes Go.ChangeAt Go.RowKit
@[go_sem] theorem lt_m1 (n a : Nat) : (n < n + 1 + a + 1) = True := by simp; omega
@[go_sem] theorem lt_m2 (n a b : Nat) : (n < n + 1 + a + 1 + b) = True := by simp; omega
@[go_sem] theorem lt_m3 (n a : Nat) : (n < n + 1 + 1 + a + 1) = True := by simp; omega
@[go_sem] theorem lt_m4 (n a b : Nat) : (n < n + 1 + 1 + a + 1 + b) = True := by simp; omega
@[go_sem] theorem lt_m5 (n a b : Nat) : (n < n + 1 + a + 1 + b + 1) = True := by simp; omega
@[go_sem] theorem lt_m6 (n a b : Nat) : (n < n + 1 + 1 + a + 1 + b + 1) = True := by simp; omega
@[go_sem] theorem lt_m7 (n a b c : Nat) : (n < n + 1 + a + 1 + b + 1 + c) = True := by simp; omega
@[go_sem] theorem lt_m8 (n a b c : Nat) : (n < n + 1 + 1 + a + 1 + b + 1 + c) = True := by simp; omega
/-- both give the same rate and the same word -/
def Both (p q : Nat) (args : Array Value) : Prop := ∃ (f t : ByteArray) (n d E : Int),
  (∀ w, Calls Tryd.prog p args w fun e w' => e = .returned (.tuple #[rt f t n d, .int .i64 E]) ∧ Below w.heap.size w w') ∧
  (∀ w, Calls Tryd.prog q args w fun e w' => e = .returned (.tuple #[rt f t n d, .int .i64 E]) ∧ Below w.heap.size w w')
theorem inv_both (f t : ByteArray) (n d : Int) (hf : f.size ≤ maxLen) (ht : t.size ≤ maxLen) : Both 19 20 #[rt f t n d] := by
  by_cases h : chkR f t n d = 0
  · exact ⟨_, _, _, _, _, fun w => inv_ok f t n d w hf ht h, fun w => rinv_ok f t n d w hf ht h⟩
  · exact ⟨_, _, _, _, _, fun w => inv_no f t n d w hf ht _ rfl h, fun w => rinv_no f t n d w hf ht _ rfl h⟩
theorem cross_both (f1 t1 f2 t2 : ByteArray) (an ad bn bd : Int) (hf1 : f1.size ≤ maxLen) (ht1 : t1.size ≤ maxLen) (hf2 : f2.size ≤ maxLen) (ht2 : t2.size ≤ maxLen) : Both 21 22 #[rt f1 t1 an ad, rt f2 t2 bn bd] := by
  by_cases h1 : chkR f1 t1 an ad = 0
  · by_cases h2 : chkR f2 t2 bn bd = 0
    · cases hs1 : (t1.toList == f2.toList)
      · exact ⟨_, _, _, _, _, fun w => cross_3 f1 t1 f2 t2 an ad bn bd w hf1 ht1 hf2 ht2 h1 h2 (.inl hs1), fun w => rcross_3 f1 t1 f2 t2 an ad bn bd w hf1 ht1 hf2 ht2 h1 h2 (.inl hs1)⟩
      · cases hs2 : (f1.toList == t2.toList)
        · obtain ⟨-, k1, k2⟩ := chk_zero h1
          obtain ⟨-, k3, k4⟩ := chk_zero h2
          obtain ⟨x1, x2, y1, y2, A, B, C, D, hp⟩ := parts_of an ad bn bd k1 k2 k3 k4
          cases hok : prodOk A B C D
          · exact ⟨_, _, _, _, _, fun w => cross_4 f1 t1 f2 t2 an ad bn bd w hf1 ht1 hf2 ht2 h1 h2 hs1 hs2 hp hok, fun w => rcross_4 f1 t1 f2 t2 an ad bn bd w hf1 ht1 hf2 ht2 h1 h2 hs1 hs2 hp hok⟩
          · exact ⟨_, _, _, _, _, fun w => cross_5 f1 t1 f2 t2 an ad bn bd w hf1 ht1 hf2 ht2 h1 h2 hs1 hs2 hp hok, fun w => rcross_5 f1 t1 f2 t2 an ad bn bd w hf1 ht1 hf2 ht2 h1 h2 hs1 hs2 hp hok⟩
        · exact ⟨_, _, _, _, _, fun w => cross_3 f1 t1 f2 t2 an ad bn bd w hf1 ht1 hf2 ht2 h1 h2 (.inr hs2), fun w => rcross_3 f1 t1 f2 t2 an ad bn bd w hf1 ht1 hf2 ht2 h1 h2 (.inr hs2)⟩
    · exact ⟨_, _, _, _, _, fun w => cross_2 f1 t1 f2 t2 an ad bn bd w hf1 ht1 hf2 ht2 _ h1 rfl h2, fun w => rcross_2 f1 t1 f2 t2 an ad bn bd w hf1 ht1 hf2 ht2 _ h1 rfl h2⟩
  · exact ⟨_, _, _, _, _, fun w => cross_1 f1 t1 f2 t2 an ad bn bd w hf1 ht1 hf2 ht2 _ rfl h1, fun w => rcross_1 f1 t1 f2 t2 an ad bn bd w hf1 ht1 hf2 ht2 _ rfl h1⟩
theorem mark_both (f1 t1 : ByteArray) (an ad p : Int) (hf1 : f1.size ≤ maxLen) (ht1 : t1.size ≤ maxLen) : Both 23 24 #[rt f1 t1 an ad, .int .i64 p] := by
  by_cases h1 : chkR f1 t1 an ad = 0
  · by_cases g : p < -9999 ∨ 100000 < p
    · exact ⟨_, _, _, _, _, fun w => mark_2 f1 t1 an ad p w hf1 ht1 h1 g, fun w => rmark_2 f1 t1 an ad p w hf1 ht1 h1 g⟩
    · obtain ⟨-, k1, k2⟩ := chk_zero h1
      obtain ⟨x1, x2, y1, y2, A, B, C, D, hp⟩ := parts_of an ad (10000 + p) 10000 k1 k2 (by omega) (by omega)
      cases hok : prodOk A B C D
      · exact ⟨_, _, _, _, _, fun w => mark_4 f1 t1 an ad p w hf1 ht1 h1 (by omega) (by omega) hp hok, fun w => rmark_4 f1 t1 an ad p w hf1 ht1 h1 (by omega) (by omega) hp hok⟩
      · exact ⟨_, _, _, _, _, fun w => mark_5 f1 t1 an ad p w hf1 ht1 h1 (by omega) (by omega) hp hok, fun w => rmark_5 f1 t1 an ad p w hf1 ht1 h1 (by omega) (by omega) hp hok⟩
  · exact ⟨_, _, _, _, _, fun w => mark_1 f1 t1 an ad p w hf1 ht1 _ rfl h1, fun w => rmark_1 f1 t1 an ad p w hf1 ht1 _ rfl h1⟩
set_option maxHeartbeats 2000000 in
theorem walk (f1 t1 : ByteArray) (n1 d1 : Int) (f2 t2 : ByteArray) (n2 d2 : Int) (p : Int) (w : World) (hf1 : f1.size ≤ maxLen) (ht1 : t1.size ≤ maxLen) (hn1 : (Lit.int .i64 n1).wf = true) (hd1 : (Lit.int .i64 d1).wf = true) (hf2 : f2.size ≤ maxLen) (ht2 : t2.size ≤ maxLen) (hn2 : (Lit.int .i64 n2).wf = true) (hd2 : (Lit.int .i64 d2).wf = true) (hp : (Lit.int .i64 p).wf = true) :
    Calls Tryd.prog 5 #[.agg #[.string f1, .string t1, .int .i64 n1, .int .i64 d1], .agg #[.string f2, .string t2, .int .i64 n2, .int .i64 d2], .int .i64 p] w fun e w' => e = .returned (.bool true) ∧ Below w.heap.size w w' := by
  have HA := Lib.hid awake_any
  have S1 : Hid (∀ w, _) := Lib.hid (fun w => small_any f1 t1 n1 d1 w hf1 ht1)
  have S2 : Hid (∀ w, _) := Lib.hid (fun w => small_any f2 t2 n2 d2 w hf2 ht2)
  obtain ⟨if_, it, in_, id_, iE, I1, I2⟩ := inv_both f1 t1 n1 d1 hf1 ht1
  obtain ⟨cf, ct, cn, cd, cE, C1, C2⟩ := cross_both f1 t1 f2 t2 n1 d1 n2 d2 hf1 ht1 hf2 ht2
  obtain ⟨mf, mt, mn, md, mE, M1, M2⟩ := mark_both f1 t1 n1 d1 p hf1 ht1
  replace I1 := Lib.hid I1
  replace I2 := Lib.hid I2
  replace C1 := Lib.hid C1
  replace C2 := Lib.hid C2
  replace M1 := Lib.hid M1
  replace M2 := Lib.hid M2
  generalize smallB f1 t1 = b1 at *
  generalize smallB f2 t2 = b2 at *
  unfold rt at *
  clear hf1 ht1 hf2 ht2 hn1 hd1 hn2 hd2 hp
  cases b1
  · go_enter Tryd.func5, Tryd.ntmps5
    go_wp2_with fail
    refine (S1.out _).mono ?_
    rintro e w1 ⟨rfl, hb⟩
    obtain ⟨q1, o1, rfl⟩ := regrow_of hb
    clear hb
    go_wp2_with fail
    refine (HA.out _).mono ?_
    rintro e w1 ⟨rfl, hb⟩
    obtain ⟨q2, o2, rfl⟩ := regrow_of hb
    clear hb
    go_wp2_with fail
    go_ret
    exact ⟨rfl, bre (al (al (Below.refl _ _))) _ _⟩
  · cases b2
    · go_enter Tryd.func5, Tryd.ntmps5
      go_wp2_with fail
      refine (S1.out _).mono ?_
      rintro e w1 ⟨rfl, hb⟩
      obtain ⟨q1, o1, rfl⟩ := regrow_of hb
      clear hb
      go_wp2_with fail
      refine (S2.out _).mono ?_
      rintro e w1 ⟨rfl, hb⟩
      obtain ⟨q2, o2, rfl⟩ := regrow_of hb
      clear hb
      go_wp2_with fail
      refine (HA.out _).mono ?_
      rintro e w1 ⟨rfl, hb⟩
      obtain ⟨q3, o3, rfl⟩ := regrow_of hb
      clear hb
      go_wp2_with fail
      go_ret
      exact ⟨rfl, bre (al (al (Below.refl _ _))) _ _⟩
    · go_enter Tryd.func5, Tryd.ntmps5
      go_wp2_with fail
      refine (S1.out _).mono ?_
      rintro e w1 ⟨rfl, hb⟩
      obtain ⟨q1, o1, rfl⟩ := regrow_of hb
      clear hb
      go_wp2_with fail
      refine (S2.out _).mono ?_
      rintro e w1 ⟨rfl, hb⟩
      obtain ⟨q2, o2, rfl⟩ := regrow_of hb
      clear hb
      go_wp2_with fail
      refine (I1.out _).mono ?_
      rintro e w1 ⟨rfl, hb⟩
      obtain ⟨q3, o3, rfl⟩ := regrow_of hb
      clear hb
      go_wp2_with fail
      refine (I2.out _).mono ?_
      rintro e w1 ⟨rfl, hb⟩
      obtain ⟨q4, o4, rfl⟩ := regrow_of hb
      clear hb
      go_wp2_with fail
      refine (C1.out _).mono ?_
      rintro e w1 ⟨rfl, hb⟩
      obtain ⟨q5, o5, rfl⟩ := regrow_of hb
      clear hb
      go_wp2_with fail
      refine (C2.out _).mono ?_
      rintro e w1 ⟨rfl, hb⟩
      obtain ⟨q6, o6, rfl⟩ := regrow_of hb
      clear hb
      go_wp2_with fail
      refine (M1.out _).mono ?_
      rintro e w1 ⟨rfl, hb⟩
      obtain ⟨q7, o7, rfl⟩ := regrow_of hb
      clear hb
      go_wp2_with fail
      refine (M2.out _).mono ?_
      rintro e w1 ⟨rfl, hb⟩
      obtain ⟨q8, o8, rfl⟩ := regrow_of hb
      clear hb
      go_wp2_with fail
      refine (HA.out _).mono ?_
      rintro e w1 ⟨rfl, hb⟩
      obtain ⟨q9, o9, rfl⟩ := regrow_of hb
      clear hb
      go_wp2_with fail
      go_ret
      exact ⟨rfl, bre (al (bre (al (bre (al (al (Below.refl _ _))) _ _)) _ _)) _ _⟩
end Go.Proofs.YtpabgmdgoghahaaDoor.rateMakes
