/- RateConverts. -/
import Derived.Test.YtpabgmdgoghahaaDoorDk
set_option linter.unusedVariables false
set_option linter.unusedSimpArgs false
namespace Go.Proofs.YtpabgmdgoghahaaDoor.rateConverts
open Go.Sort Go.ChangeShapes Go.WideShapes Go.ChangeAt Go.RowKit
set_option maxHeartbeats 2000000 in
theorem walk (a : Int) (c f t : ByteArray) (n d mode : Int) (w : World) (ha : (Lit.int .i64 a).wf = true) (hc : c.size ≤ maxLen) (hf : f.size ≤ maxLen) (ht : t.size ≤ maxLen) (hn : (Lit.int .i64 n).wf = true) (hd : (Lit.int .i64 d).wf = true) (hm : (Lit.int .i64 mode).wf = true) :
    Calls Tryd.prog 4 #[.agg #[.int .i64 a, .string c], .agg #[.string f, .string t, .int .i64 n, .int .i64 d], .int .i64 mode] w fun e w' => e = .returned (.bool true) ∧ Below w.heap.size w w' := by
  have HA := Lib.hid awake_any
  have S1 : Hid (∀ w, _) := Lib.hid (fun w => small_any f t n d w hf ht)
  obtain ⟨x, s, E, C1, C2⟩ := div.conv_both a c f t n d mode hc hf ht
  replace C1 := Lib.hid C1
  replace C2 := Lib.hid C2
  generalize smallB f t = b at *
  unfold maxLen at hc
  have hc2 : (c.size : Int) ≤ 9223372036854775807 := by omega
  unfold rt mo at *
  clear hf ht hn hd hm ha
  cases b
  · clear hc
    go_enter Tryd.func4, Tryd.ntmps4
    go_wp2_with fail
    refine (S1.out _).mono ?_
    rintro e w1 ⟨rfl, hb⟩
    obtain ⟨q1, o1, rfl⟩ := regrow_of hb
    clear hb
    go_wp2_with fail
    refine (HA.out _).mono ?_
    rintro e w1 ⟨rfl, hb⟩
    obtain ⟨q2, o2, rfl⟩ := regrow_of hb
    clear hb
    go_wp2_with fail
    go_ret
    exact ⟨rfl, bre (al (al (Below.refl _ _))) _ _⟩
  · by_cases hl : c.size ≤ 20
    · have h20 : decide (20 < (c.size : Int)) = false := decide_eq_false (by omega)
      clear hc hl
      go_enter Tryd.func4, Tryd.ntmps4
      go_wp2_with fail
      refine (S1.out _).mono ?_
      rintro e w1 ⟨rfl, hb⟩
      obtain ⟨q1, o1, rfl⟩ := regrow_of hb
      clear hb
      go_wp2_with fail
      refine (C1.out _).mono ?_
      rintro e w1 ⟨rfl, hb⟩
      obtain ⟨q2, o2, rfl⟩ := regrow_of hb
      clear hb
      go_wp2_with fail
      refine (C2.out _).mono ?_
      rintro e w1 ⟨rfl, hb⟩
      obtain ⟨q3, o3, rfl⟩ := regrow_of hb
      clear hb
      go_wp2_with fail
      refine (HA.out _).mono ?_
      rintro e w1 ⟨rfl, hb⟩
      obtain ⟨q4, o4, rfl⟩ := regrow_of hb
      clear hb
      go_wp2_with fail
      go_ret
      exact ⟨rfl, bre (al (bre (al (bre (al (al (Below.refl _ _))) _ _)) _ _)) _ _⟩
    · have h20 : decide (20 < (c.size : Int)) = true := decide_eq_true (by omega)
      clear hc hl
      go_enter Tryd.func4, Tryd.ntmps4
      go_wp2_with fail
      refine (S1.out _).mono ?_
      rintro e w1 ⟨rfl, hb⟩
      obtain ⟨q1, o1, rfl⟩ := regrow_of hb
      clear hb
      go_wp2_with fail
      refine (HA.out _).mono ?_
      rintro e w1 ⟨rfl, hb⟩
      obtain ⟨q2, o2, rfl⟩ := regrow_of hb
      clear hb
      go_wp2_with fail
      go_ret
      exact ⟨rfl, bre (al (al (Below.refl _ _))) _ _⟩
end Go.Proofs.YtpabgmdgoghahaaDoor.rateConverts
