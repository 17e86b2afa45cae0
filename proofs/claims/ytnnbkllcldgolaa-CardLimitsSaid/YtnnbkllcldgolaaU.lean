/- CardUndone: the walk. -/
import Derived.Test.YtnnbkllcldgolaaI
set_option linter.unusedVariables false
set_option linter.unusedSimpArgs false
namespace Go.Proofs.Ytnnbkllcldgolaa.cardUndone
open Go.ChangeShapes Go.WideShapes Go.ChangeAt Go.RowKit
theorem use_zero {ex la lc : Int} {k : Bool} {d a c day am : Int} (h1 : 0 ≤ day ∧ day ≤ 99999) (h2 : day ≤ ex) (h3 : 0 ≤ am ∧ am ≤ 999999999999) (h4 : k = true → d ≤ day) (h5 : dayA k d day a + am ≤ la) (h6 : dayA k d day c + 1 ≤ lc) : useE 2 ex la lc k d a c day am = 0 := by
  have hu : usE 2 ex day = 0 := by unfold usE; rw [if_neg (by simp), if_neg (by simpa using h1), if_neg (by omega)]
  unfold useE
  rw [hu, if_neg (by simp), if_neg (by simpa using h3), if_neg, if_neg (by omega)]
  simp
  intro hk; exact h4 hk
theorem wf_u8 {a : Int} (h : (Lit.int .u8 a).wf = true) : 0 ≤ a ∧ a < 256 := by simp [Lit.wf, IntKind.min, IntKind.max, IntKind.signed, IntKind.bits] at h; omega
theorem wf_u16 {a : Int} (h : (Lit.int .u16 a).wf = true) : 0 ≤ a ∧ a < 65536 := by simp [Lit.wf, IntKind.min, IntKind.max, IntKind.signed, IntKind.bits] at h; omega
theorem wf_u64 {a : Int} (h : (Lit.int .u64 a).wf = true) : 0 ≤ a ∧ a < 18446744073709551616 := by simp [Lit.wf, IntKind.min, IntKind.max, IntKind.signed, IntKind.bits] at h; omega
theorem wf_i64 {a : Int} (h : (Lit.int .i64 a).wf = true) : -9223372036854775808 ≤ a ∧ a ≤ 9223372036854775807 := by simp [Lit.wf, IntKind.min, IntKind.max, IntKind.signed, IntKind.bits] at h; omega
set_option maxHeartbeats 1000000 in
theorem walk (a b day : Int) (w : World) (wa : (Lit.int .u16 a).wf = true) (wb : (Lit.int .u16 b).wf = true) (wd : (Lit.int .u8 day).wf = true) :
    Calls Try.prog 6 #[.int .u16 a, .int .u16 b, .int .u8 day] w fun e w' => e = .returned (.bool true) ∧ Below w.heap.size w w' := by
  have ha : 0 ≤ a ∧ a < 65536 := wf_u16 wa
  have hb : 0 ≤ b ∧ b < 65536 := wf_u16 wb
  have hd : 0 ≤ day ∧ day < 256 := wf_u8 wd
  clear wa wb wd
  obtain ⟨ha0, ha1⟩ := ha
  obtain ⟨hb0, hb1⟩ := hb
  obtain ⟨hd0, hd1⟩ := hd
  have D1 : ∀ k : Int, dayA true day day k = k := fun k => by simp [dayA]
  have HD1 := Lib.hid D1
  have N1 : ∀ k : Int, dayA true day (day + 1) k = 0 := fun k => by unfold dayA; rw [if_neg]; omega
  have HN1 := Lib.hid N1
  clear D1 N1
  go_enter Try.func6, Try.ntmps6
  go_wp2_with fail
  refine (new_stay _ _ _ _ (by decide) (by decide) (by decide) (by decide)).mono ?_
  rintro e w1 ⟨g, rfl, hg, hb, hk⟩
  have B1 := Lib.hid hb
  have K1 := Lib.hid hk
  clear hb hk
  go_wp2_with fail
  refine (do_stay _ _ _ _ _ _ _ _ _ g 1 w1 K1.out).mono ?_
  rintro e w2 ⟨rfl, hs⟩
  have B2 := Lib.hid (hs.go hg B1.out)
  have K2 : Blk w2 g 57 (cc smp 255 2 200000 3 false 0 0 0) := hs.1
  clear hs
  rw [show nxE 1 1 = 0 from by decide]
  go_wp2_with fail
  refine (use_yes_stay smp 255 2 200000 3 false 0 0 0 g day a w2 K2 (by decide) (by decide) (use_zero (by omega) (by omega) (by omega) (by simp) (by simp [dayA]; omega) (by simp [dayA])) a 1 (by simp [dayA]) (by simp [dayA])).mono ?_
  rintro e w3 ⟨rfl, hs⟩
  have B3 := Lib.hid (hs.go hg B2.out)
  have K3 := Lib.hid hs.1
  clear hs
  go_wp2_with fail
  refine (use_yes_stay smp 255 2 200000 3 true day a 1 g day b w3 K3.out (by omega) (by decide) (use_zero (by omega) (by omega) (by omega) (by simp) (by rw [HD1.out]; omega) (by rw [HD1.out]; omega)) (a + b) 2 (by rw [HD1.out]) (by rw [HD1.out]; rfl)).mono ?_
  rintro e w4 ⟨rfl, hs⟩
  have B4 := Lib.hid (hs.go hg B3.out)
  have K4 := Lib.hid hs.1
  clear hs
  go_wp2_with fail
  refine (used_stay smp 255 2 200000 3 true day (a + b) 2 g day w4 K4.out (a + b) 2 (HD1.out _) (HD1.out _)).mono ?_
  rintro e w5 ⟨rfl, hs⟩
  have B5 := Lib.hid (hs.go hg B4.out)
  have K5 := Lib.hid hs.1
  clear hs
  go_wp2_with fail
  refine (undo_ok_stay smp 255 2 200000 3 day (a + b) 2 g b w5 K5.out (by omega) (by omega) (by decide) a 1 (by omega) (by decide)).mono ?_
  rintro e w6 ⟨rfl, hs⟩
  have B6 := Lib.hid (hs.go hg B5.out)
  have K6 := Lib.hid hs.1
  clear hs
  go_wp2_with fail
  refine (used_stay smp 255 2 200000 3 true day a 1 g day w6 K6.out a 1 (HD1.out _) (HD1.out _)).mono ?_
  rintro e w7 ⟨rfl, hs⟩
  have B7 := Lib.hid (hs.go hg B6.out)
  have K7 := Lib.hid hs.1
  clear hs
  go_wp2_with fail
  refine (undo_none_stay smp 255 2 200000 3 true day a 1 g (day + 1) 0 w7 K7.out (by decide) (by simp; omega) (.inl (HN1.out _))).mono ?_
  rintro e w8 ⟨rfl, hs⟩
  have B8 := Lib.hid (hs.go hg B7.out)
  have K8 := Lib.hid hs.1
  clear hs
  go_wp2_with fail
  refine (undo_past_stay smp 255 2 200000 3 true day a 1 g (day - 1) 0 w8 K8.out (by decide) (by simp; omega)).mono ?_
  rintro e w9 ⟨rfl, hs⟩
  have B9 := Lib.hid (hs.go hg B8.out)
  have K9 := Lib.hid hs.1
  clear hs
  go_wp2_with fail
  refine (use_yes_stay smp 255 2 200000 3 true day a 1 g day b w9 K9.out (by omega) (by decide) (use_zero (by omega) (by omega) (by omega) (by simp) (by rw [HD1.out]; omega) (by rw [HD1.out]; omega)) (a + b) 2 (by rw [HD1.out]) (by rw [HD1.out]; rfl)).mono ?_
  rintro e w10 ⟨rfl, hs⟩
  have B10 := Lib.hid (hs.go hg B9.out)
  have K10 := Lib.hid hs.1
  clear hs
  go_wp2_with fail
  refine (undo_none_stay smp 255 2 200000 3 true day (a + b) 2 g day (a + b + 1) w10 K10.out (by omega) (by simp) (.inr (by rw [HD1.out]; omega))).mono ?_
  rintro e w11 ⟨rfl, hs⟩
  have B11 := Lib.hid (hs.go hg B10.out)
  clear hs
  go_wp2_with fail
  refine (awake_any _).mono ?_
  rintro e w12 ⟨rfl, hb⟩
  have B12 := Lib.hid (below_call B11.out hb)
  clear hb
  go_wp2_with fail
  go_ret
  exact ⟨rfl, B12.out⟩
end Go.Proofs.Ytnnbkllcldgolaa.cardUndone
