/- End of the program, and all of a nil reader. -/
import Derived.Test.YtknipjjmpdnomaaGreatDoorO
import Derived.Test.YtknipjjmpdnomaaGreatDoorG
set_option linter.unusedVariables false
set_option linter.unusedSimpArgs false
namespace Go.Proofs.YtknipjjmpdnomaaGreatDoor
open Go.Sort Go.ChangeShapes Go.WideShapes Go.ChangeAt Go.RowKit
theorem end_gen (g a : Nat) (s : ByteArray) (e : Int) (hs : s.size ≤ 2000) (ha : a ≤ s.size) (w : World) (h : Blk w g 42 (rd s a e)) : Calls Tryz.prog 13 #[.pointer (some ⟨g, 0, none⟩)] w fun x w' => x = .returned (.int .i64 (enE (s.size - a) e)) ∧ Below w.heap.size w w' := by
  have HE := Lib.hid (err_any g s a e w h)
  have HL := Lib.hid (left_any g s a e hs ha w h)
  unfold enE
  clear h
  by_cases he : e = 0
  · subst he
    by_cases hz : 0 < s.size - a
    · rw [if_pos ⟨rfl, hz⟩]
      have d1 : decide (0 < ((s.size - a : Nat) : Int)) = true := decide_eq_true (by omega)
      generalize s.size - a = q at *
      clear hs ha
      go_enter Tryz.func13, Tryz.ntmps13
      go_wp2_with (go_at_call 12; refine HE.out.mono ?_; rintro e w' ⟨rfl, rfl⟩)
      refine HL.out.mono ?_
      rintro e w1 ⟨rfl, hb⟩
      have HB := Lib.hid hb
      clear hb
      go_wp2_with fail
      exact bodyPost_ret (v := .int .i64 3) (by simp [results, Tryz.results13, go_sem]) rfl ⟨rfl, HB.out⟩
    · rw [if_neg (fun c => hz c.2)]
      have hq : s.size - a = 0 := by omega
      rw [hq] at HL
      clear hs ha hz hq
      go_enter Tryz.func13, Tryz.ntmps13
      go_wp2_with (go_at_call 12; refine HE.out.mono ?_; rintro e w' ⟨rfl, rfl⟩)
      refine HL.out.mono ?_
      rintro e w1 ⟨rfl, hb⟩
      have HB := Lib.hid hb
      clear hb
      go_wp2_with fail
      exact bodyPost_ret (v := .int .i64 0) (by simp [results, Tryz.results13, go_sem]) rfl ⟨rfl, HB.out⟩
  · rw [if_neg (fun c => he c.1)]
    have d1 : (e == 0) = false := by rw [beq_eq_false_iff_ne]; exact he
    have d2 : (e != 0) = true := by rw [bne_iff_ne]; exact he
    clear hs ha he
    go_enter Tryz.func13, Tryz.ntmps13
    go_wp2_with (go_at_call 12; refine HE.out.mono ?_; rintro x w' ⟨rfl, rfl⟩)
    exact bodyPost_ret (v := .int .i64 e) (by simp [results, Tryz.results13, go_sem]) rfl ⟨rfl, Below.refl _ _⟩
theorem left_nil (w : World) : Calls Tryz.prog 11 #[.pointer none] w fun x w' => x = .returned (.int .i64 0) ∧ w' = w := by
  go_enter Tryz.func11, Tryz.ntmps11
  go_wp2_with fail
  exact bodyPost_ret (v := .int .i64 0) (by simp [results, Tryz.results11, go_sem]) rfl ⟨rfl, rfl⟩
theorem err_nil (w : World) : Calls Tryz.prog 12 #[.pointer none] w fun x w' => x = .returned (.int .i64 6) ∧ w' = w := by
  go_enter Tryz.func12, Tryz.ntmps12
  go_wp2_with fail
  exact bodyPost_ret (v := .int .i64 6) (by simp [results, Tryz.results12, go_sem]) rfl ⟨rfl, rfl⟩
theorem end_nil (w : World) : Calls Tryz.prog 13 #[.pointer none] w fun x w' => x = .returned (.int .i64 6) ∧ w' = w := by
  have HE := Lib.hid (fun w => err_nil w)
  go_enter Tryz.func13, Tryz.ntmps13
  go_wp2_with (go_at_call 12; refine (HE.out _).mono ?_; rintro e w' ⟨rfl, rfl⟩)
  exact bodyPost_ret (v := .int .i64 6) (by simp [results, Tryz.results13, go_sem]) rfl ⟨rfl, rfl⟩
end Go.Proofs.YtknipjjmpdnomaaGreatDoor
