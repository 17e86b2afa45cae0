import Derived.Test.YtlkbghdeingimaaN
set_option linter.unusedVariables false
set_option linter.unusedSimpArgs false
namespace Go.Proofs.Ytlkbghdeingimaa
open Go.Sort Go.ChangeShapes Go.WideShapes Go.ChangeAt Go.RowKit

abbrev sA : ByteArray := ⟨#[97]⟩
abbrev sE : ByteArray := ⟨#[69, 85, 82]⟩
theorem aw_new (w : World) : Calls Try.prog 8 #[.string sA, .string sE, .int .i64 1000, .int .i64 50, .int .i64 90] w fun e w' => e = .returned (.tuple #[au sA sE 1000 0 0 0 1 50 90 0, .int .i64 0]) ∧ Below w.heap.size w w' :=
  new_ok sA sE 1000 50 90 w (by decide) (by decide) (by decide)
theorem aw_c1 (w : World) : Calls Try.prog 19 #[au sA sE 1000 0 0 0 1 50 90 0, .int .i64 400, .bool false] w fun e w' => e = .returned (.tuple #[au sA sE 1000 0 400 0 1 50 90 1, .int .i64 400, .int .i64 0, .int .i64 0]) ∧ Below w.heap.size w w' :=
  (clear_f1 sA sE 1000 0 0 0 1 50 90 0 400 w (by decide) (by decide) (by decide) (by decide)).mono fun _ _ ⟨he, hw⟩ => ⟨he.trans (by kernel_rfl), hw⟩
theorem aw_c2 (w : World) : Calls Try.prog 19 #[au sA sE 1000 0 400 0 1 50 90 1, .int .i64 700, .bool true] w fun e w' => e = .returned (.tuple #[au sA sE 1000 0 1000 0 2 50 90 2, .int .i64 600, .int .i64 0, .int .i64 0]) ∧ Below w.heap.size w w' :=
  (clear_t2 sA sE 1000 0 400 0 1 50 90 1 700 w (by decide) (by decide) (by decide) (by decide)).mono fun _ _ ⟨he, hw⟩ => ⟨he.trans (by kernel_rfl), hw⟩
theorem aw_c3 (w : World) : Calls Try.prog 19 #[au sA sE 1000 0 1000 0 2 50 90 2, .int .i64 1, .bool false] w fun e w' => e = .returned (.tuple #[au0, .int .i64 0, .int .i64 0, .int .i64 8]) ∧ Below w.heap.size w w' :=
  (clear_no sA sE 1000 0 1000 0 2 50 90 2 1 false w (by decide) (by decide) (by decide)).mono fun _ _ ⟨he, hw⟩ => ⟨he.trans (by kernel_rfl), hw⟩
theorem aw_o (w : World) : Calls Try.prog 10 #[au sA sE 1000 0 400 0 1 50 90 1] w fun e w' => e = .returned (.int .i64 600) ∧ Below w.heap.size w w' :=
  (Open_any sA sE 1000 0 400 0 1 50 90 1 w (by decide) (by decide)).mono fun _ _ ⟨he, hw⟩ => ⟨he.trans (by kernel_rfl), hw⟩

theorem awake_any (w : World) : Calls Try.prog 9 #[] w fun e w' => e = .returned (.bool true) ∧ Below w.heap.size w w' := by
  go_enter Try.func9, Try.ntmps9
  go_wp2_with fail
  refine (aw_new _).mono ?_
  rintro e w1 ⟨rfl, hb⟩
  have B1 := Lib.hid hb
  clear hb
  go_wp2_with fail
  refine (aw_c1 _).mono ?_
  rintro e w2 ⟨rfl, hb⟩
  have B2 := Lib.hid (below_call (B1.out.alloc B1.out.size _) hb)
  clear hb B1
  go_wp2_with fail
  refine (aw_c2 _).mono ?_
  rintro e w3 ⟨rfl, hb⟩
  have B3 := Lib.hid (below_call (B2.out.alloc B2.out.size _) hb)
  have kb := Lib.hid ((Blk.new w2 _ _).call hb)
  obtain ⟨b1, b2, b3⟩ := kb.out.rules
  clear hb B2
  go_wp2_with fail
  refine (aw_c3 _).mono ?_
  rintro e w4 ⟨rfl, hb⟩
  have B4 := Lib.hid (below_call (B3.out.alloc B3.out.size _) hb)
  have kb' := Lib.hid ((kb.out.alloc _).call hb)
  have kc := Lib.hid ((Blk.new w3 _ _).call hb)
  clear hb B3 kb b1 b2 b3
  obtain ⟨b1, b2, b3⟩ := kb'.out.rules
  obtain ⟨c1, c2, c3⟩ := kc.out.rules
  go_wp2_with fail
  refine (aw_o _).mono ?_
  rintro e w5 ⟨rfl, hb⟩
  have B5 := Lib.hid (below_call (B4.out.alloc B4.out.size _) hb)
  clear hb
  go_wp2_with fail
  go_ret
  exact ⟨rfl, B5.out⟩
end Go.Proofs.Ytlkbghdeingimaa
