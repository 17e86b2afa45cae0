import Derived.Test.YtlkbghdeingimaaO
set_option linter.unusedVariables false
set_option linter.unusedSimpArgs false
namespace Go.Proofs.Ytlkbghdeingimaa.authBegins
open Go.Sort Go.ChangeShapes Go.WideShapes Go.ChangeAt Go.RowKit

theorem walk (a0 : ByteArray) (a1 : ByteArray) (a2 : Int) (a3 : Int) (a4 : Int) (a5 : Int) (w0 : a0.size ≤ maxLen) (w1 : a1.size ≤ maxLen) (w2 : (Lit.int .i64 a2).wf = true) (w3 : (Lit.int .i64 a3).wf = true) (w4 : (Lit.int .i64 a4).wf = true) (w5 : (Lit.int .i64 a5).wf = true) (w : World) :
    Calls Try.prog 5 #[.string a0, .string a1, .int .i64 a2, .int .i64 a3, .int .i64 a4, .int .i64 a5] w fun e w' => e = .returned (.bool true) ∧ Below w.heap.size w w' := by
  clear w2 w3 w4 w5
  have hs0 := w0
  have hs1 := w1
  clear w0 w1
  cases h : (chk a0 a1 a2 0 0 0 1 a3 a4 0 == 0)
  · go_enter Try.func5, Try.ntmps5
    go_wp2_with fail
    refine (new_no a0 a1 a2 a3 a4 _ hs0 hs1 h).mono ?_
    rintro e w1 ⟨rfl, hb⟩
    have B1 := Lib.hid hb
    clear hb
    go_wp2_with fail
    refine (rnew_no a0 a1 a2 a3 a4 _ hs0 hs1 h).mono ?_
    rintro e w2 ⟨rfl, hb⟩
    have B2 := Lib.hid (below_call (B1.out.alloc B1.out.size _) hb)
    have kb := Lib.hid ((Blk.new _ _ _).call hb)
    obtain ⟨b1, b2, b3⟩ := kb.out.rules
    clear hb B1
    go_wp2_with (first | (go_at_call 17; refine (name_any _ _).mono ?_; rintro e w' ⟨rfl, rfl⟩) | (go_at_call 18; refine (rname_any _ _).mono ?_; rintro e w' ⟨rfl, rfl⟩))
    refine (awake_any _).mono ?_
    rintro e w3 ⟨rfl, hb⟩
    have B3 := Lib.hid (below_call (B2.out.alloc B2.out.size _) hb)
    clear hb
    go_wp2_with fail
    go_ret
    exact ⟨rfl, B3.out⟩
  · go_enter Try.func5, Try.ntmps5
    go_wp2_with fail
    refine (new_ok a0 a1 a2 a3 a4 _ hs0 hs1 h).mono ?_
    rintro e w1 ⟨rfl, hb⟩
    have B1 := Lib.hid hb
    clear hb
    go_wp2_with fail
    refine (rnew_ok a0 a1 a2 a3 a4 _ hs0 hs1 h).mono ?_
    rintro e w2 ⟨rfl, hb⟩
    have B2 := Lib.hid (below_call (B1.out.alloc B1.out.size _) hb)
    have kb := Lib.hid ((Blk.new _ _ _).call hb)
    obtain ⟨b1, b2, b3⟩ := kb.out.rules
    clear hb B1
    go_wp2_with (first | (go_at_call 17; refine (name_any _ _).mono ?_; rintro e w' ⟨rfl, rfl⟩) | (go_at_call 18; refine (rname_any _ _).mono ?_; rintro e w' ⟨rfl, rfl⟩))
    refine (awake_any _).mono ?_
    rintro e w3 ⟨rfl, hb⟩
    have B3 := Lib.hid (below_call (B2.out.alloc B2.out.size _) hb)
    clear hb
    go_wp2_with fail
    go_ret
    exact ⟨rfl, B3.out⟩
end Go.Proofs.Ytlkbghdeingimaa.authBegins
