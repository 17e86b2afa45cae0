import Derived.Test.YtlkbghdeingimaaZ
set_option linter.unusedVariables false
set_option linter.unusedSimpArgs false
namespace Go.Proofs.Ytlkbghdeingimaa
open Go.Sort Go.ChangeShapes Go.WideShapes Go.ChangeAt Go.RowKit

theorem chk_4x {am : Int} (h : (chk sX sE am 0 0 0 1 0 10 0 == 0) = false) : chk sX sE am 0 0 0 1 0 10 0 = 4 ∧ (am < 1 ∨ 999999999999 < am) := by
  by_cases ha : amtB am 1 = true
  · exfalso
    obtain ⟨h1, h2⟩ := amtB_le ha
    have : chk sX sE am 0 0 0 1 0 10 0 = 0 := chk_mk idX curE ⟨h1, h2⟩ (by omega) (by omega) (by omega) (by omega) (by omega) (by omega) (by rw [sttI_pos (by omega)]) (fun _ => rfl)
    simp [this] at h
  · constructor
    · unfold chk
      rw [if_neg (by rw [idX]; simp), if_neg (by rw [curE]; simp), if_pos (Or.inl (by simpa using ha))]
    · simp [amtB] at ha; omega

set_option maxRecDepth 100000 in
theorem cons_walk (am : Int) (A : Option Addr) (len cap : Nat) (w : World) (hr : IsRecs33 w A len cap) :
    Calls Try.prog 3 #[.int .i64 am, .slice A len cap] w fun e w' => e = .returned (.bool true) ∧ Below w.heap.size w w' := by
  obtain ⟨hlc, hm, hz⟩ := recs_at hr
  have hX1 : sX.size ≤ maxLen := by decide
  have hX2 : sE.size ≤ maxLen := by decide
  cases hc : (chk sX sE am 0 0 0 1 0 10 0 == 0)
  · have hn := fun w => new_no sX sE am 0 10 w hX1 hX2 hc
    obtain ⟨h4, hq⟩ := chk_4x hc
    rw [h4] at hn
    have HN := Lib.hid hn
    have hq' : am < 1 ∨ 1 ≤ am ∧ 999999999999 < am := by omega
    clear hz hr hn hc h4 hq
    rcases hq' with q1 | ⟨q1, q2⟩
    all_goals
      go_enter Try.func3, Try.ntmps3
      go_wp2_with fail
      refine (HN.out _).mono ?_
      rintro e w1 ⟨rfl, hb⟩
      have B1 := Lib.hid hb
      clear hb
      go_wp2_with fail
      refine (awake_any _).mono ?_
      rintro e w2 ⟨rfl, hb⟩
      have B2 := Lib.hid (below_call (B1.out.alloc B1.out.size _) hb)
      go_wp2_with fail
      go_ret
      exact ⟨rfl, B2.out⟩
  · exact cons_loop am A len cap w hlc hz hm hc
end Go.Proofs.Ytlkbghdeingimaa
namespace Go.Proofs.Ytlkbghdeingimaa.authConserves
open Go.ChangeShapes Go.WideShapes Go.ChangeAt Go.RowKit
theorem walk (am : Int) (A : Option Addr) (len cap : Nat) (w : World) (_ : (Lit.int .i64 am).wf = true) (hr : IsRecs33 w A len cap) :
    Calls Try.prog 3 #[.int .i64 am, .slice A len cap] w fun e w' => e = .returned (.bool true) ∧ Below w.heap.size w w' := cons_walk am A len cap w hr
end Go.Proofs.Ytlkbghdeingimaa.authConserves
