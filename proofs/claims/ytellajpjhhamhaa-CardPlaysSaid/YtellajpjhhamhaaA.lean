/- Next and its reference: the state after an event. -/
import Derived.Test.YtellajpjhhamhaaRows
import Derived.WalkKit
import Derived.ProofKit
import Derived.Lib.Hide
set_option linter.unusedVariables false
set_option linter.unusedSimpArgs false
namespace Go.Proofs.Ytellajpjhhamhaa
open Go.ChangeShapes Go.WideShapes Go.ChangeAt Go.RowKit
def nxBad (s e : Int) : Prop := e < 1 ∨ 4 < e ∨ s < 1 ∨ 4 < s
instance (s e : Int) : Decidable (nxBad s e) := by unfold nxBad; exact inferInstance
def nxS (s e : Int) : Int := if nxBad s e then 0 else if e = 1 ∧ s = 1 ∨ e = 3 ∧ s = 3 then 2 else if e = 2 ∧ s = 2 then 3 else if e = 4 ∧ s ≠ 4 then 4 else 0
def nxE (s e : Int) : Int := if nxBad s e then 4 else if e = 1 ∧ s = 1 ∨ e = 3 ∧ s = 3 ∨ e = 2 ∧ s = 2 ∨ e = 4 ∧ s ≠ 4 then 0 else 8
theorem nx_of {s e a b : Int} (h1 : a = nxS s e) (h2 : b = nxE s e) (w : World) : Ending.returned (Value.tuple #[.int .i64 a, .int .i64 b]) = .returned (.tuple #[.int .i64 (nxS s e), .int .i64 (nxE s e)]) ∧ w = w := by rw [h1, h2]; exact ⟨rfl, rfl⟩
theorem next_any (s e : Int) (w : World) :
    Calls Try.prog 18 #[.int .i64 s, .int .i64 e] w fun x w' => x = .returned (.tuple #[.int .i64 (nxS s e), .int .i64 (nxE s e)]) ∧ w = w' := by
  by_cases hb : nxBad s e
  · have h1 : nxS s e = 0 := by unfold nxS; rw [if_pos hb]
    have h2 : nxE s e = 4 := by unfold nxE; rw [if_pos hb]
    rw [h1, h2]
    clear h1 h2
    unfold nxBad at hb
    by_cases a1 : e < 1
    · clear hb
      go_enter Try.func18, Try.ntmps18
      go_wp2_with fail
      exact bodyPost_ret (v := .tuple #[.int .i64 0, .int .i64 4]) (by simp [results, Try.results18, go_sem]) rfl ⟨rfl, rfl⟩
    · by_cases a2 : 4 < e
      · clear hb
        go_enter Try.func18, Try.ntmps18
        go_wp2_with fail
        exact bodyPost_ret (v := .tuple #[.int .i64 0, .int .i64 4]) (by simp [results, Try.results18, go_sem]) rfl ⟨rfl, rfl⟩
      · by_cases a3 : s < 1
        · clear hb
          go_enter Try.func18, Try.ntmps18
          go_wp2_with fail
          exact bodyPost_ret (v := .tuple #[.int .i64 0, .int .i64 4]) (by simp [results, Try.results18, go_sem]) rfl ⟨rfl, rfl⟩
        · have a4 : 4 < s := by omega
          clear hb
          go_enter Try.func18, Try.ntmps18
          go_wp2_with fail
          exact bodyPost_ret (v := .tuple #[.int .i64 0, .int .i64 4]) (by simp [results, Try.results18, go_sem]) rfl ⟨rfl, rfl⟩
  · have hs : s = 1 ∨ s = 2 ∨ s = 3 ∨ s = 4 := by unfold nxBad at hb; omega
    have he : e = 1 ∨ e = 2 ∨ e = 3 ∨ e = 4 := by unfold nxBad at hb; omega
    clear hb
    rcases hs with rfl | rfl | rfl | rfl <;> rcases he with rfl | rfl | rfl | rfl
    all_goals
      go_enter Try.func18, Try.ntmps18
      go_wp2_with fail
      exact bodyPost_ret (v := .tuple #[.int .i64 _, .int .i64 _]) (by simp [results, Try.results18, go_sem]; exact ⟨rfl, rfl⟩) rfl ⟨rfl, rfl⟩
theorem refnext_any (s e : Int) (w : World) :
    Calls Try.prog 19 #[.int .i64 s, .int .i64 e] w fun x w' => x = .returned (.tuple #[.int .i64 (nxS s e), .int .i64 (nxE s e)]) ∧ w = w' := by
  by_cases hb : nxBad s e
  · have h1 : nxS s e = 0 := by unfold nxS; rw [if_pos hb]
    have h2 : nxE s e = 4 := by unfold nxE; rw [if_pos hb]
    rw [h1, h2]
    clear h1 h2
    unfold nxBad at hb
    by_cases a1 : e < 1
    · clear hb
      go_enter Try.func19, Try.ntmps19
      go_wp2_with fail
      exact bodyPost_ret (v := .tuple #[.int .i64 0, .int .i64 4]) (by simp [results, Try.results19, go_sem]) rfl ⟨rfl, rfl⟩
    · by_cases a2 : 4 < e
      · clear hb
        go_enter Try.func19, Try.ntmps19
        go_wp2_with fail
        exact bodyPost_ret (v := .tuple #[.int .i64 0, .int .i64 4]) (by simp [results, Try.results19, go_sem]) rfl ⟨rfl, rfl⟩
      · by_cases a3 : s < 1
        · clear hb
          go_enter Try.func19, Try.ntmps19
          go_wp2_with fail
          exact bodyPost_ret (v := .tuple #[.int .i64 0, .int .i64 4]) (by simp [results, Try.results19, go_sem]) rfl ⟨rfl, rfl⟩
        · have a4 : 4 < s := by omega
          clear hb
          go_enter Try.func19, Try.ntmps19
          go_wp2_with fail
          exact bodyPost_ret (v := .tuple #[.int .i64 0, .int .i64 4]) (by simp [results, Try.results19, go_sem]) rfl ⟨rfl, rfl⟩
  · have hs : s = 1 ∨ s = 2 ∨ s = 3 ∨ s = 4 := by unfold nxBad at hb; omega
    have he : e = 1 ∨ e = 2 ∨ e = 3 ∨ e = 4 := by unfold nxBad at hb; omega
    clear hb
    rcases hs with rfl | rfl | rfl | rfl <;> rcases he with rfl | rfl | rfl | rfl
    all_goals
      go_enter Try.func19, Try.ntmps19
      go_wp2_with fail
      exact bodyPost_ret (v := .tuple #[.int .i64 _, .int .i64 _]) (by simp [results, Try.results19, go_sem]; exact ⟨rfl, rfl⟩) rfl ⟨rfl, rfl⟩
end Go.Proofs.Ytellajpjhhamhaa
