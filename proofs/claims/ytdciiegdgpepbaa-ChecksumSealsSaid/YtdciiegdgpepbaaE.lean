/- Open and its reference. -/
import Derived.Test.YtdciiegdgpepbaaC
import Derived.BigQuiet
import Derived.Deep.QuietTactic
import Derived.Lib.QuietBelow
import Derived.Deep.Light
set_option linter.unusedVariables false
set_option linter.unusedSimpArgs false
namespace Go.Proofs.Ytdciiegdgpepbaa
open Go.ChangeShapes Go.WideShapes Go.ChangeAt Go.RowKit
/-- what lies ahead of the last eight bytes, and these -/
def bodyOf (s : ByteArray) : ByteArray := s.extract 0 (s.size - 8)
def tailOf (s : ByteArray) : ByteArray := s.extract (s.size - 8) s.size
def openS (s : ByteArray) : ByteArray := if s.size < 8 then ⟨#[]⟩ else if (sealB (crcOf (bodyOf s))).toList == (tailOf s).toList then bodyOf s else ⟨#[]⟩
def openE (s : ByteArray) : Int := if s.size < 8 then 1 else if (sealB (crcOf (bodyOf s))).toList == (tailOf s).toList then 0 else 9
theorem toList_inj {a b : ByteArray} (h : a.toList = b.toList) : a = b := by
  apply ByteArray.ext
  rw [ByteArray.toList_eq, ByteArray.toList_eq] at h
  exact Array.toList_inj.1 h
theorem parts_eq (s : ByteArray) : bodyOf s ++ tailOf s = s := by
  unfold bodyOf tailOf
  rw [← ByteArray.extract_eq_extract_append_extract (s.size - 8) (by omega) (by omega), ByteArray.extract_zero_size]
theorem append_left_inj' {a b c : ByteArray} (h : a ++ b = a ++ c) : b = c := by
  apply ByteArray.ext
  have := congrArg ByteArray.data h
  exact (Array.append_right_inj a.data).1 (by simpa [ByteArray.data_append] using this)
theorem seals_iff (s : ByteArray) : ((sealOf (bodyOf s)).toList == s.toList) = ((sealB (crcOf (bodyOf s))).toList == (tailOf s).toList) := by
  rw [Bool.eq_iff_iff, beq_iff_eq, beq_iff_eq]
  constructor
  · intro h
    have h := toList_inj h
    rw [append_left_inj' (h.trans (parts_eq s).symm)]
  · intro h
    have h := toList_inj h
    unfold sealOf
    rw [h, parts_eq]
theorem Open_any (s : ByteArray) (w : World) (hs : s.size ≤ 2000) :
    Calls Try.prog 19 #[.string s] w fun e w' => e = .returned (.tuple #[.string (openS s), .int .i64 (openE s)]) ∧ Below w.heap.size w w' := by
  by_cases h8 : s.size < 8
  · have h1 : openS s = ⟨#[]⟩ := by unfold openS; rw [if_pos h8]
    have h2 : openE s = 1 := by unfold openE; rw [if_pos h8]
    rw [h1, h2]
    clear h1 h2
    go_enter Try.func19, Try.ntmps19
    go_wp2_with fail
    exact bodyPost_ret (v := .tuple #[.string ⟨#[]⟩, .int .i64 1]) (by simp [results, Try.results19, go_sem]) rfl ⟨rfl, Below.refl _ _⟩
  · have hb : (s.extract 0 (s.size - 8)).size = s.size - 8 := by rw [ByteArray.size_extract]; omega
    cases ht : (sealB (crcOf (bodyOf s))).toList == (tailOf s).toList
    · have h1 : openS s = ⟨#[]⟩ := by unfold openS; rw [if_neg h8, ht]; rfl
      have h2 : openE s = 9 := by unfold openE; rw [if_neg h8, ht]; rfl
      rw [h1, h2]
      clear h1 h2
      unfold bodyOf tailOf at ht
      go_enter Try.func19, Try.ntmps19
      go_wp2_with fail
      refine wp_region_quiet_below (by kernel_rfl) (by kernel_rfl) ?_
      repeat (any_goals (first | go_big_quiet_step (exact Calls.regrown_of (seal_any _ _ (by unfold maxLen; omega))) | quiet_step (exact Calls.regrown_of (seal_any _ _ (by unfold maxLen; omega))) | (refine wpQuiet_step (fun K hK => ?_); go_simp; split <;> (refine hK _ ?_; clear hK K))))
      all_goals (refine wpQuiet_nil ?_; intro _ hw'; obtain ⟨⟨dq, osq⟩, hw''⟩ := hw'; subst hw'')
      all_goals go_wp2_with fail
      all_goals exact bodyPost_ret (v := .tuple #[.string ⟨#[]⟩, .int .i64 9]) (by simp [results, Try.results19, go_sem]) rfl ⟨rfl, below_regrown _ _ _⟩
    · have h1 : openS s = bodyOf s := by unfold openS; rw [if_neg h8, ht]; rfl
      have h2 : openE s = 0 := by unfold openE; rw [if_neg h8, ht]; rfl
      rw [h1, h2]
      clear h1 h2
      unfold bodyOf tailOf at *
      go_enter Try.func19, Try.ntmps19
      go_wp2_with fail
      refine wp_region_quiet_below (by kernel_rfl) (by kernel_rfl) ?_
      repeat (any_goals (first | go_big_quiet_step (exact Calls.regrown_of (seal_any _ _ (by unfold maxLen; omega))) | quiet_step (exact Calls.regrown_of (seal_any _ _ (by unfold maxLen; omega))) | (refine wpQuiet_step (fun K hK => ?_); go_simp; split <;> (refine hK _ ?_; clear hK K))))
      all_goals (refine wpQuiet_nil ?_; intro _ hw'; obtain ⟨⟨dq, osq⟩, hw''⟩ := hw'; subst hw'')
      all_goals go_wp2_with fail
      all_goals exact bodyPost_ret (v := .tuple #[.string (s.extract 0 (s.size - 8)), .int .i64 0]) (by simp [results, Try.results19, go_sem]) rfl ⟨rfl, below_regrown _ _ _⟩
theorem refOpen_any (s : ByteArray) (w : World) (hs : s.size ≤ 2000) :
    Calls Try.prog 20 #[.string s] w fun e w' => e = .returned (.tuple #[.string (openS s), .int .i64 (openE s)]) ∧ w = w' := by
  by_cases h8 : s.size < 8
  · have h1 : openS s = ⟨#[]⟩ := by unfold openS; rw [if_pos h8]
    have h2 : openE s = 1 := by unfold openE; rw [if_pos h8]
    rw [h1, h2]
    clear h1 h2
    go_enter Try.func20, Try.ntmps20
    go_wp2_with fail
    exact bodyPost_ret (v := .tuple #[.string ⟨#[]⟩, .int .i64 1]) (by simp [results, Try.results20, go_sem]) rfl ⟨rfl, rfl⟩
  · have hb : (s.extract 0 (s.size - 8)).size = s.size - 8 := by rw [ByteArray.size_extract]; omega
    have hsl := seals_iff s
    cases ht : (sealB (crcOf (bodyOf s))).toList == (tailOf s).toList
    · have h1 : openS s = ⟨#[]⟩ := by unfold openS; rw [if_neg h8, ht]; rfl
      have h2 : openE s = 9 := by unfold openE; rw [if_neg h8, ht]; rfl
      rw [h1, h2]
      rw [ht] at hsl
      clear h1 h2 ht
      unfold bodyOf at hsl
      go_enter Try.func20, Try.ntmps20
      go_wp2_with (go_at_call 22; refine (refSeal_any _ _ (by omega)).mono ?_; rintro e w1 ⟨rfl, rfl⟩)
      exact bodyPost_ret (v := .tuple #[.string ⟨#[]⟩, .int .i64 9]) (by simp [results, Try.results20, go_sem]) rfl ⟨rfl, rfl⟩
    · have h1 : openS s = bodyOf s := by unfold openS; rw [if_neg h8, ht]; rfl
      have h2 : openE s = 0 := by unfold openE; rw [if_neg h8, ht]; rfl
      rw [h1, h2]
      rw [ht] at hsl
      clear h1 h2 ht
      unfold bodyOf at *
      go_enter Try.func20, Try.ntmps20
      go_wp2_with (go_at_call 22; refine (refSeal_any _ _ (by omega)).mono ?_; rintro e w1 ⟨rfl, rfl⟩)
      exact bodyPost_ret (v := .tuple #[.string (s.extract 0 (s.size - 8)), .int .i64 0]) (by simp [results, Try.results20, go_sem]) rfl ⟨rfl, rfl⟩
end Go.Proofs.Ytdciiegdgpepbaa
