import Derived.Test.YtlkbghdeingimaaRows
import Derived.WalkKit
import Derived.ProofKit
import Derived.BigQuiet
import Derived.Deep.QuietTactic
import Derived.Lib.Hide
set_option linter.unusedVariables false
set_option linter.unusedSimpArgs false
namespace Go.Proofs.Ytlkbghdeingimaa
open Go.ChangeShapes Go.WideShapes Go.ChangeAt Go.RowKit

def letB (c : Int) : Bool := decide (97 ≤ c ∧ c ≤ 122 ∨ 65 ≤ c ∧ c ≤ 90)
def digB (c : Int) : Bool := decide (48 ≤ c ∧ c ≤ 57)
def idB (c : Int) : Bool := decide (97 ≤ c ∧ c ≤ 122 ∨ 65 ≤ c ∧ c ≤ 90 ∨ 48 ≤ c ∧ c ≤ 57 ∨ c = 95 ∨ c = 45)
def idL (l : List UInt8) : Bool := decide (1 ≤ l.length ∧ l.length ≤ 16) && l.all fun c => idB (c.toNat : Int)
theorem ret_bool {a b : Bool} (h : a = b) : Ending.returned (.bool a) = .returned (.bool b) := by rw [h]

theorem dig_any (c : Int) (w : World) (h : 0 ≤ c) (h2 : c ≤ 255) :
    Calls Try.prog 39 #[.int .u8 c] w fun e w' => e = .returned (.bool (digB c)) ∧ w = w' := by
  go_enter Try.func39, Try.ntmps39
  go_wp2
  all_goals
    go_ret
    exact ⟨ret_bool (by rw [Bool.eq_iff_iff]; simp [digB] <;> omega), rfl⟩

theorem let_any (c : Int) (w : World) (h : 0 ≤ c) (h2 : c ≤ 255) :
    Calls Try.prog 38 #[.int .u8 c] w fun e w' => e = .returned (.bool (letB c)) ∧ w = w' := by
  by_cases h3 : 97 ≤ c
  all_goals
    go_enter Try.func38, Try.ntmps38
    go_wp2
    all_goals
      go_ret
      exact ⟨ret_bool (by rw [Bool.eq_iff_iff]; simp [letB] <;> omega), rfl⟩

theorem all_take_snoc (s : ByteArray) (p : UInt8 → Bool) (k : Nat) (h : k < s.size) : (s.data.toList.take (k + 1)).all p = ((s.data.toList.take k).all p && p s[k]) := by
  rw [List.take_succ_eq_append_getElem (by simpa using h), List.all_append]; simp; rfl

theorem nonempty (s : ByteArray) (h : 1 ≤ s.size) : ¬ s.toList = [] ∧ s.toList.isEmpty = false := by
  have e : s.toList.length = s.size := by rw [Go.ByteArray.toList_eq]; rfl
  constructor
  · intro h'; rw [h'] at e; simp at e; omega
  · rw [List.isEmpty_eq_false_iff]; intro h'; rw [h'] at e; simp at e; omega
theorem isempty (s : ByteArray) (h : s.size = 0) : s.toList = [] := by
  have e : s.toList.length = s.size := by rw [Go.ByteArray.toList_eq]; rfl
  exact List.eq_nil_of_length_eq_zero (by omega)
theorem idL_no (s : ByteArray) (h : s.size = 0 ∨ 16 < s.size) : idL s.data.toList = false := by
  have e : s.data.toList.length = s.size := rfl
  simp [idL]; omega

theorem idB_1 {c : Int} (h : letB c = true) : idB c = true := by simp [letB, idB] at *; omega
theorem idB_2 {c : Int} (h : digB c = true) : idB c = true := by simp [digB, idB] at *; omega
theorem idB_3 {c : Int} (h : c = 95) : idB c = true := by simp [idB] at *; omega
theorem idB_4 {c : Int} (h : (c != 95) = false ∨ (c != 45) = false) : idB c = true := by simp [idB] at *; omega
theorem idB_no {c : Int} (h1 : ¬ letB c = true) (h2 : ¬ digB c = true) (h : (c != 95) = true ∧ (c != 45) = true) : idB c = false := by simp [idB, letB, digB] at *; omega
theorem idL_step (s : ByteArray) (k : Nat) (h : k < s.size) (h1 : Hid ((s.data.toList.take k).all (fun c => idB (c.toNat : Int)) = true)) (h2 : idB (s[k].toNat : Int) = true) :
    Hid ((s.data.toList.take (k + 1)).all (fun c => idB (c.toNat : Int)) = true) := by
  refine Lib.hid ?_
  rw [all_take_snoc s _ k h, h1.out, h2]; rfl
theorem idL_good (s : ByteArray) (h : s.size ≤ 16) (h0 : ¬ s.size = 0) (k : Nat) (hk : k ≤ s.size) (hlt : ¬ k < s.size) (h1 : Hid ((s.data.toList.take k).all (fun c => idB (c.toNat : Int)) = true)) : idL s.data.toList = true := by
  have e : s.data.toList.length = s.size := rfl
  have h2 := h1.out
  rw [List.take_of_length_le (by omega)] at h2
  simp only [idL, h2, Bool.and_true, decide_eq_true_eq]; omega
theorem idL_bad (s : ByteArray) (k : Nat) (h : k < s.size) (h1 : idB (s[k].toNat : Int) = false) : idL s.data.toList = false := by
  have hm : s[k] ∈ s.data.toList := by
    have : s[k] = s.data.toList[k]'(by simpa using h) := by rfl
    rw [this]; exact List.getElem_mem _
  have : s.data.toList.all (fun c => idB (c.toNat : Int)) = false := by
    rw [List.all_eq_false]; exact ⟨_, hm, by simp [h1]⟩
  simp [idL, this]

theorem id_any (s : ByteArray) (w : World) (hs : s.size ≤ maxLen) :
    Calls Try.prog 24 #[.string s] w fun e w' => e = .returned (.bool (idL s.data.toList)) ∧ w = w' := by
  unfold maxLen at hs
  by_cases h0 : s.size = 0
  · have h1 := isempty s h0
    have HF := Lib.hid (idL_no s (Or.inl h0))
    clear h0
    go_enter Try.func24, Try.ntmps24
    go_wp2
    go_ret
    exact ⟨ret_bool HF.out.symm, rfl⟩
  · obtain ⟨h1, h2⟩ := nonempty s (by omega)
    by_cases h16 : s.size ≤ 16
    · go_enter Try.func24, Try.ntmps24
      go_wp2_with fail
      go_loop [13] (fun i => ∃ k : Nat, k ≤ s.size ∧ i = .int .i64 k ∧ Hid ((s.data.toList.take k).all (fun c => idB (c.toNat : Int)) = true)) (fun i => s.size - (intOf i).toNat)
      case atStart => exact ⟨0, by omega, rfl, Lib.hid (by simp)⟩
      case round =>
        obtain ⟨k, hk, rfl, hall⟩ := hrel
        by_cases hlt : k < s.size
        · have hb0 : (0 : Int) ≤ (s[k].toNat : Int) := by omega
          have hb1 : (s[k].toNat : Int) ≤ 255 := by have := s[k].toNat_lt; omega
          go_wp2_with (first | (go_at_call 38; refine (let_any _ _ (by omega) (by omega)).mono ?_; rintro e w' ⟨rfl, rfl⟩) | (go_at_call 39; refine (dig_any _ _ (by omega) (by omega)).mono ?_; rintro e w' ⟨rfl, rfl⟩))
          all_goals first
            | (go_round
               case rel => exact ⟨k + 1, by omega, by go_num, idL_step s k hlt hall (by first | exact idB_1 ‹_› | exact idB_2 ‹_› | exact idB_3 ‹_› | exact idB_4 ‹_›)⟩
               case measure => simp [intOf]; omega)
            | (go_ret
               exact ⟨ret_bool (idL_bad s k hlt (idB_no ‹_› ‹_› ‹_›)).symm, rfl⟩)
        · go_wp2_with fail
          go_ret
          exact ⟨ret_bool (idL_good s h16 h0 k hk hlt hall).symm, rfl⟩
    · have HF := Lib.hid (idL_no s (Or.inr (by omega)))
      go_enter Try.func24, Try.ntmps24
      go_wp2_with fail
      go_ret
      exact ⟨ret_bool HF.out.symm, rfl⟩
end Go.Proofs.Ytlkbghdeingimaa
