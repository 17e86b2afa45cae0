/- Strings that are currencies: plain.IsCurrency and the two of the references. -/
import Derived.Test.YtpabgmdgoghahaaDoorK
import Derived.Test.YtpabgmdgoghahaaDoorRows
import Derived.WalkKit
import Derived.ProofKit
import Derived.Outline
set_option linter.unusedVariables false
set_option linter.unusedSimpArgs false
namespace Go.Proofs.YtpabgmdgoghahaaDoor
open Go.Sort Go.ChangeShapes Go.WideShapes Go.ChangeAt Go.RowKit
theorem ret_bool {a b : Bool} (h : a = b) : Ending.returned (.bool a) = .returned (.bool b) := by rw [h]
theorem all_take_snoc (s : ByteArray) (p : UInt8 → Bool) (k : Nat) (h : k < s.size) : (s.data.toList.take (k + 1)).all p = ((s.data.toList.take k).all p && p s[k]) := by
  rw [List.take_succ_eq_append_getElem (by simpa using h), List.all_append]; simp; rfl
def capB (c : Int) : Bool := decide (65 ≤ c ∧ c ≤ 90)
def curL (l : List UInt8) : Bool := decide (l.length = 3) && l.all fun c => capB (c.toNat : Int)
theorem curL_no (s : ByteArray) (h : ¬ s.size = 3) : curL s.data.toList = false := by
  have e : s.data.toList.length = s.size := rfl
  simp [curL]; omega
theorem curL_step (s : ByteArray) (k : Nat) (h : k < s.size) (h1 : Hid ((s.data.toList.take k).all (fun c => capB (c.toNat : Int)) = true)) (h2 : capB (s[k].toNat : Int) = true) :
    Hid ((s.data.toList.take (k + 1)).all (fun c => capB (c.toNat : Int)) = true) := by
  refine Lib.hid ?_
  rw [all_take_snoc s _ k h, h1.out, h2]; rfl
theorem curL_good (s : ByteArray) (h : s.size = 3) (k : Nat) (hk : k ≤ s.size) (hlt : ¬ k < s.size) (h1 : Hid ((s.data.toList.take k).all (fun c => capB (c.toNat : Int)) = true)) : curL s.data.toList = true := by
  have e : s.data.toList.length = s.size := rfl
  have h2 := h1.out
  rw [List.take_of_length_le (by omega)] at h2
  simp only [curL, h2, Bool.and_true, decide_eq_true_eq]; omega
theorem curL_bad (s : ByteArray) (k : Nat) (h : k < s.size) (h1 : capB (s[k].toNat : Int) = false) : curL s.data.toList = false := by
  have hm : s[k] ∈ s.data.toList := by
    have : s[k] = s.data.toList[k]'(by simpa using h) := by rfl
    rw [this]; exact List.getElem_mem _
  have : s.data.toList.all (fun c => capB (c.toNat : Int)) = false := by
    rw [List.all_eq_false]; exact ⟨_, hm, by simp [h1]⟩
  simp [curL, this]
theorem curL_end (s : ByteArray) (k : Nat) (hk : k ≤ s.size) (hlt : ¬ k < s.size) (h1 : Hid ((s.data.toList.take k).all (fun c => capB (c.toNat : Int)) = true)) : ((s.size : Int) == 3) = curL s.data.toList := by
  by_cases h : s.size = 3
  · rw [curL_good s h k hk hlt h1, beq_iff_eq]; omega
  · rw [curL_no s h, beq_eq_false_iff_ne]; omega
theorem capB_yes {c : Int} (h : 65 ≤ c ∧ c ≤ 90) : capB c = true := by simpa [capB] using h
theorem capB_nay {c : Int} (h : ¬ (65 ≤ c ∧ c ≤ 90)) : capB c = false := by simpa [capB] using h
theorem cur_any (s : ByteArray) (w : World) (hs : s.size ≤ maxLen) :
    Calls Tryd.prog 30 #[.string s] w fun e w' => e = .returned (.bool (curL s.data.toList)) ∧ w = w' := by
  unfold maxLen at hs
  by_cases h3 : s.size = 3
  · have H3 := Lib.hid h3
    have h30 : 3 ≤ s.size := by omega
    have h31 : s.size ≤ 3 := by omega
    have h4 : ((s.size : Int) != 3) = false := by rw [bne_eq_false_iff_eq]; omega
    clear h3
    go_enter Tryd.func30, Tryd.ntmps30
    go_wp2_with fail
    go_loop [9] (fun i => ∃ k : Nat, k ≤ s.size ∧ i = .int .i64 k ∧ Hid ((s.data.toList.take k).all (fun c => capB (c.toNat : Int)) = true)) (fun i => s.size - (intOf i).toNat)
    case atStart => exact ⟨0, by omega, rfl, Lib.hid (by simp)⟩
    case round =>
      obtain ⟨k, hk, rfl, hall⟩ := hrel
      by_cases hlt : k < s.size
      · have hb0 : (0 : Int) ≤ (s[k].toNat : Int) := by omega
        have hb1 : (s[k].toNat : Int) ≤ 255 := by have := s[k].toNat_lt; omega
        by_cases c1 : 65 ≤ (s[k].toNat : Int)
        · by_cases c2 : (s[k].toNat : Int) ≤ 90
          · have HC := Lib.hid (capB_yes ⟨c1, c2⟩)
            go_wp2_with fail
            go_round
            case rel => exact ⟨k + 1, by omega, by go_num, curL_step s k hlt hall HC.out⟩
            case measure => simp [intOf]; omega
          · have HC := Lib.hid (capB_nay (c := (s[k].toNat : Int)) (by omega))
            go_wp2_with fail
            go_ret
            exact ⟨ret_bool (curL_bad s k hlt HC.out).symm, rfl⟩
        · have HC := Lib.hid (capB_nay (c := (s[k].toNat : Int)) (by omega))
          go_wp2_with fail
          go_ret
          exact ⟨ret_bool (curL_bad s k hlt HC.out).symm, rfl⟩
      · go_wp2_with fail
        go_ret
        exact ⟨ret_bool (curL_good s H3.out k hk hlt hall).symm, rfl⟩
  · have HF := Lib.hid (curL_no s h3)
    have h4 : ((s.size : Int) != 3) = true := by rw [bne_iff_ne]; omega
    clear h3
    go_enter Tryd.func30, Tryd.ntmps30
    go_wp2_with fail
    go_ret
    exact ⟨ret_bool HF.out.symm, rfl⟩
theorem rcur_any (s : ByteArray) (w : World) (hs : s.size ≤ maxLen) :
    Calls Tryd.prog 32 #[.string s] w fun e w' => e = .returned (.bool (curL s.data.toList)) ∧ w = w' := by
  unfold maxLen at hs
  go_enter Tryd.func32, Tryd.ntmps32
  go_wp2_with fail
  go_loop [3] (fun i => ∃ k : Nat, k ≤ s.size ∧ i = .int .i64 k ∧ Hid ((s.data.toList.take k).all (fun c => capB (c.toNat : Int)) = true)) (fun i => s.size - (intOf i).toNat)
  case atStart => exact ⟨0, by omega, rfl, Lib.hid (by simp)⟩
  case round =>
    obtain ⟨k, hk, rfl, hall⟩ := hrel
    by_cases hlt : k < s.size
    · have hb0 : (0 : Int) ≤ (s[k].toNat : Int) := by omega
      have hb1 : (s[k].toNat : Int) ≤ 255 := by have := s[k].toNat_lt; omega
      by_cases c1 : 65 ≤ (s[k].toNat : Int)
      · by_cases c2 : (s[k].toNat : Int) ≤ 90
        · have HC := Lib.hid (capB_yes ⟨c1, c2⟩)
          go_wp2_with fail
          go_round
          case rel => exact ⟨k + 1, by omega, by go_num, curL_step s k hlt hall HC.out⟩
          case measure => simp [intOf]; omega
        · have HC := Lib.hid (capB_nay (c := (s[k].toNat : Int)) (by omega))
          go_wp2_with fail
          go_ret
          exact ⟨ret_bool (curL_bad s k hlt HC.out).symm, rfl⟩
      · have HC := Lib.hid (capB_nay (c := (s[k].toNat : Int)) (by omega))
        go_wp2_with fail
        go_ret
        exact ⟨ret_bool (curL_bad s k hlt HC.out).symm, rfl⟩
    · have HE := Lib.hid (curL_end s k hk hlt hall)
      go_wp2_with fail
      go_ret
      exact ⟨ret_bool HE.out, rfl⟩
end Go.Proofs.YtpabgmdgoghahaaDoor
