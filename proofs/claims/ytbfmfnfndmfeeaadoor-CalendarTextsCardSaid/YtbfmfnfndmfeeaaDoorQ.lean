/- Digits in a text. -/
import Derived.Test.YtbfmfnfndmfeeaaDoorN
import Derived.Test.YtbfmfnfndmfeeaaDoorShelfB
import Derived.Lib.SmallJoins
set_option linter.unusedVariables false
set_option linter.unusedSimpArgs false
namespace Go.Proofs.YtbfmfnfndmfeeaaDoor
open Go.Sort Go.ChangeShapes Go.WideShapes Go.ChangeAt Go.RowKit
open cal
def dgt (b : UInt8) : Bool := decide (48 ≤ b.toNat ∧ b.toNat ≤ 57)
def dv (b : UInt8) : Int := ((b.toNat - 48 : Nat) : Int)
theorem dgt_val {b : UInt8} (h : dgt b = true) : Lib.digitVal b = some (b.toNat - 48) := by
  have := of_decide_eq_true h
  unfold Lib.digitVal
  rw [if_pos this]
theorem dgt_ne {b : UInt8} (h : dgt b = true) : (b == 45) = false ∧ (b == 43) = false := by
  have := of_decide_eq_true h
  constructor
  · rw [beq_eq_false_iff_ne]; rintro rfl; exact absurd this.1 (by decide)
  · rw [beq_eq_false_iff_ne]; rintro rfl; exact absurd this.1 (by decide)
theorem dv_in {b : UInt8} (h : dgt b = true) : 0 ≤ dv b ∧ dv b ≤ 9 := by
  have := of_decide_eq_true h
  unfold dv
  omega
theorem atoi4 {a b c d : UInt8} (ha : dgt a = true) (hb : dgt b = true) (hc : dgt c = true) (hd : dgt d = true) : Lib.atoi [a, b, c, d] = some (dv a * 1000 + dv b * 100 + dv c * 10 + dv d) := by
  unfold Lib.atoi
  simp only [(dgt_ne ha).1, (dgt_ne ha).2]
  simp only [Bool.false_eq_true, if_false, Lib.decNat, Lib.decFrom, dgt_val ha, dgt_val hb, dgt_val hc, dgt_val hd, List.isEmpty_cons, Option.map_some]
  congr 1
  unfold dv
  omega
theorem atoi2 {a b : UInt8} (ha : dgt a = true) (hb : dgt b = true) : Lib.atoi [a, b] = some (dv a * 10 + dv b) := by
  unfold Lib.atoi
  simp only [(dgt_ne ha).1, (dgt_ne ha).2]
  simp only [Bool.false_eq_true, if_false, Lib.decNat, Lib.decFrom, dgt_val ha, dgt_val hb, List.isEmpty_cons, Option.map_some]
  congr 1
  unfold dv
  omega
theorem atoi_call (s : ByteArray) (n : Int) (hl : s.size ≤ 18) (h : Lib.atoi s.data.toList = some n) (w : World) :
    Calls Tryd.prog 40 #[.string s] w fun e w' => e = .returned (.tuple #[.int .i64 n, .nilIface]) ∧ Below w.heap.size w w' :=
  (Tryd.strconv_Atoi s n hl h w).mono fun e w' ⟨he, t, hw⟩ => ⟨he, hw ▸ Go.Joins.below_bytesWorld w.heap.size w 5 t (Nat.le_refl _)⟩
theorem isDigit_any (b : UInt8) (w : World) : Calls Tryd.prog 45 #[.int .u8 b.toNat] w fun e w' => e = .returned (.bool (dgt b)) ∧ Below w.heap.size w w' := by
  unfold dgt
  have hb : b.toNat < 256 := b.toNat_lt
  obtain ⟨k, hk⟩ : ∃ k : Int, (b.toNat : Int) = k := ⟨_, rfl⟩
  have e : (decide (48 ≤ b.toNat ∧ b.toNat ≤ 57)) = (decide (48 ≤ k) && decide (k ≤ 57)) := by rw [← Bool.decide_and]; congr 1; rw [eq_iff_iff]; omega
  rw [e, hk]
  have k1 : k < 256 := by omega
  have k0 : 0 ≤ k := by omega
  clear e hk hb
  go_enter Tryd.func45, Tryd.ntmps45
  go_wp2_with fail
  all_goals go_ret
  all_goals exact ⟨by simp_all <;> omega, Below.refl _ _⟩
set_option maxHeartbeats 1000000 in
theorem isDigits_ok (s : ByteArray) (n : Nat) (hn : s.size = n) (h1 : 1 ≤ n) (h2 : n ≤ 100) (h : ∀ i (hi : i < s.size), dgt s[i] = true) (w : World) :
    Calls Tryd.prog 39 #[.string s] w fun e w' => e = .returned (.bool true) ∧ Below w.heap.size w w' := by
  have HH := Lib.hid h
  have hs : (s.size : Int) = n := by omega
  have hne : ¬ s.toList = [] := by
    rw [ByteArray.toList_eq]
    intro e
    have h3 : s.data.toList.length = s.size := rfl
    rw [e] at h3
    have h4 : ([] : List UInt8).length = s.size := h3
    simp at h4
    omega
  clear h
  go_enter Tryd.func39, Tryd.ntmps39
  go_wp2_with fail
  go_loopw [6] (fun x wr => ∃ i : Nat, i ≤ n ∧ x = .int .i64 i ∧ Below w.heap.size w wr) (fun x _ => n - (intOf x).toNat)
  case atStart => exact ⟨0, Nat.zero_le _, rfl, Below.refl _ _⟩
  case round =>
    obtain ⟨i, hi, rfl, hB⟩ := hrel
    have HB := Lib.hid hB
    clear hB
    by_cases hin : i < n
    · have hlt : (i : Int) < (n : Int) := by omega
      have hin2 : i < s.size := by omega
      have HD : Hid (∀ w, _) := Lib.hid (fun w => isDigit_any (s[i]'hin2) w)
      rw [HH.out i hin2] at HD
      go_wp2_with fail
      refine (HD.out _).mono ?_
      rintro e w1 ⟨rfl, hb⟩
      have HB1 := Lib.hid (beI HB.out (Nat.le_refl _) hb)
      clear hb
      go_wp2_with fail
      go_round
      case rel => exact ⟨i + 1, hin, by simp, HB1.out⟩
      case measure => simp [intOf]; omega
    · have hE : i = n := by omega
      subst hE
      go_wp2_with fail
      go_ret
      exact ⟨by simp [hne], HB.out⟩
set_option maxHeartbeats 1000000 in
theorem isDigits_no (s : ByteArray) (n : Nat) (hn : s.size = n) (h2 : n ≤ 100) (k : Nat) (hk : k < n) (h : ∀ i (hi : i < s.size), i < k → dgt s[i] = true) (hbad : dgt (s[k]'(by omega)) = false) (w : World) :
    Calls Tryd.prog 39 #[.string s] w fun e w' => e = .returned (.bool false) ∧ Below w.heap.size w w' := by
  have HH := Lib.hid h
  have hs : (s.size : Int) = n := by omega
  have HBAD := Lib.hid hbad
  clear h hbad
  go_enter Tryd.func39, Tryd.ntmps39
  go_wp2_with fail
  go_loopw [6] (fun x wr => ∃ i : Nat, i ≤ k ∧ x = .int .i64 i ∧ Below w.heap.size w wr) (fun x _ => k - (intOf x).toNat)
  case atStart => exact ⟨0, Nat.zero_le _, rfl, Below.refl _ _⟩
  case round =>
    obtain ⟨i, hi, rfl, hB⟩ := hrel
    have HB := Lib.hid hB
    clear hB
    have hlt : (i : Int) < (n : Int) := by omega
    have hin2 : i < s.size := by omega
    have HD : Hid (∀ w, _) := Lib.hid (fun w => isDigit_any (s[i]'hin2) w)
    by_cases hik : i < k
    · rw [HH.out i hin2 hik] at HD
      go_wp2_with fail
      refine (HD.out _).mono ?_
      rintro e w1 ⟨rfl, hb⟩
      have HB1 := Lib.hid (beI HB.out (Nat.le_refl _) hb)
      clear hb
      go_wp2_with fail
      go_round
      case rel => exact ⟨i + 1, hik, by simp, HB1.out⟩
      case measure => simp [intOf]; omega
    · have hE : i = k := by omega
      subst hE
      rw [HBAD.out] at HD
      go_wp2_with fail
      refine (HD.out _).mono ?_
      rintro e w1 ⟨rfl, hb⟩
      have HB1 := Lib.hid (beI HB.out (Nat.le_refl _) hb)
      clear hb
      go_wp2_with fail
      go_ret
      exact ⟨rfl, HB1.out⟩
end Go.Proofs.YtbfmfnfndmfeeaaDoor
