/- Hexadecimal digits: IsHex; what they denote. -/
import Derived.Test.YtfiingnanofneaaDoorSetsW
import Derived.LoopTactic
set_option linter.unusedVariables false
set_option linter.unusedSimpArgs false
namespace Go.Proofs.YtfiingnanofneaaDoor
open Go.Sort Go.ChangeShapes Go.WideShapes Go.ChangeAt Go.RowKit
/-- a decimal digit; a digit of base 16 -/
def dg (c : Nat) : Bool := decide (48 ≤ c) && decide (c ≤ 57)
def hx (c : Nat) : Bool := dg c || (decide (97 ≤ c) && decide (c ≤ 102))
def hv (c : Nat) : Nat := if c ≤ 57 then c - 48 else c - 87
def allH (l : List UInt8) : Bool := l.all fun c => hx c.toNat
def valH (l : List UInt8) : Nat := l.foldl (fun n c => n * 16 + hv c.toNat) 0
theorem isdigit_any (c : Nat) (w : World) : Calls Tryd.prog 42 #[.int .u8 c] w fun e w' => e = .returned (.bool (dg c)) ∧ w' = w := by
  unfold dg
  by_cases h1 : 48 ≤ c
  · by_cases h2 : c ≤ 57
    · rw [decide_eq_true h1, decide_eq_true h2]
      have g1 : decide ((48 : Int) ≤ (c : Int)) = true := decide_eq_true (by omega)
      have g2 : decide ((c : Int) ≤ 57) = true := decide_eq_true (by omega)
      clear h1 h2
      go_enter Tryd.func42, Tryd.ntmps42
      go_wp2_with fail
      go_ret
      exact ⟨rfl, rfl⟩
    · rw [decide_eq_true h1, decide_eq_false h2]
      have g1 : decide ((48 : Int) ≤ (c : Int)) = true := decide_eq_true (by omega)
      have g2 : decide ((c : Int) ≤ 57) = false := decide_eq_false (by omega)
      clear h1 h2
      go_enter Tryd.func42, Tryd.ntmps42
      go_wp2_with fail
      go_ret
      exact ⟨rfl, rfl⟩
  · rw [decide_eq_false h1, Bool.false_and]
    have g1 : decide ((48 : Int) ≤ (c : Int)) = false := decide_eq_false (by omega)
    clear h1
    go_enter Tryd.func42, Tryd.ntmps42
    go_wp2_with fail
    go_ret
    exact ⟨rfl, rfl⟩
theorem allH_take (s : ByteArray) (k : Nat) (h : k < s.size) : allH (s.data.toList.take (k + 1)) = (allH (s.data.toList.take k) && hx s[k].toNat) := by
  have e : s.data.toList.take (k + 1) = s.data.toList.take k ++ [s[k]] := by
    rw [List.take_succ_eq_append_getElem (by simpa using h)]; rfl
  rw [e]
  simp [allH, List.all_append]
theorem allH_false (s : ByteArray) (k : Nat) (h : k < s.size) (hb : hx s[k].toNat = false) : allH s.data.toList = false := by
  rw [← List.take_append_drop (k + 1) s.data.toList]
  unfold allH
  rw [List.all_append]
  have := allH_take s k h
  rw [hb, Bool.and_false] at this
  unfold allH at this
  rw [this, Bool.false_and]
set_option maxHeartbeats 400000 in
theorem ishex_any (s : ByteArray) (w : World) (hs : s.size ≤ maxLen) : Calls Tryd.prog 39 #[.string s] w fun e w' => e = .returned (.bool (allH s.data.toList)) ∧ w' = w := by
  unfold maxLen at hs
  have hs' : (s.size : Int) ≤ 9223372036854775807 := by omega
  go_enter Tryd.func39, Tryd.ntmps39
  go_wp2_with fail
  go_loop [6] (fun i => ∃ k : Nat, k ≤ s.size ∧ i = .int .i64 k ∧ Hid (allH (s.data.toList.take k) = true)) (fun i => s.size - (intOf i).toNat)
  case atStart => exact ⟨0, Nat.zero_le _, rfl, Lib.hid rfl⟩
  case round =>
    obtain ⟨k, hk, rfl, hA⟩ := hrel
    by_cases hlt : k < s.size
    · have ht := allH_take s k hlt
      have hf := allH_false s k hlt
      rw [hA.out, Bool.true_and] at ht
      have HD := Lib.hid (isdigit_any s[k].toNat)
      have hlt' : (k : Int) < (s.size : Int) := by omega
      have hge' : 0 ≤ (k : Int) := by omega
      have HT := Lib.hid ht
      have HFn := Lib.hid hf
      clear ht hf
      cases hd : dg s[k].toNat
      · have HD0 := HD.out
        rw [hd] at HD0
        have HDD := Lib.hid HD0
        clear HD0 HD
        by_cases h97 : 97 ≤ s[k].toNat
        · have g1 : decide ((s[k].toNat : Int) < 97) = false := decide_eq_false (by omega)
          by_cases h102 : s[k].toNat ≤ 102
          · have g2 : decide (102 < (s[k].toNat : Int)) = false := decide_eq_false (by omega)
            have hyes : hx s[k].toNat = true := by unfold hx; rw [hd, decide_eq_true h97, decide_eq_true h102]; rfl
            have HY := Lib.hid (HT.out.trans hyes)
            clear hyes hd h97 h102
            go_wp2_with (go_at_call 42; refine (HDD.out _).mono ?_; rintro e w' ⟨rfl, rfl⟩)
            go_round
            case rel => exact ⟨k + 1, by omega, by go_num, Lib.hid HY.out⟩
            case measure => simp [intOf]; omega
          · have g2 : decide (102 < (s[k].toNat : Int)) = true := decide_eq_true (by omega)
            have hno : hx s[k].toNat = false := by unfold hx; rw [hd, decide_eq_true h97, decide_eq_false h102]; rfl
            have HN := Lib.hid (HFn.out hno)
            clear hno hd h97 h102
            go_wp2_with (go_at_call 42; refine (HDD.out _).mono ?_; rintro e w' ⟨rfl, rfl⟩)
            go_ret
            exact ⟨by rw [HN.out]; rfl, rfl⟩
        · have g1 : decide ((s[k].toNat : Int) < 97) = true := decide_eq_true (by omega)
          have hno : hx s[k].toNat = false := by unfold hx; rw [hd, decide_eq_false h97]; rfl
          have HN := Lib.hid (HFn.out hno)
          clear hno hd h97
          go_wp2_with (go_at_call 42; refine (HDD.out _).mono ?_; rintro e w' ⟨rfl, rfl⟩)
          go_ret
          exact ⟨by rw [HN.out]; rfl, rfl⟩
      · have HD0 := HD.out
        rw [hd] at HD0
        have HDD := Lib.hid HD0
        have hyes : hx s[k].toNat = true := by unfold hx; rw [hd]; rfl
        have HY := Lib.hid (HT.out.trans hyes)
        clear HD0 HD hyes hd
        go_wp2_with (go_at_call 42; refine (HDD.out _).mono ?_; rintro e w' ⟨rfl, rfl⟩)
        go_round
        case rel => exact ⟨k + 1, by omega, by go_num, Lib.hid HY.out⟩
        case measure => simp [intOf]; omega
    · have hge : ¬ (k : Int) < (s.size : Int) := by omega
      have hall : allH s.data.toList = true := by have := hA.out; rwa [List.take_of_length_le (by simp; omega)] at this
      have HA := Lib.hid hall
      clear hall hA
      go_wp2_with fail
      go_ret
      exact ⟨by rw [HA.out]; rfl, rfl⟩
end Go.Proofs.YtfiingnanofneaaDoor
