/- Next where no business day is left; Count in parts. -/
import Derived.Test.YtbfmfnfndmfeeaaDoorM
set_option linter.unusedVariables false
set_option linter.unusedSimpArgs false
namespace Go.Proofs.YtbfmfnfndmfeeaaDoor
open Go.Sort Go.ChangeShapes Go.WideShapes Go.ChangeAt Go.RowKit
open cal
set_option maxHeartbeats 1000000 in
theorem next_none (C : Nat) (S : Int → Bool) (d : Int) (hd : 0 ≤ d) (hd1 : d ≤ 99999) (hno : ∀ k, d ≤ k → k ≤ 99999 → bizB S k = false) (w : World) (h : CalAt w C S) :
    Calls Tryd.prog 28 #[.pointer (some ⟨C, 0, none⟩), .int .i64 d] w fun e w' => e = .returned (.tuple #[.int .i64 0, .int .i64 4]) ∧ Below w.heap.size w w' := by
  have HD : Hid (∀ w, _) := Lib.hid (fun w => isDate_any d w)
  rw [show bD d = true by simp [bD]; omega] at HD
  have HNO := Lib.hid hno
  have HC := Lib.hid h
  clear hno h
  go_enter Tryd.func28, Tryd.ntmps28
  go_wp2_with fail
  refine (HD.out _).mono ?_
  rintro e w1 ⟨rfl, hb⟩
  have HB0 := Lib.hid hb
  clear hb
  go_wp2_with fail
  go_loopw [1] (fun s wr => ∃ k : Int, d ≤ k ∧ k ≤ 100000 ∧ s = .int .i64 k ∧ Below w.heap.size w wr) (fun s _ => (100000 - intOf s).toNat)
  case atStart => exact ⟨d, by omega, by omega, rfl, HB0.out⟩
  case round =>
    obtain ⟨k, hk0, hk1, rfl, hB⟩ := hrel
    have HB := Lib.hid hB
    clear hB
    by_cases hkx : k ≤ 99999
    · have HZ : Hid (∀ w, CalAt w C S → _) := Lib.hid (fun w h => biz_any C S k w h)
      rw [HNO.out k hk0 hkx] at HZ
      go_wp2_with fail
      refine (HZ.out _ (HC.out.call HB.out)).mono ?_
      rintro e w1 ⟨rfl, hb⟩
      have HB1 := Lib.hid (beI HB.out (Nat.le_refl _) hb)
      clear hb
      go_wp2_with fail
      go_round
      case rel => exact ⟨k + 1, by omega, by omega, rfl, HB1.out⟩
      case measure => simp [intOf]; omega
    · have hgt : 99999 < k := by omega
      go_wp2_with fail
      exact bodyPost_ret (v := .tuple #[.int .i64 0, .int .i64 4]) (by simp [results, Tryd.results28, go_sem]) rfl ⟨rfl, HB.out⟩
theorem cntN_add (S : Int → Bool) (a : Int) (k n : Nat) : cntN S a (k + n) = cntN S a k + cntN S (a + k) n := by
  induction n with
  | zero => simp [cntN]
  | succ n ih =>
    show cntN S a (k + n) + (if bizB S (a + ((k + n : Nat) : Int)) = true then 1 else 0) = cntN S a k + (cntN S (a + k) n + if bizB S (a + k + n) = true then 1 else 0)
    rw [ih, show a + ((k + n : Nat) : Int) = a + k + n by omega]
    omega
theorem cnt_add (S : Int → Bool) (a b c : Int) (h1 : a ≤ b) (h2 : b ≤ c) : cnt S a c = cnt S a b + cnt S b c := by
  unfold cnt
  rw [show (c - a).toNat = (b - a).toNat + (c - b).toNat by omega, cntN_add, show a + ((b - a).toNat : Int) = b by omega]
theorem cnt_none (S : Int → Bool) (a : Int) (n : Nat) (h : ∀ k, a ≤ k → k < a + n → bizB S k = false) : cntN S a n = 0 := by
  induction n with
  | zero => rfl
  | succ n ih =>
    show cntN S a n + (if bizB S (a + n) = true then 1 else 0) = 0
    rw [ih (fun k h0 h1 => h k h0 (by omega)), h (a + n) (by omega) (by omega)]
    simp
end Go.Proofs.YtbfmfnfndmfeeaaDoor
