/- Business, Next and Count. -/
import Derived.Test.YtbfmfnfndmfeeaaDoorJ
set_option linter.unusedVariables false
set_option linter.unusedSimpArgs false
namespace Go.Proofs.YtbfmfnfndmfeeaaDoor
open Go.Sort Go.ChangeShapes Go.WideShapes Go.ChangeAt Go.RowKit
open cal
/-- a business day of a calendar with the holidays S -/
def bizB (S : Int → Bool) (d : Int) : Bool := bD d && decide (wkV d < 5) && !S d
set_option maxHeartbeats 1000000 in
theorem biz_any (C : Nat) (S : Int → Bool) (d : Int) (w : World) (h : CalAt w C S) :
    Calls Tryd.prog 29 #[.pointer (some ⟨C, 0, none⟩), .int .i64 d] w fun e w' => e = .returned (.bool (bizB S d)) ∧ Below w.heap.size w w' := by
  have HD : Hid (∀ w, _) := Lib.hid (fun w => isDate_any d w)
  have HW : Hid (∀ w, _) := Lib.hid (fun w => weekday_any d w)
  unfold bizB
  have HC := Lib.hid h
  cases hd : bD d with
  | false =>
    rw [hd] at HD
    clear h hd HC HW
    go_enter Tryd.func29, Tryd.ntmps29
    go_wp2_with fail
    refine (HD.out _).mono ?_
    rintro e w1 ⟨rfl, hb⟩
    have HB := Lib.hid hb
    clear hb
    go_wp2_with fail
    go_ret
    exact ⟨by simp, HB.out⟩
  | true =>
    have HL := Lib.hid (bD_wf hd)
    rw [hd] at HD
    clear hd h
    generalize wkV d = k at *
    by_cases hk : k < 5
    · go_enter Tryd.func29, Tryd.ntmps29
      go_wp2_with fail
      refine (HD.out _).mono ?_
      rintro e w1 ⟨rfl, hb⟩
      have HB1 := Lib.hid hb
      clear hb
      go_wp2_with fail
      refine (HW.out _).mono ?_
      rintro e w2 ⟨rfl, hb⟩
      have HB2 := Lib.hid (beI HB1.out (Nat.le_refl _) hb)
      clear hb HB1 HD HW
      obtain ⟨B, n, hK, hS⟩ := HC.out.call HB2.out
      have q0 := hK.cell 0
      have q1 := hK.lt
      have hrun := hS.look HL.out
      clear hK hS HC HL
      change w2.cell? _ = some (.map (some B)) at q0
      go_wp2_with fail
      go_ret
      exact ⟨by simp [hk], HB2.out⟩
    · have hk2 : 5 ≤ k := by omega
      go_enter Tryd.func29, Tryd.ntmps29
      go_wp2_with fail
      refine (HD.out _).mono ?_
      rintro e w1 ⟨rfl, hb⟩
      have HB1 := Lib.hid hb
      clear hb
      go_wp2_with fail
      refine (HW.out _).mono ?_
      rintro e w2 ⟨rfl, hb⟩
      have HB2 := Lib.hid (beI HB1.out (Nat.le_refl _) hb)
      clear hb HB1 HD HW
      go_wp2_with fail
      go_ret
      exact ⟨by simp [show ¬ k < 5 by omega], HB2.out⟩
theorem biz_none (d : Int) (w : World) :
    Calls Tryd.prog 29 #[.pointer none, .int .i64 d] w fun e w' => e = .returned (.bool false) ∧ Below w.heap.size w w' := by
  go_enter Tryd.func29, Tryd.ntmps29
  go_wp2_with fail
  go_ret
  exact ⟨by simp, Below.refl _ _⟩
theorem next_no (C : Nat) (d : Int) (hd : bD d = false) (w : World) :
    Calls Tryd.prog 28 #[.pointer (some ⟨C, 0, none⟩), .int .i64 d] w fun e w' => e = .returned (.tuple #[.int .i64 0, .int .i64 4]) ∧ Below w.heap.size w w' := by
  have HD : Hid (∀ w, _) := Lib.hid (fun w => isDate_any d w)
  rw [hd] at HD
  clear hd
  go_enter Tryd.func28, Tryd.ntmps28
  go_wp2_with fail
  refine (HD.out _).mono ?_
  rintro e w1 ⟨rfl, hb⟩
  have HB := Lib.hid hb
  clear hb
  go_wp2_with fail
  exact bodyPost_ret (v := .tuple #[.int .i64 0, .int .i64 4]) (by simp [results, Tryd.results28, go_sem]) rfl ⟨rfl, HB.out⟩
set_option maxHeartbeats 1000000 in
theorem next_hit (C : Nat) (S : Int → Bool) (d x : Int) (hd : 0 ≤ d) (hx0 : d ≤ x) (hx1 : x ≤ 99999) (hx : bizB S x = true) (hno : ∀ k, d ≤ k → k < x → bizB S k = false) (w : World) (h : CalAt w C S) :
    Calls Tryd.prog 28 #[.pointer (some ⟨C, 0, none⟩), .int .i64 d] w fun e w' => e = .returned (.tuple #[.int .i64 x, .int .i64 0]) ∧ Below w.heap.size w w' := by
  have HD : Hid (∀ w, _) := Lib.hid (fun w => isDate_any d w)
  rw [show bD d = true by simp [bD]; omega] at HD
  have HNO := Lib.hid hno
  have HX := Lib.hid hx
  have HC := Lib.hid h
  clear hno hx h
  go_enter Tryd.func28, Tryd.ntmps28
  go_wp2_with fail
  refine (HD.out _).mono ?_
  rintro e w1 ⟨rfl, hb⟩
  have HB0 := Lib.hid hb
  clear hb
  go_wp2_with fail
  go_loopw [1] (fun s wr => ∃ k : Int, d ≤ k ∧ k ≤ x ∧ s = .int .i64 k ∧ Below w.heap.size w wr) (fun s _ => (x - intOf s).toNat)
  case atStart => exact ⟨d, by omega, hx0, rfl, HB0.out⟩
  case round =>
    obtain ⟨k, hk0, hk1, rfl, hB⟩ := hrel
    have HB := Lib.hid hB
    clear hB
    have HZ : Hid (∀ w, CalAt w C S → _) := Lib.hid (fun w h => biz_any C S k w h)
    have hk9 : k ≤ 99999 := by omega
    by_cases hkx : k < x
    · rw [HNO.out k hk0 hkx] at HZ
      go_wp2_with fail
      refine (HZ.out _ (HC.out.call HB.out)).mono ?_
      rintro e w1 ⟨rfl, hb⟩
      have HB1 := Lib.hid (beI HB.out (Nat.le_refl _) hb)
      clear hb
      go_wp2_with fail
      go_round
      case rel => exact ⟨k + 1, by omega, by omega, rfl, HB1.out⟩
      case measure => simp [intOf]; omega
    · have hE : k = x := by omega
      subst hE
      rw [HX.out] at HZ
      go_wp2_with fail
      refine (HZ.out _ (HC.out.call HB.out)).mono ?_
      rintro e w1 ⟨rfl, hb⟩
      have HB1 := Lib.hid (beI HB.out (Nat.le_refl _) hb)
      clear hb
      go_wp2_with fail
      exact bodyPost_ret (v := .tuple #[.int .i64 _, .int .i64 0]) (by simp [results, Tryd.results28, go_sem]) rfl ⟨rfl, HB1.out⟩
/-- the business days among k dates from a on -/
def cntN (S : Int → Bool) (a : Int) : Nat → Int
  | 0 => 0
  | k + 1 => cntN S a k + if bizB S (a + k) = true then 1 else 0
def cnt (S : Int → Bool) (a b : Int) : Int := cntN S a (b - a).toNat
theorem cntN_in (S : Int → Bool) (a : Int) (k : Nat) : 0 ≤ cntN S a k ∧ cntN S a k ≤ k := by
  induction k with
  | zero => exact ⟨Int.le_refl _, Int.le_refl _⟩
  | succ k ih =>
    unfold cntN
    split <;> omega
set_option maxHeartbeats 1000000 in
theorem count_ok (C : Nat) (S : Int → Bool) (a b : Int) (ha : bD a = true) (hb' : bD b = true) (w : World) (h : CalAt w C S) :
    Calls Tryd.prog 30 #[.pointer (some ⟨C, 0, none⟩), .int .i64 a, .int .i64 b] w fun e w' => e = .returned (.int .i64 (cnt S a b)) ∧ Below w.heap.size w w' := by
  have HD : Hid (∀ w, _) := Lib.hid (fun w => isDate_any a w)
  have HE : Hid (∀ w, _) := Lib.hid (fun w => isDate_any b w)
  obtain ⟨a0, a1⟩ := bD_true ha
  obtain ⟨b0, b1⟩ := bD_true hb'
  rw [ha] at HD
  rw [hb'] at HE
  have HC := Lib.hid h
  obtain ⟨U, hU⟩ : ∃ U, cnt S a b = U := ⟨_, rfl⟩
  have HU := Lib.hid hU
  rw [hU]
  clear ha hb' h hU
  obtain ⟨n, hn⟩ : ∃ n, (b - a).toNat = n := ⟨_, rfl⟩
  have hn2 : (n : Int) = b - a ∨ (n = 0 ∧ b ≤ a) := by omega
  have HU2 := Lib.hid (show cntN S a n = U by rw [← hn]; exact HU.out)
  clear hn HU
  have hn9 : (n : Int) ≤ 99999 := by omega
  go_enter Tryd.func30, Tryd.ntmps30
  go_wp2_with fail
  refine (HD.out _).mono ?_
  rintro e w1 ⟨rfl, hb⟩
  have HB0 := Lib.hid hb
  clear hb
  go_wp2_with fail
  refine (HE.out _).mono ?_
  rintro e w2 ⟨rfl, hb⟩
  have HB1 := Lib.hid (beI HB0.out (Nat.le_refl _) hb)
  clear hb HB0 HD HE
  go_wp2_with fail
  go_loopw [7, 8] (fun t s wr => ∃ (k : Nat) (T D : Int), Hid (k ≤ n) ∧ s = .int .i64 D ∧ t = .int .i64 T ∧ Hid (D = a + k) ∧ Hid (cntN S a k = T) ∧ Below w.heap.size w wr) (fun _ s _ => (a + n - intOf s).toNat)
  case atStart => exact ⟨0, 0, a, Lib.hid (Nat.zero_le _), rfl, rfl, Lib.hid (by simp), Lib.hid rfl, HB1.out⟩
  case round =>
    obtain ⟨k, T, D, hk, rfl, rfl, hDk, hT, hB⟩ := hrel
    have HB := Lib.hid hB
    clear hB
    have HIN := Lib.hid (cntN_in S a k)
    rw [hT.out] at HIN
    have t0 := HIN.out.1
    have t2 : T ≤ 99999 := by have a1 := HIN.out.2; have a2 := hk.out; omega
    have d0 : 0 ≤ D := by have := hDk.out; omega
    by_cases hkn : k < n
    · have HZ : Hid (∀ w, CalAt w C S → _) := Lib.hid (fun w h => biz_any C S D w h)
      have HN := Lib.hid (show cntN S a (k + 1) = T + if bizB S D = true then 1 else 0 by rw [← hT.out, hDk.out]; rfl)
      have hlt : D < b := by have := hDk.out; omega
      have HDN := Lib.hid (show D + 1 = a + ((k + 1 : Nat) : Int) by have := hDk.out; omega)
      have HKN := Lib.hid (show k + 1 ≤ n from hkn)
      have HM := Lib.hid (show (a + (n : Int) - (D + 1)).toNat < (a + (n : Int) - D).toNat by have := hDk.out; omega)
      clear hkn hk hDk hT HIN HU2 hn2 hn9
      generalize bizB S D = z at *
      cases z
      · go_wp2_with fail
        refine (HZ.out _ (HC.out.call HB.out)).mono ?_
        rintro e w1 ⟨rfl, hb⟩
        have HB2 := Lib.hid (beI HB.out (Nat.le_refl _) hb)
        clear hb
        go_wp2_with fail
        go_round
        case rel => exact ⟨k + 1, T, D + 1, HKN, rfl, rfl, HDN, Lib.hid (by rw [HN.out]; simp), HB2.out⟩
        case measure => exact HM.out
      · go_wp2_with fail
        refine (HZ.out _ (HC.out.call HB.out)).mono ?_
        rintro e w1 ⟨rfl, hb⟩
        have HB2 := Lib.hid (beI HB.out (Nat.le_refl _) hb)
        clear hb
        go_wp2_with fail
        go_round
        case rel => exact ⟨k + 1, T + 1, D + 1, HKN, rfl, rfl, HDN, Lib.hid (by rw [HN.out]; simp), HB2.out⟩
        case measure => exact HM.out
    · have hE : k = n := by have := hk.out; omega
      subst hE
      have HV := Lib.hid (hT.out.symm.trans HU2.out)
      have hge : b ≤ D := by have := hDk.out; omega
      clear hT HU2 hDk hn2 hn9 HIN hkn
      go_wp2_with fail
      go_ret
      exact ⟨by rw [HV.out]; rfl, HB.out⟩
end Go.Proofs.YtbfmfnfndmfeeaaDoor
