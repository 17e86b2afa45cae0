/- CheckDigit of the program. -/
import Derived.Test.YtagfimemiggnlaaDoorI
set_option linter.unusedVariables false
set_option linter.unusedSimpArgs false
namespace Go.Proofs.YtagfimemiggnlaaDoor
open Go.Sort Go.ChangeShapes Go.WideShapes Go.ChangeAt Go.RowKit
theorem lsum_pre (l : List UInt8) (n : Int) (k : Nat) (hk : k ≤ l.length) : lsum (l ++ [48]) (n + 1) 1 k = lsum l n 2 k := by
  induction k with
  | zero => rfl
  | succ k ih =>
    rw [lsum_succ, lsum_succ, ih (by omega), show n + 1 - 1 - (k : Int) + 1 = n - 1 - k + 2 by omega]
    rw [List.getD_eq_getElem?_getD, List.getD_eq_getElem?_getD, List.getElem?_append_left (by omega)]
theorem lsum_zero (l : List UInt8) : lsum (l ++ [48]) ((l.length : Int) + 1) 1 (l.length + 1) = lsum l l.length 2 l.length := by
  rw [lsum_succ, lsum_pre l l.length l.length (Nat.le_refl _), if_neg (by omega)]
  rw [List.getD_eq_getElem?_getD, List.getElem?_append_right (Nat.le_refl _), Nat.sub_self]
  show _ + (((48 : UInt8).toNat : Int) - 48) = _
  rw [show ((48 : UInt8).toNat : Int) = 48 from rfl]
  omega
theorem allD_zero (l : List UInt8) : allD (l ++ [48]) = allD l := by
  unfold allD
  rw [List.all_append]
  have : ([48] : List UInt8).all (fun c => dgB c.toNat) = true := by decide
  rw [this, Bool.and_true]
theorem app_zero (s : ByteArray) : (s ++ (⟨#[48]⟩ : ByteArray)).data.toList = s.data.toList ++ [48] := ls_app s ⟨#[48]⟩
set_option maxHeartbeats 1000000 in
theorem cd_any (s : ByteArray) (hs : s.size ≤ 150) (w : World) : Calls Tryd.prog 11 #[.string s] w fun e w' => e = .returned (.tuple #[.int .u8 (cdV s), .int .i64 (cdE s)]) ∧ Below w.heap.size w w' := by
  have hz : (s ++ (⟨#[48]⟩ : ByteArray)).size = s.size + 1 := ByteArray.size_append
  have S1 := Lib.hid (fun w => sum_any (s ++ (⟨#[48]⟩ : ByteArray)) (by rw [hz]; omega) w)
  have e5 : lsum (s.data.toList ++ [48]) ((s.size + 1 : Nat) : Int) 1 (s.size + 1) = lsum s.data.toList s.size 2 s.size := by
    have := lsum_zero s.data.toList
    rw [show s.data.toList.length = s.size from rfl] at this
    rw [show ((s.size + 1 : Nat) : Int) = (s.size : Int) + 1 by omega]
    exact this
  rw [app_zero, allD_zero, hz, e5] at S1
  have hsi : (s.size : Int) ≤ 150 := by omega
  cases h0 : (s.toList == [])
  · have h0b : (s.toList != []) = true := by rw [bne, h0]; rfl
    by_cases h2 : 18 < s.size
    · have e1 : cdE s = 3 := by unfold cdE; rw [h0, if_neg (by simp), if_pos h2]
      have e2 : cdV s = 0 := by unfold cdV; rw [e1]; rfl
      rw [e1, e2]
      have c2 : decide ((19 : Int) ≤ (s.size : Int)) = true := decide_eq_true (by omega)
      clear h2 hs e1 e2 e5 hz
      go_enter Tryd.func11, Tryd.ntmps11
      go_wp2_with fail
      exact bodyPost_ret (v := .tuple #[.int .u8 0, .int .i64 3]) (by simp [results, Tryd.results11, go_sem]) rfl ⟨rfl, Below.refl _ _⟩
    · have c2 : decide ((19 : Int) ≤ (s.size : Int)) = false := decide_eq_false (by omega)
      cases hd : allD s.data.toList
      · have e1 : cdE s = 2 := by unfold cdE; rw [h0, if_neg (by simp), if_neg h2, hd, if_pos rfl]
        have e2 : cdV s = 0 := by unfold cdV; rw [e1]; rfl
        rw [e1, e2]
        rw [hd, if_neg (by simp)] at S1
        clear h2 hs hd e1 e2 e5
        go_enter Tryd.func11, Tryd.ntmps11
        go_wp2_with fail
        refine (S1.out _).mono ?_
        rintro e w1 ⟨rfl, hb⟩
        have HW := Lib.hid hb
        clear hb
        go_wp2_with fail
        exact bodyPost_ret (v := .tuple #[.int .u8 0, .int .i64 2]) (by simp [results, Tryd.results11, go_sem]) rfl ⟨rfl, HW.out⟩
      · have e1 : cdE s = 0 := by unfold cdE; rw [h0, if_neg (by simp), if_neg h2, hd, if_neg (by simp)]
        have e2 : cdV s = 48 + (10 - lsum s.data.toList s.size 2 s.size % 10) % 10 := by unfold cdV; rw [if_pos e1]
        have hg := lsum_in hd s.size 2 s.size (Nat.le_refl _)
        rw [e1, e2]
        rw [hd, if_pos rfl] at S1
        generalize lsum s.data.toList s.size 2 s.size = g at *
        have g0 := hg.1
        have g1 : g ≤ 1800 := by omega
        have q1 : 48 ≤ 48 + (10 - g % 10) % 10 ∧ 48 + (10 - g % 10) % 10 ≤ 57 := by omega
        have hw : IntKind.u8.wrap (48 + (10 - g % 10) % 10) = 48 + (10 - g % 10) % 10 := by rw [IntKind.wrap_u8]; omega
        clear h2 hs hd e1 e2 hg e5
        go_enter Tryd.func11, Tryd.ntmps11
        go_wp2_with fail
        refine (S1.out _).mono ?_
        rintro e w1 ⟨rfl, hb⟩
        have HW := Lib.hid hb
        clear hb
        go_wp2_with fail
        exact bodyPost_ret (v := .tuple #[.int .u8 (48 + (10 - g % 10) % 10), .int .i64 0]) (by simp [results, Tryd.results11, go_sem]) rfl ⟨rfl, HW.out⟩
  · have e1 : cdE s = 1 := by unfold cdE; rw [h0, if_pos rfl]
    have e2 : cdV s = 0 := by unfold cdV; rw [e1]; rfl
    rw [e1, e2]
    have h0b : (s.toList != []) = false := by rw [bne, h0]; rfl
    clear hs e1 e2 e5 hz
    go_enter Tryd.func11, Tryd.ntmps11
    go_wp2_with fail
    exact bodyPost_ret (v := .tuple #[.int .u8 0, .int .i64 1]) (by simp [results, Tryd.results11, go_sem]) rfl ⟨rfl, Below.refl _ _⟩
end Go.Proofs.YtagfimemiggnlaaDoor
