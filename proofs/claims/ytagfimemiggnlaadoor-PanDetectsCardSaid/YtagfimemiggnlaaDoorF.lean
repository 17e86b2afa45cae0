/- CheckDigit of the reference. -/
import Derived.Test.YtagfimemiggnlaaDoorE
set_option linter.unusedVariables false
set_option linter.unusedSimpArgs false
namespace Go.Proofs.YtagfimemiggnlaaDoor
open Go.Sort Go.ChangeShapes Go.WideShapes Go.ChangeAt Go.RowKit
def cdE (s : ByteArray) : Int := if (s.toList == []) = true then 1 else if 18 < s.size then 3 else if allD s.data.toList = false then 2 else 0
def cdV (s : ByteArray) : Int := if cdE s = 0 then 48 + (10 - lsum s.data.toList s.size 2 s.size % 10) % 10 else 0
set_option maxHeartbeats 1000000 in
theorem rcd_any (s : ByteArray) (hs : s.size ≤ 200) (w : World) : Calls Tryd.prog 12 #[.string s] w fun e w' => e = .returned (.tuple #[.int .u8 (cdV s), .int .i64 (cdE s)]) ∧ w' = w := by
  have RD := Lib.hid (fun w => rdigits_any s w (by unfold maxLen; omega))
  have hsi : (s.size : Int) ≤ 200 := by omega
  cases h0 : (s.toList == [])
  · have h0b : (s.toList != []) = true := by rw [bne, h0]; rfl
    by_cases h2 : 18 < s.size
    · have e1 : cdE s = 3 := by unfold cdE; rw [h0, if_neg (by simp), if_pos h2]
      have e2 : cdV s = 0 := by unfold cdV; rw [e1]; rfl
      rw [e1, e2]
      have c2 : decide (18 < (s.size : Int)) = true := decide_eq_true (by omega)
      clear h2 hs e1 e2
      go_enter Tryd.func12, Tryd.ntmps12
      go_wp2_with fail
      exact bodyPost_ret (v := .tuple #[.int .u8 0, .int .i64 3]) (by simp [results, Tryd.results12, go_sem]) rfl ⟨rfl, rfl⟩
    · have c2 : decide (18 < (s.size : Int)) = false := decide_eq_false (by omega)
      cases hd : allD s.data.toList
      · have e1 : cdE s = 2 := by unfold cdE; rw [h0, if_neg (by simp), if_neg h2, hd, if_pos rfl]
        have e2 : cdV s = 0 := by unfold cdV; rw [e1]; rfl
        rw [e1, e2]
        rw [hd] at RD
        clear h2 hs hd e1 e2
        go_enter Tryd.func12, Tryd.ntmps12
        go_wp2_with (go_at_call 30; refine (RD.out _).mono ?_; rintro e w' ⟨rfl, rfl⟩)
        exact bodyPost_ret (v := .tuple #[.int .u8 0, .int .i64 2]) (by simp [results, Tryd.results12, go_sem]) rfl ⟨rfl, rfl⟩
      · have e1 : cdE s = 0 := by unfold cdE; rw [h0, if_neg (by simp), if_neg h2, hd, if_neg (by simp)]
        have e2 : cdV s = 48 + (10 - lsum s.data.toList s.size 2 s.size % 10) % 10 := by unfold cdV; rw [if_pos e1]
        have RS := Lib.hid (fun w => rsum_any s 2 (by omega) hs hd w)
        have hg := lsum_in hd s.size 2 s.size (Nat.le_refl _)
        rw [e1, e2]
        rw [hd] at RD
        generalize lsum s.data.toList s.size 2 s.size = g at *
        have g0 := hg.1
        have g1 : g ≤ 1800 := by omega
        have q1 : 48 ≤ 48 + (10 - g % 10) % 10 ∧ 48 + (10 - g % 10) % 10 ≤ 57 := by omega
        have hw : IntKind.u8.wrap (48 + (10 - g % 10) % 10) = 48 + (10 - g % 10) % 10 := by rw [IntKind.wrap_u8]; omega
        clear h2 hs hd e1 e2 hg
        go_enter Tryd.func12, Tryd.ntmps12
        go_wp2_with (first | (go_at_call 30; refine (RD.out _).mono ?_; rintro e w' ⟨rfl, rfl⟩) | (go_at_call 31; refine (RS.out _).mono ?_; rintro e w' ⟨rfl, rfl⟩))
        exact bodyPost_ret (v := .tuple #[.int .u8 (48 + (10 - g % 10) % 10), .int .i64 0]) (by simp [results, Tryd.results12, go_sem]) rfl ⟨rfl, rfl⟩
  · have e1 : cdE s = 1 := by unfold cdE; rw [h0, if_pos rfl]
    have e2 : cdV s = 0 := by unfold cdV; rw [e1]; rfl
    rw [e1, e2]
    have h0b : (s.toList != []) = false := by rw [bne, h0]; rfl
    clear hs e1 e2
    go_enter Tryd.func12, Tryd.ntmps12
    go_wp2_with fail
    exact bodyPost_ret (v := .tuple #[.int .u8 0, .int .i64 1]) (by simp [results, Tryd.results12, go_sem]) rfl ⟨rfl, rfl⟩
end Go.Proofs.YtagfimemiggnlaaDoor
