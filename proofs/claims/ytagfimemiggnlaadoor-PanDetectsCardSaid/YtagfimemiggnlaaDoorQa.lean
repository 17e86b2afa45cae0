/- Make of the reference where prefix and length are good. -/
import Derived.Test.YtagfimemiggnlaaDoorQ
set_option linter.unusedVariables false
set_option linter.unusedSimpArgs false
namespace Go.Proofs.YtagfimemiggnlaaDoor
open Go.Sort Go.ChangeShapes Go.WideShapes Go.ChangeAt Go.RowKit
set_option maxHeartbeats 2000000 in
theorem rmake_ok (p : ByteArray) (N : Nat) (HN : Hid (N ≤ 9223372036854775807)) (len : Int) (h1 : 12 ≤ len) (h2 : len ≤ 19) (h3 : 1 ≤ p.size) (h4 : p.size ≤ 10) (h5 : allD p.data.toList = true) (w : World) :
    Calls Tryd.prog 22 #[.string p, .int .i64 N, .int .i64 len] w fun e w' => e = .returned (.tuple #[.string (mkV p N len), .int .i64 (mkE p N len)]) ∧ Below w.heap.size w w' := by
  have RD := Lib.hid (fun w => rdigits_any p w (by unfold maxLen; omega))
  rw [h5] at RD
  have HBad := Lib.hid (mkBad_ok (N := N) h1 h2 h3 h4 h5)
  have HCD := Lib.hid (mkS_cd p N len h1 h2 h3 h4 h5)
  have HRC := Lib.hid (fun w => rcd_any (mkS p N len) (by have := HCD.out.1; omega) w)
  have HW := Lib.hid (show (mkw p len : Int) = len - 1 - p.size by unfold mkw; omega)
  have HW9 := Lib.hid (show mkw p len ≤ 17 by unfold mkw; omega)
  have HMS := Lib.hid (show mkS p N len = p ++ bst (dgw (mkw p len) N) from rfl)
  have HG : Hid (mkBad p N len = false → mkE p N len = 0 ∧ mkV p N len = mkS p N len ++ d1 (cdV (mkS p N len))) := Lib.hid mkGood_of
  have HF : Hid (mkBad p N len = true → mkE p N len = 4 ∧ mkV p N len = ⟨#[]⟩) := Lib.hid mkBad_of
  generalize mkE p N len = E at *
  generalize mkV p N len = V at *
  have hsi : (p.size : Int) ≤ 10 := by omega
  have hsj : (1 : Int) ≤ (p.size : Int) := by omega
  have c1 : decide (len < 12) = false := decide_eq_false (by omega)
  have c2 : decide (19 < len) = false := decide_eq_false (by omega)
  have c3 : decide ((p.size : Int) < 1) = false := decide_eq_false (by omega)
  have c3b : ¬ p.size = 0 := by omega
  have c4 : decide (10 < (p.size : Int)) = false := decide_eq_false (by omega)
  generalize mkw p len = W at *
  clear h5 h3
  go_enter Tryd.func22, Tryd.ntmps22
  go_wp2_with (go_at_call 30; refine (RD.out _).mono ?_; rintro e w0 ⟨rfl, rfl⟩)
  go_loopg [1, 8] W (fun g x y wr => wr = w0 ∧ ∃ (j m : Nat) (S : ByteArray), Hid (g + j = W) ∧ x = .int .i64 m ∧ y = .string S ∧ Hid (m = N / 10 ^ j) ∧ Hid (ls S = dgw j N) ∧ Hid (S.size = j))
  case atStart => exact ⟨rfl, 0, N, _, Lib.hid rfl, rfl, rfl, Lib.hid (by simp), Lib.hid rfl, Lib.hid rfl⟩
  case round =>
    obtain ⟨rfl, j, m, S, hg, rfl, rfl, hm, hS, hz⟩ := hrel
    obtain ⟨M, hM⟩ : ∃ M : Int, M = (m : Int) := ⟨_, rfl⟩
    rw [← hM]
    have HM := Lib.hid hM
    have hM0 : 0 ≤ M := by omega
    clear hM
    have hS100 : S.size ≤ 100 := by have := hz.out; have := hg.out; have := HW9.out; omega
    by_cases hlt : j < W
    · have c6 : decide ((S.size : Int) < len - 1 - p.size) = true := decide_eq_true (by have := hz.out; have := HW.out; omega)
      obtain ⟨a, ha⟩ : ∃ a : Nat, a = m % 10 := ⟨_, rfl⟩
      obtain ⟨b, hb⟩ : ∃ b : Nat, b = m / 10 := ⟨_, rfl⟩
      have e1' : M % 10 = a := by have := HM.out; omega
      have e2' : M / 10 = b := by have := HM.out; omega
      have e1 : Int.tmod M 10 = a := by rw [Int.tmod_eq_emod_of_nonneg (by omega)]; omega
      have e2 : Int.tdiv M 10 = b := by rw [Int.tdiv_eq_ediv_of_nonneg (by omega)]; omega
      have ha9 : a < 10 := by omega
      have e3 : wrap64 (b : Int) = b := IntWalk.wrap64_in _ (by have h1 := HN.out; have h2 : m ≤ N := by { rw [hm.out]; exact Nat.div_le_self _ _ }; omega)
      have x1 := ten_run a ha9
      have E3 := Lib.hid e3
      have HV := Lib.hid (show ls (d1 (48 + a) ++ S) = dgw (j + 1) N by rw [ls_app, d1_ls, hS.out, ha, hm.out]; rfl)
      have HQ := Lib.hid (show b = N / 10 ^ (j + 1) by rw [hb, hm.out, Nat.div_div_eq_div_mul, Nat.pow_succ])
      have HZ := Lib.hid (show (d1 (48 + a) ++ S).size = j + 1 by rw [ByteArray.size_append, hz.out, d1_size]; omega)
      have hD : (d1 (48 + a)).size ≤ 100 := by rw [d1_size]; omega
      generalize d1 (48 + a) = D at *
      clear ha hb
      go_wp2_with fail
      go_roundg (gk - 1)
      case measure => have := hg.out; omega
      case rel => exact ⟨rfl, j + 1, b, _, Lib.hid (by have := hg.out; omega), by rw [E3.out], rfl, HQ, HV, HZ⟩
    · have hjW : j = W := by have := hg.out; omega
      subst hjW
      have c6 : decide ((S.size : Int) < len - 1 - p.size) = false := decide_eq_false (by have := hz.out; have := HW.out; omega)
      have hSb : S = bst (dgw j N) := ls_ext (by rw [ls_bst]; exact hS.out)
      have HP := Lib.hid (show p ++ S = mkS p N len by rw [HMS.out, hSb])
      have hps : (p ++ S).size ≤ 100 := by have := hz.out; have := HW9.out; rw [ByteArray.size_append]; omega
      have HPS := Lib.hid hps
      clear hSb
      by_cases hn : N < 10 ^ j
      · have hm0 : m = 0 := by rw [hm.out]; exact Nat.div_eq_of_lt hn
        obtain rfl : M = 0 := by have := HM.out; omega
        obtain ⟨hE, hV⟩ := HG.out (HBad.out.trans (decide_eq_false (by omega)))
        obtain ⟨k1, k2, k3, k4, k5⟩ := HCD.out
        rw [k3, ← HP.out] at HRC
        rw [← HP.out] at k4 k5 hV
        generalize cdV (p ++ S) = c at *
        have hcv := fun w => conv1 w c (by omega)
        have hd1 : (d1 c).size ≤ 100 := by rw [d1_size]; omega
        generalize d1 c = D at *
        have HEE := Lib.hid hE
        have HVV := Lib.hid hV
        clear hE hV k1 k2 k3 hn hm0
        have hcc0 : 0 ≤ c := by omega
        go_wp2_with (go_at_call 12; refine (HRC.out _).mono ?_; rintro e w' ⟨rfl, rfl⟩)
        exact bodyPost_ret (v := .tuple #[.string (p ++ S ++ D), .int .i64 0]) (by simp [results, Tryd.results22, go_sem]) rfl ⟨by rw [HEE.out, HVV.out], al_⟩
      · obtain ⟨hE, hV⟩ := HF.out (HBad.out.trans (decide_eq_true (by omega)))
        have HEE := Lib.hid hE
        have HVV := Lib.hid hV
        have hm0 : 0 < m := by rw [hm.out]; exact Nat.div_pos (by omega) (Nat.pow_pos (by omega))
        have hm1 : decide (0 < M) = true := decide_eq_true (by have := HM.out; omega)
        have hm2 : 0 < M := by have := HM.out; omega
        clear hm0
        clear hE hV hn
        go_wp2_with fail
        exact bodyPost_ret (v := .tuple #[.string ⟨#[]⟩, .int .i64 4]) (by simp [results, Tryd.results22, go_sem]) rfl ⟨by rw [HEE.out, HVV.out], Below.refl _ _⟩
end Go.Proofs.YtagfimemiggnlaaDoor
