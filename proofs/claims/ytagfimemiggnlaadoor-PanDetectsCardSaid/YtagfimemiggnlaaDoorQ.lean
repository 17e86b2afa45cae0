/- Make of both where prefix and length are good. -/
import Derived.Test.YtagfimemiggnlaaDoorP
set_option linter.unusedVariables false
set_option linter.unusedSimpArgs false
namespace Go.Proofs.YtagfimemiggnlaaDoor
open Go.Sort Go.ChangeShapes Go.WideShapes Go.ChangeAt Go.RowKit
theorem mkBad_ok {p : ByteArray} {N : Nat} {len : Int} (h1 : 12 ≤ len) (h2 : len ≤ 19) (h3 : 1 ≤ p.size) (h4 : p.size ≤ 10) (h5 : allD p.data.toList = true) :
    mkBad p N len = decide (10 ^ mkw p len ≤ N) := by
  unfold mkBad
  rw [show decide (len < 12) = false from decide_eq_false (by omega), show decide (19 < len) = false from decide_eq_false (by omega), show decide (p.size < 1) = false from decide_eq_false (by omega), show decide (10 < p.size) = false from decide_eq_false (by omega), h5, show decide ((N : Int) < 0) = false from decide_eq_false (by omega), Int.toNat_natCast]
  simp
theorem bst_cons (c : UInt8) (l : List UInt8) : (⟨#[c]⟩ : ByteArray) ++ bst l = bst (c :: l) := by
  apply ByteArray.ext
  simp [bst]
theorem d1_ls (r : Nat) : ls (d1 (48 + r)) = [UInt8.ofNat (48 + r)] := by
  show [UInt8.ofNat ((48 : Int) + r).toNat] = _
  rw [show ((48 : Int) + r).toNat = 48 + r by omega]
/- the program -/
theorem fi_call (N : Nat) (HN : Hid (N ≤ 9223372036854775807)) (w : World) (h : TabP w) :
    Calls Tryd.prog 48 #[.int .i64 N, .int .i64 10] w fun e w' => e = .returned (.string (bst (Lib.decDigits N))) ∧ Below w.heap.size w w' :=
  (Tryd.strconv_FormatInt_10 N (by omega) (by have := HN.out; omega) w h).mono fun e w' ⟨he, k, os, hw⟩ => ⟨by rw [← itoa_nat]; exact he, hw ▸ Lib.below_grow w.heap.size w (Nat.le_refl _) k os⟩
set_option maxHeartbeats 1000000 in
theorem digits_any (N : Nat) (HN : Hid (N ≤ 9223372036854775807)) (wd : Nat) (hw : wd ≤ 20) (w : World) (h : TabP w) :
    Calls Tryd.prog 37 #[.int .i64 N, .int .i64 wd] w fun e w' => e = .returned (.string (bst (padL wd (Lib.decDigits N)))) ∧ Below w.heap.size w w' := by
  have HC := Lib.hid (fi_call N HN w h)
  unfold padL
  generalize Lib.decDigits N = F at *
  clear h HN
  have HW := Lib.hid hw
  clear hw
  go_enter Tryd.func37, Tryd.ntmps37
  go_wp2_with fail
  refine HC.out.mono ?_
  rintro e w1 ⟨rfl, hb⟩
  have HB := Lib.hid hb
  clear hb
  go_wp2_with fail
  go_loopg [5] (wd - F.length) (fun g s5 wr => wr = w1 ∧ ∃ j, g + j = wd - F.length ∧ s5 = .string (bst (List.replicate j 48 ++ F)))
  case atStart => exact ⟨rfl, 0, by omega, rfl⟩
  case round =>
    obtain ⟨rfl, j, hj, rfl⟩ := hrel
    have hsz := bst_size (List.replicate j 48 ++ F)
    rw [List.length_append, List.length_replicate] at hsz
    generalize hS : bst (List.replicate j 48 ++ F) = S at *
    have HS := Lib.hid hS
    have HJ := Lib.hid hj
    have hsize : S.size = j + F.length := hsz
    clear hS hsz hj
    by_cases hlt : j < wd - F.length
    · have g1 : (S.size : Int) < (wd : Int) := by have := HW.out; omega
      have g2 : S.size ≤ 100 := by have := HW.out; omega
      clear hsize
      go_wp2_with fail
      go_roundg (gk - 1)
      case measure => have := HJ.out; omega
      case rel => exact ⟨rfl, j + 1, by have := HJ.out; omega, by rw [← HS.out, bst_cons, ← List.cons_append, ← List.replicate_succ]⟩
    · have g1 : ¬ (S.size : Int) < (wd : Int) := by have := HJ.out; omega
      clear hsize
      go_wp2_with fail
      go_ret
      have hjk : j = wd - F.length := by have := HJ.out; omega
      exact ⟨by rw [← HS.out, hjk]; rfl, HB.out⟩
set_option maxHeartbeats 2000000 in
theorem make_ok (p : ByteArray) (N : Nat) (HN : Hid (N ≤ 9223372036854775807)) (len : Int) (h1 : 12 ≤ len) (h2 : len ≤ 19) (h3 : 1 ≤ p.size) (h4 : p.size ≤ 10) (h5 : allD p.data.toList = true) (w : World) (hT : TabP w) :
    Calls Tryd.prog 21 #[.string p, .int .i64 N, .int .i64 len] w fun e w' => e = .returned (.tuple #[.string (mkV p N len), .int .i64 (mkE p N len)]) ∧ Below w.heap.size w w' := by
  have RD := Lib.hid (fun w => isP_any p (by omega) w)
  rw [isP_of (by omega) (by omega), h5] at RD
  have HBad := Lib.hid (mkBad_ok (N := N) h1 h2 h3 h4 h5)
  have HCD := Lib.hid (mkS_cd p N len h1 h2 h3 h4 h5)
  have HRC := Lib.hid (fun w => cd_any (mkS p N len) (by have := HCD.out.1; omega) w)
  have hWi : len - 1 - (p.size : Int) = ((mkw p len : Nat) : Int) := by unfold mkw; omega
  have HW9 := Lib.hid (show 1 ≤ mkw p len ∧ mkw p len ≤ 17 by unfold mkw; omega)
  have HDi := Lib.hid (digits_any N HN (mkw p len) (by have := HW9.out; omega) w hT)
  have HMS := Lib.hid (show mkS p N len = p ++ bst (dgw (mkw p len) N) from rfl)
  have hsi : (p.size : Int) ≤ 10 := by omega
  have hsj : (1 : Int) ≤ (p.size : Int) := by omega
  have hN0 : decide ((N : Int) < 0) = false := decide_eq_false (by omega)
  have c1 : decide (len < 12) = false := decide_eq_false (by omega)
  have c2 : decide (19 < len) = false := decide_eq_false (by omega)
  have hDL := Lib.hid (show (Lib.decDigits N).length ≤ 19 from (dec_len' 18 N (by have := HN.out; exact Nat.lt_of_le_of_lt this (by decide))).2)
  have HPL := Lib.hid (pad_len (mkw p len) N)
  have HPF := Lib.hid (pad_fits (mkw p len) N HW9.out.1)
  have HPN := Lib.hid (pad_long (mkw p len) N)
  have HWI := Lib.hid hWi
  clear h5 h3 hT
  by_cases hn : N < 10 ^ mkw p len
  · obtain ⟨hE, hV⟩ := mkGood_of (HBad.out.trans (decide_eq_false (by omega)))
    rw [hE, hV]
    rw [HPF.out hn] at HDi
    have hsz := bst_size (dgw (mkw p len) N)
    rw [dgw_len] at hsz
    obtain ⟨k1, k2, k3, k4, k5⟩ := HCD.out
    rw [k3] at HRC
    rw [HMS.out] at HRC k4 k5 ⊢
    generalize bst (dgw (mkw p len) N) = S at *
    have c6 : decide (((mkw p len : Nat) : Int) < (S.size : Int)) = false := decide_eq_false (by omega)
    have c6b : ¬ mkw p len < S.size := by omega
    have hS100 : S.size ≤ 100 := by have := HW9.out; omega
    have hps : (p ++ S).size ≤ 100 := by rw [ByteArray.size_append]; have := HW9.out; omega
    generalize cdV (p ++ S) = c at *
    have HEN := Lib.hid (enc_d1 c (by omega))
    have hen : (Utf8.encode c).size ≤ 100 := by rw [HEN.out, d1_size]; omega
    rw [← HEN.out]
    clear hE hV k1 k2 k3 hsz
    generalize mkw p len = W at *
    go_enter Tryd.func21, Tryd.ntmps21
    go_wp2_with (go_at_call 36; refine (RD.out _).mono ?_; rintro e w' ⟨rfl, rfl⟩)
    refine HDi.out.mono ?_
    rintro e w1 ⟨rfl, hb1⟩
    have HB1 := Lib.hid hb1
    clear hb1
    go_wp2_with fail
    refine (HRC.out _).mono ?_
    rintro e w2 ⟨rfl, hb2⟩
    have HB2 := Lib.hid (below_call HB1.out hb2)
    clear hb2
    go_wp2_with fail
    exact bodyPost_ret (v := .tuple #[.string (p ++ S ++ Utf8.encode c), .int .i64 0]) (by simp [results, Tryd.results21, go_sem]) rfl ⟨rfl, HB2.out⟩
  · obtain ⟨hE, hV⟩ := mkBad_of (HBad.out.trans (decide_eq_true (by omega)))
    rw [hE, hV]
    have hlong := HPN.out hn
    have hsz := bst_size (padL (mkw p len) (Lib.decDigits N))
    have hpl := HPL.out
    generalize padL (mkw p len) (Lib.decDigits N) = L at *
    generalize bst L = S at *
    have c6 : decide (((mkw p len : Nat) : Int) < (S.size : Int)) = true := decide_eq_true (by omega)
    have c6b : mkw p len < S.size := by omega
    have hS100 : S.size ≤ 100 := by have := HW9.out; have := hDL.out; omega
    clear hE hV hsz hlong hpl
    generalize mkw p len = W at *
    go_enter Tryd.func21, Tryd.ntmps21
    go_wp2_with (go_at_call 36; refine (RD.out _).mono ?_; rintro e w' ⟨rfl, rfl⟩)
    refine HDi.out.mono ?_
    rintro e w1 ⟨rfl, hb1⟩
    have HB1 := Lib.hid hb1
    clear hb1
    go_wp2_with fail
    exact bodyPost_ret (v := .tuple #[.string ⟨#[]⟩, .int .i64 4]) (by simp [results, Tryd.results21, go_sem]) rfl ⟨rfl, HB1.out⟩
end Go.Proofs.YtagfimemiggnlaaDoor
