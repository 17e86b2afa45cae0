/- Digits and Format. -/
import Derived.Test.YtompeealmgdfhaaDoorW
set_option linter.unusedVariables false
set_option linter.unusedSimpArgs false
namespace Go.Proofs.YtompeealmgdfhaaDoor
open Go.Sort Go.ChangeShapes Go.WideShapes Go.ChangeAt Go.RowKit
open div
def bst (l : List UInt8) : ByteArray := ⟨l.toArray⟩
theorem bst_size (l : List UInt8) : (bst l).size = l.length := by simp [bst, ByteArray.size]
theorem bst_cons (c : UInt8) (l : List UInt8) : (⟨#[c]⟩ : ByteArray) ++ bst l = bst (c :: l) := by
  apply ByteArray.ext
  simp [bst]
def padL (n : Nat) (l : List UInt8) : List UInt8 := List.replicate (n - l.length) 48 ++ l
theorem fi_call (n : Int) (h0 : 0 ≤ n) (h1 : n ≤ 4503599627370496) (w : World) (h : TabP w) :
    Calls Tryd.prog 58 #[.int .i64 n, .int .i64 10] w fun e w' => e = .returned (.string (bst (Lib.itoa n))) ∧ Below w.heap.size w w' :=
  (Tryd.strconv_FormatInt_10 n (by omega) (by omega) w h).mono fun e w' ⟨he, k, os, hw⟩ => ⟨he, hw ▸ Lib.below_grow w.heap.size w (Nat.le_refl _) k os⟩
set_option maxHeartbeats 1000000 in
theorem digits_any (n : Int) (h0 : 0 ≤ n) (h1 : n ≤ 4503599627370496) (wd : Nat) (hw : wd ≤ 4) (w : World) (h : TabP w) :
    Calls Tryd.prog 48 #[.int .i64 n, .int .i64 wd] w fun e w' => e = .returned (.string (bst (padL wd (Lib.itoa n)))) ∧ Below w.heap.size w w' := by
  have HC := Lib.hid (fi_call n h0 h1 w h)
  unfold padL
  generalize Lib.itoa n = F at *
  clear h h0 h1
  have HW := Lib.hid hw
  clear hw
  go_enter Tryd.func48, Tryd.ntmps48
  go_wp2_with fail
  refine HC.out.mono ?_
  rintro e w1 ⟨rfl, hb⟩
  have HB := Lib.hid hb
  clear hb
  go_wp2_with fail
  go_loopg [5] (wd - F.length) (fun g s5 wr => wr = w1 ∧ ∃ j, g + j = wd - F.length ∧ s5 = .string (bst (List.replicate j 48 ++ F)))
  case atStart => exact ⟨rfl, 0, by omega, rfl⟩
  case round =>
    obtain ⟨rfl, j, hj, rfl⟩ := hrel
    have hsz := bst_size (List.replicate j 48 ++ F)
    rw [List.length_append, List.length_replicate] at hsz
    generalize hS : bst (List.replicate j 48 ++ F) = S at *
    have HS := Lib.hid hS
    have HJ := Lib.hid hj
    have hsize : S.size = j + F.length := hsz
    clear hS hsz hj
    by_cases hlt : j < wd - F.length
    · have g1 : (S.size : Int) < (wd : Int) := by have := HW.out; omega
      have g2 : S.size ≤ 100 := by have := HW.out; omega
      clear hsize
      go_wp2_with fail
      go_roundg (gk - 1)
      case measure => have := HJ.out; omega
      case rel => exact ⟨rfl, j + 1, by have := HJ.out; omega, by rw [← HS.out, bst_cons, ← List.cons_append, ← List.replicate_succ]⟩
    · have g1 : ¬ (S.size : Int) < (wd : Int) := by have := HJ.out; omega
      clear hsize
      go_wp2_with fail
      go_ret
      have hjk : j = wd - F.length := by have := HJ.out; omega
      exact ⟨by rw [← HS.out, hjk]; rfl, HB.out⟩
def fm1 (S : ByteArray) (p : Nat) : ByteArray := if 0 < p then S.extract 0 (S.size - p) ++ ⟨#[46]⟩ ++ S.extract (S.size - p) S.size else S
def fm2 (a : Int) (T : ByteArray) : ByteArray := if a < 0 then ⟨#[45]⟩ ++ T else T
def digS (a : Int) (p : Nat) : ByteArray := bst (padL (p + 1) (Lib.itoa (a.natAbs : Nat)))
def fmtS (a : Int) (c : ByteArray) (p : Nat) : ByteArray := fm2 a (fm1 (digS a p) p) ++ ⟨#[32]⟩ ++ c
theorem fmt_no (a : Int) (c : ByteArray) (hc : c.size ≤ maxLen) (hx : (mchk a c == 0) = false) (w : World) :
    Calls Tryd.prog 27 #[mo a c] w fun e w' => e = .returned (.string ⟨#[]⟩) ∧ Below w.heap.size w w' := by
  have HA := Lib.hid (fun w => mcheck_any a c hc w)
  unfold mo at *
  generalize mchk a c = x at *
  have hx2 : (x != 0) = true := by rw [bne, hx]; rfl
  clear hc
  go_enter Tryd.func27, Tryd.ntmps27
  go_wp2_with fail
  refine (HA.out _).mono ?_
  rintro e w1 ⟨rfl, hb⟩
  obtain ⟨d1, o1, rfl⟩ := regrow_of hb
  clear hb
  go_wp2_with fail
  go_ret
  exact ⟨rfl, by repeat (first | exact Below.refl _ _ | refine al ?_ | refine bre ?_ _ _)⟩
theorem dec_len' (k u : Nat) (hu : u < 10 ^ (k + 1)) : 1 ≤ (Lib.decDigits u).length ∧ (Lib.decDigits u).length ≤ k + 1 := by
  induction k generalizing u with
  | zero => rw [Lib.decDigits, dif_pos (by simpa using hu)]; simp
  | succ k ih =>
    rw [Lib.decDigits]
    split
    · simp
    · have := ih (u / 10) (by rw [Nat.pow_succ] at hu; exact Nat.div_lt_of_lt_mul (by omega))
      simp only [List.length_append, List.length_cons, List.length_nil]
      omega
theorem itoa_nat (u : Nat) : Lib.itoa (u : Int) = Lib.decDigits u := by unfold Lib.itoa; rw [if_neg (by omega)]; simp
theorem dig_size (a : Int) (p : Nat) (h0 : -4503599627370496 ≤ a) (h1 : a ≤ 4503599627370496) (hp : p ≤ 3) : p + 1 ≤ (digS a p).size ∧ (digS a p).size ≤ 20 := by
  have := dec_len' 15 a.natAbs (Nat.lt_of_le_of_lt (show a.natAbs ≤ 4503599627370496 by omega) (by decide))
  unfold digS padL
  rw [itoa_nat, bst_size, List.length_append, List.length_replicate]
  omega
set_option maxHeartbeats 4000000 in
set_option maxRecDepth 20000 in
theorem fmt_yes (a : Int) (c : ByteArray) (hc : c.size ≤ 3) (hx : mchk a c = 0) (w : World) (hX : XT w) (hP : TabP w) :
    Calls Tryd.prog 27 #[mo a c] w fun e w' => e = .returned (.string (fmtS a c (exV c).toNat)) ∧ Below w.heap.size w w' := by
  obtain ⟨hcl, a0, a1⟩ := mchk_zero hx
  have hcm : c.size ≤ maxLen := by unfold maxLen; omega
  have HA := Lib.hid (fun w => mcheck_ok a c hcm hcl a0 a1 w)
  have HX := Lib.hid (fun w h => expo_yes c hcm hcl w h)
  have HM := Lib.hid (fun w => magn_any a a0 a1 w)
  obtain ⟨p, hp⟩ : ∃ p : Nat, exV c = p := ⟨(exV c).toNat, by have := exF_in c 10 0; unfold exV; omega⟩
  have hp3 : p ≤ 3 := by have := exF_in c 10 0; unfold exV at hp; omega
  rw [hp] at HX ⊢
  rw [Int.toNat_natCast]
  have HD := Lib.hid (fun w h => digits_any (a.natAbs : Nat) (by omega) (by omega) (p + 1) (by omega) w h)
  obtain ⟨z0, z1⟩ := dig_size a p a0 a1 hp3
  have hw1 : IntKind.i64.wrap (p : Int) = p := by rw [IntKind.wrap_i64]; omega
  have hN : IntKind.i64.wrap ((a.natAbs : Nat) : Int) = ((a.natAbs : Nat) : Int) := by rw [IntKind.wrap_i64]; omega
  have hp1 : (((p + 1 : Nat)) : Int) = (p : Int) + 1 := by omega
  rw [hp1] at HD
  have HT := Lib.hid hX
  have HQ := Lib.hid hP
  unfold fmtS fm1 fm2
  unfold digS at *
  unfold mo at *
  generalize bst (padL (p + 1) (Lib.itoa (a.natAbs : Nat))) = S at *
  generalize ((a.natAbs : Nat) : Int) = N at *
  have hpi0 : 0 ≤ (p : Int) := by omega
  have hpi3 : (p : Int) ≤ 3 := by omega
  have s1 : (S.size : Int) ≤ 20 := by omega
  have s2 : (p : Int) + 1 ≤ (S.size : Int) := by omega
  have HPE := Lib.hid hp
  clear hp hp1 hX hP hcl hcm hx a0 a1 hp3
  by_cases hp0 : 0 < p
  · rw [if_pos hp0]
    have q1 : decide (0 < p) = true := decide_eq_true hp0
    have q2 : 0 ≤ (S.size : Int) - (p : Int) := by omega
    have q3 : (S.size : Int) - (p : Int) ≤ (S.size : Int) := by omega
    have q4 : ((S.size : Int) - (p : Int)).toNat = S.size - p := by omega
    have q5 : IntKind.i64.wrap ((S.size : Int) - (p : Int)) = (S.size : Int) - (p : Int) := by rw [IntKind.wrap_i64]; omega
    have q6 : (S.extract 0 (S.size - p)).size ≤ 20 := by rw [ByteArray.size_extract]; omega
    have q7 : (S.extract (S.size - p) S.size).size ≤ 20 := by rw [ByteArray.size_extract]; omega
    by_cases hn : a < 0
    · rw [if_pos hn]
      have hn1 : decide (a < 0) = true := decide_eq_true hn
      clear hn
      go_enter Tryd.func27, Tryd.ntmps27
      go_wp2_with fail
      refine (HA.out _).mono ?_
      rintro e w1 ⟨rfl, hb⟩
      obtain ⟨d1, o1, rfl⟩ := regrow_of hb
      clear hb
      go_wp2_with fail
      refine (HX.out _ (HT.out.call (below_call (al (Below.refl _ _)) (below_regrown _ _ _)))).mono ?_
      rintro e w2 ⟨rfl, hb⟩
      obtain ⟨d2, o2, rfl⟩ := regrow_of hb
      clear hb
      go_wp2_with fail
      refine (HM.out _).mono ?_
      rintro e q3 ⟨rfl, rfl⟩
      go_wp2_with fail
      refine (HD.out _ (HQ.out.call (by repeat (first | exact Below.refl _ _ | refine al ?_ | refine bre ?_ _ _)))).mono ?_
      rintro e w4 ⟨rfl, hb⟩
      obtain ⟨d4, o4, rfl⟩ := regrow_of hb
      clear hb
      go_wp2_with fail
      go_quiet (fail)
      go_wp2_with fail
      go_ret
      exact ⟨rfl, by repeat (first | exact Below.refl _ _ | refine al ?_ | refine bre ?_ _ _ | refine bdn ?_ _)⟩
    · rw [if_neg hn]
      have hn1 : decide (a < 0) = false := decide_eq_false hn
      clear hn
      go_enter Tryd.func27, Tryd.ntmps27
      go_wp2_with fail
      refine (HA.out _).mono ?_
      rintro e w1 ⟨rfl, hb⟩
      obtain ⟨d1, o1, rfl⟩ := regrow_of hb
      clear hb
      go_wp2_with fail
      refine (HX.out _ (HT.out.call (below_call (al (Below.refl _ _)) (below_regrown _ _ _)))).mono ?_
      rintro e w2 ⟨rfl, hb⟩
      obtain ⟨d2, o2, rfl⟩ := regrow_of hb
      clear hb
      go_wp2_with fail
      refine (HM.out _).mono ?_
      rintro e q3 ⟨rfl, rfl⟩
      go_wp2_with fail
      refine (HD.out _ (HQ.out.call (by repeat (first | exact Below.refl _ _ | refine al ?_ | refine bre ?_ _ _)))).mono ?_
      rintro e w4 ⟨rfl, hb⟩
      obtain ⟨d4, o4, rfl⟩ := regrow_of hb
      clear hb
      go_wp2_with fail
      go_quiet (fail)
      go_wp2_with fail
      go_ret
      exact ⟨rfl, by repeat (first | exact Below.refl _ _ | refine al ?_ | refine bre ?_ _ _ | refine bdn ?_ _)⟩
  · rw [if_neg hp0]
    have q1 : decide (0 < p) = false := decide_eq_false hp0
    by_cases hn : a < 0
    · rw [if_pos hn]
      have hn1 : decide (a < 0) = true := decide_eq_true hn
      clear hn
      go_enter Tryd.func27, Tryd.ntmps27
      go_wp2_with fail
      refine (HA.out _).mono ?_
      rintro e w1 ⟨rfl, hb⟩
      obtain ⟨d1, o1, rfl⟩ := regrow_of hb
      clear hb
      go_wp2_with fail
      refine (HX.out _ (HT.out.call (below_call (al (Below.refl _ _)) (below_regrown _ _ _)))).mono ?_
      rintro e w2 ⟨rfl, hb⟩
      obtain ⟨d2, o2, rfl⟩ := regrow_of hb
      clear hb
      go_wp2_with fail
      refine (HM.out _).mono ?_
      rintro e q3 ⟨rfl, rfl⟩
      go_wp2_with fail
      refine (HD.out _ (HQ.out.call (by repeat (first | exact Below.refl _ _ | refine al ?_ | refine bre ?_ _ _)))).mono ?_
      rintro e w4 ⟨rfl, hb⟩
      obtain ⟨d4, o4, rfl⟩ := regrow_of hb
      clear hb
      go_wp2_with fail
      go_ret
      exact ⟨rfl, by repeat (first | exact Below.refl _ _ | refine al ?_ | refine bre ?_ _ _ | refine bdn ?_ _)⟩
    · rw [if_neg hn]
      have hn1 : decide (a < 0) = false := decide_eq_false hn
      clear hn
      go_enter Tryd.func27, Tryd.ntmps27
      go_wp2_with fail
      refine (HA.out _).mono ?_
      rintro e w1 ⟨rfl, hb⟩
      obtain ⟨d1, o1, rfl⟩ := regrow_of hb
      clear hb
      go_wp2_with fail
      refine (HX.out _ (HT.out.call (below_call (al (Below.refl _ _)) (below_regrown _ _ _)))).mono ?_
      rintro e w2 ⟨rfl, hb⟩
      obtain ⟨d2, o2, rfl⟩ := regrow_of hb
      clear hb
      go_wp2_with fail
      refine (HM.out _).mono ?_
      rintro e q3 ⟨rfl, rfl⟩
      go_wp2_with fail
      refine (HD.out _ (HQ.out.call (by repeat (first | exact Below.refl _ _ | refine al ?_ | refine bre ?_ _ _)))).mono ?_
      rintro e w4 ⟨rfl, hb⟩
      obtain ⟨d4, o4, rfl⟩ := regrow_of hb
      clear hb
      go_wp2_with fail
      go_ret
      exact ⟨rfl, by repeat (first | exact Below.refl _ _ | refine al ?_ | refine bre ?_ _ _ | refine bdn ?_ _)⟩
end Go.Proofs.YtompeealmgdfhaaDoor
