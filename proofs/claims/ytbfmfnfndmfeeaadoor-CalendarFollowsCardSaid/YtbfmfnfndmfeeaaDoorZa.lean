/- Add. -/
import Derived.Test.YtbfmfnfndmfeeaaDoorZ
set_option linter.unusedVariables false
set_option linter.unusedSimpArgs false
namespace Go.Proofs.YtbfmfnfndmfeeaaDoor
open Go.Sort Go.ChangeShapes Go.WideShapes Go.ChangeAt Go.RowKit
open cal
/-- x is the first business day behind d -/
def IsNext (S : Int → Bool) (d x : Int) : Prop := d < x ∧ x ≤ 99999 ∧ bizB S x = true ∧ ∀ k, d < k → k < x → bizB S k = false
set_option maxHeartbeats 1000000 in
/-- f names the days that Add passes: f 0 = date, f (i + 1) the first business day behind f i -/
theorem add_any (C : Nat) (S : Int → Bool) (f : Nat → Int) (n : Nat) (hn0 : 1 ≤ n) (hn1 : n ≤ 1000) (h0 : bD (f 0) = true) (hf : ∀ i, i < n → 0 ≤ f i ∧ IsNext S (f i) (f (i + 1))) (w : World) (h : CalAt w C S) :
    Calls Tryd.prog 27 #[.pointer (some ⟨C, 0, none⟩), .int .i64 (f 0), .int .i64 n] w fun e w' => e = .returned (.tuple #[.int .i64 (f n), .int .i64 0]) ∧ Below w.heap.size w w' := by
  have HD : Hid (∀ w, _) := Lib.hid (fun w => isDate_any (f 0) w)
  rw [h0] at HD
  have HC := Lib.hid h
  have HF := Lib.hid hf
  obtain ⟨D, hD⟩ : ∃ D, f 0 = D := ⟨_, rfl⟩
  obtain ⟨U, hU⟩ : ∃ U, f n = U := ⟨_, rfl⟩
  have H0 := Lib.hid hD
  have HU := Lib.hid hU
  rw [hD] at HD
  rw [hD, hU]
  obtain ⟨N, hN⟩ : ∃ N : Int, (n : Int) = N := ⟨_, rfl⟩
  have HN := Lib.hid hN
  rw [hN]
  have n0 : 1 ≤ N := by omega
  have n1 : N ≤ 1000 := by omega
  have nz : (N == 0) = false := by rw [beq_eq_false_iff_ne]; omega
  clear h h0 hf hD hU hN hn0 hn1
  go_enter Tryd.func27, Tryd.ntmps27
  go_wp2_with fail
  refine (HD.out _).mono ?_
  rintro e w1 ⟨rfl, hb⟩
  have HB0 := Lib.hid hb
  clear hb
  go_wp2_with fail
  go_loopw [1, 31] (fun d x wr => ∃ (i : Nat) (I D : Int), Hid (i ≤ n) ∧ Hid ((i : Int) = I) ∧ x = .int .i64 I ∧ d = .int .i64 D ∧ Hid (f i = D) ∧ Below w.heap.size w wr) (fun _ x _ => (N - intOf x).toNat)
  case atStart => exact ⟨0, 0, D, Lib.hid (Nat.zero_le _), Lib.hid rfl, rfl, rfl, H0, HB0.out⟩
  case round =>
    obtain ⟨i, I, D, hi, hI, rfl, rfl, hDi, hB⟩ := hrel
    have HB := Lib.hid hB
    clear hB
    have i0 : 0 ≤ I := by have := hI.out; omega
    by_cases hin : i < n
    · have hlt : I < N := by have := hI.out; have := HN.out; omega
      obtain ⟨f0, fn⟩ := HF.out i hin
      obtain ⟨Y, hY⟩ : ∃ Y, f (i + 1) = Y := ⟨_, rfl⟩
      have HY := Lib.hid hY
      rw [hDi.out] at f0 fn
      rw [hY] at fn
      obtain ⟨x0, x1, x2, x3⟩ := fn
      have NX : Hid (∀ w, CalAt w C S → _) := Lib.hid (fun w h => next_hit C S (D + 1) Y (by omega) (by omega) x1 x2 (fun k a b => x3 k (by omega) b) w h)
      have HI2 := Lib.hid (show ((i + 1 : Nat) : Int) = I + 1 by have := hI.out; omega)
      have HIN := Lib.hid (show i + 1 ≤ n from hin)
      clear x2 x3 hY hi hI hDi hin
      go_wp2_with fail
      refine (NX.out _ (HC.out.call HB.out)).mono ?_
      rintro e w1 ⟨rfl, hb⟩
      have HB1 := Lib.hid (beI HB.out (Nat.le_refl _) hb)
      clear hb
      go_wp2_with fail
      go_round
      case rel => exact ⟨i + 1, I + 1, Y, HIN, HI2, rfl, rfl, HY, HB1.out⟩
      case measure => simp [intOf]; omega
    · have hge : N ≤ I := by have := hI.out; have := HN.out; omega
      have HV := Lib.hid (show D = U by rw [← hDi.out, ← HU.out]; congr 1; have := hi.out; omega)
      clear hi hI hDi hin
      go_wp2_with fail
      exact bodyPost_ret (v := .tuple #[.int .i64 D, .int .i64 0]) (by simp [results, Tryd.results27, go_sem]) rfl ⟨by rw [HV.out], HB.out⟩
end Go.Proofs.YtbfmfnfndmfeeaaDoor
