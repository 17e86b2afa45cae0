/- Reduce of both. -/
import Derived.Test.YtpabgmdgoghahaaDoorB
import Derived.BigQuiet
import Derived.Deep.QuietTactic
set_option linter.unusedVariables false
set_option linter.unusedSimpArgs false
namespace Go.Proofs.YtpabgmdgoghahaaDoor
open Go.Sort Go.ChangeShapes Go.WideShapes Go.ChangeAt Go.RowKit
def gcdI (a b : Int) : Int := (Nat.gcd a.toNat b.toNat : Nat)
theorem gcdI_zero (a : Int) (h : 0 ≤ a) : gcdI a 0 = a := by unfold gcdI; simp; omega
theorem gcdI_step (a b : Int) (ha : 0 ≤ a) (hb : 0 < b) : gcdI b (a % b) = gcdI a b := by
  unfold gcdI
  congr 1
  obtain ⟨x, rfl⟩ := Int.eq_ofNat_of_zero_le ha
  obtain ⟨y, rfl⟩ := Int.eq_ofNat_of_zero_le (Int.le_of_lt hb)
  rw [← Int.natCast_emod]
  simp only [Int.toNat_natCast]
  rw [Nat.gcd_comm x y, Nat.gcd_rec y x, Nat.gcd_comm]
theorem gcdI_pos (a b : Int) (ha : 0 < a) : 0 < gcdI a b := by
  unfold gcdI
  have := Nat.gcd_pos_of_pos_left b.toNat (show 0 < a.toNat by omega)
  omega
theorem gcdI_le (a b : Int) (ha : 0 < a) : gcdI a b ≤ a := by
  unfold gcdI
  have := Nat.gcd_le_left b.toNat (show 0 < a.toNat by omega)
  omega
def redN (n d : Int) : Int := if n < 1 ∨ d < 1 then n else n / gcdI n d
def redD (n d : Int) : Int := if n < 1 ∨ d < 1 then d else d / gcdI n d
theorem ret2_of {a b c d : Int} (h1 : a = c) (h2 : b = d) : Ending.returned (Value.tuple #[.int .i64 a, .int .i64 b]) = .returned (.tuple #[.int .i64 c, .int .i64 d]) := by rw [h1, h2]
theorem divisor_any (a b : Int) (w : World) (ha : 0 < a) (hb : 0 < b) (ha2 : a ≤ 9223372036854775807) (hb2 : b ≤ 9223372036854775807) :
    Calls Tryd.prog 29 #[.int .i64 a, .int .i64 b] w fun e w' => e = .returned (.int .i64 (gcdI a b)) ∧ w = w' := by
  go_enter Tryd.func29, Tryd.ntmps29
  go_wp2_with fail
  go_loop [0, 1] (fun x y => ∃ p q : Int, 0 ≤ p ∧ 0 ≤ q ∧ (0 < p ∨ 0 < q) ∧ p ≤ 9223372036854775807 ∧ q ≤ 9223372036854775807 ∧ x = .int .i64 p ∧ y = .int .i64 q ∧ Hid (gcdI p q = gcdI a b)) (fun _ y => (intOf y).toNat)
  case atStart => exact ⟨a, b, by omega, by omega, by omega, ha2, hb2, rfl, rfl, Lib.hid rfl⟩
  case round =>
    obtain ⟨p, q, hp, hq, hpq, hp2, hq2, rfl, rfl, hg⟩ := hrel
    by_cases hq0 : q = 0
    · subst hq0
      have HG := Lib.hid (hg.out.symm.trans (gcdI_zero p hp))
      clear hg hpq
      go_wp2_with fail
      go_ret
      exact ⟨by rw [HG.out]; rfl, rfl⟩
    · have hq1 : (q != 0) = true := by rw [bne_iff_ne]; exact hq0
      have hq3 : 0 < q := by omega
      have hm0 : 0 ≤ p % q := Int.emod_nonneg _ hq0
      have hm1 : p % q < q := Int.emod_lt_of_pos _ hq3
      have hm2 : p % q ≤ 9223372036854775807 := by omega
      have HG := Lib.hid ((gcdI_step p q hp hq3).trans hg.out)
      clear hg hpq
      have hq4 : (q == 0) = false := beq_eq_false_iff_ne.2 hq0
      go_wp2_with fail
      go_round
      case rel => exact ⟨q, p % q, by omega, hm0, Or.inl hq3, hq2, hm2, rfl, rfl, HG⟩
      case measure => simp [intOf]; omega
set_option maxHeartbeats 1000000 in
theorem reduce_any (n d : Int) (w : World) (hn2 : n ≤ 9223372036854775807) (hd2 : d ≤ 9223372036854775807) :
    Calls Tryd.prog 11 #[.int .i64 n, .int .i64 d] w fun e w' => e = .returned (.tuple #[.int .i64 (redN n d), .int .i64 (redD n d)]) ∧ Below w.heap.size w w' := by
  by_cases hn : n < 1
  · have e1 : redN n d = n := if_pos (Or.inl hn)
    have e2 : redD n d = d := if_pos (Or.inl hn)
    rw [e1, e2]; clear e1 e2
    go_enter Tryd.func11, Tryd.ntmps11
    go_wp2_with fail
    go_ret2
    exact ⟨rfl, Below.refl _ _⟩
  · by_cases hd : d < 1
    · have e1 : redN n d = n := if_pos (Or.inr hd)
      have e2 : redD n d = d := if_pos (Or.inr hd)
      rw [e1, e2]; clear e1 e2
      go_enter Tryd.func11, Tryd.ntmps11
      go_wp2_with fail
      go_ret2
      exact ⟨rfl, Below.refl _ _⟩
    · have e1 : redN n d = n / gcdI n d := if_neg (by omega)
      have e2 : redD n d = d / gcdI n d := if_neg (by omega)
      rw [e1, e2]; clear e1 e2
      have n1 : 1 ≤ n := by omega
      have d1 : 1 ≤ d := by omega
      go_enter Tryd.func11, Tryd.ntmps11
      go_wp2_with fail
      go_loopw [6, 7] (fun x y wr => ∃ p q : Int, 0 ≤ p ∧ 0 ≤ q ∧ (0 < p ∨ 0 < q) ∧ p ≤ 9223372036854775807 ∧ q ≤ 9223372036854775807 ∧ x = .int .i64 p ∧ y = .int .i64 q ∧ Hid (gcdI p q = gcdI n d) ∧ Below w.heap.size w wr) (fun _ y _ => (intOf y).toNat)
      case atStart => exact ⟨n, d, by omega, by omega, by omega, hn2, hd2, rfl, rfl, Lib.hid rfl, Below.refl _ _⟩
      case round =>
        obtain ⟨p, q, hp, hq, hpq, hp2, hq2, rfl, rfl, hg, hB⟩ := hrel
        have HB := Lib.hid hB
        clear hB
        by_cases hq0 : q = 0
        · subst hq0
          have hp1 : 1 ≤ p := by omega
          have HG := Lib.hid (hg.out.symm.trans (gcdI_zero p hp))
          have HP := Lib.hid (gcdI_le n d (by omega))
          have hp0 : (p == 0) = false := beq_eq_false_iff_ne.2 (by omega)
          clear hg hpq
          go_wp2_with fail
          go_region
          go_wp2_with fail
          go_ret2
          exact ⟨by rw [HG.out]; rfl, HB.out.drew⟩
        · have hq1 : (q != 0) = true := by rw [bne_iff_ne]; exact hq0
          have hq3 : 0 < q := by omega
          have hm0 : 0 ≤ p % q := Int.emod_nonneg _ hq0
          have hm1 : p % q < q := Int.emod_lt_of_pos _ hq3
          have hm2 : p % q ≤ 9223372036854775807 := by omega
          have HG := Lib.hid ((gcdI_step p q hp hq3).trans hg.out)
          clear hg hpq
          have hq4 : (q == 0) = false := beq_eq_false_iff_ne.2 hq0
          go_wp2_with fail
          go_region
          go_wp2_with fail
          go_roundw
          case rel => exact ⟨q, p % q, by omega, hm0, Or.inl hq3, hq2, hm2, rfl, rfl, HG, HB.out.drew⟩
          case measure => simp [intOf]; omega
set_option maxHeartbeats 1000000 in
theorem rreduce_any (n d : Int) (w : World) (hn2 : n ≤ 9223372036854775807) (hd2 : d ≤ 9223372036854775807) :
    Calls Tryd.prog 12 #[.int .i64 n, .int .i64 d] w fun e w' => e = .returned (.tuple #[.int .i64 (redN n d), .int .i64 (redD n d)]) ∧ Below w.heap.size w w' := by
  by_cases hn : n < 1
  · have e1 : redN n d = n := if_pos (Or.inl hn)
    have e2 : redD n d = d := if_pos (Or.inl hn)
    rw [e1, e2]; clear e1 e2
    go_enter Tryd.func12, Tryd.ntmps12
    go_wp2_with fail
    go_ret2
    exact ⟨rfl, Below.refl _ _⟩
  · by_cases hd : d < 1
    · have e1 : redN n d = n := if_pos (Or.inr hd)
      have e2 : redD n d = d := if_pos (Or.inr hd)
      rw [e1, e2]; clear e1 e2
      go_enter Tryd.func12, Tryd.ntmps12
      go_wp2_with fail
      go_ret2
      exact ⟨rfl, Below.refl _ _⟩
    · have e1 : redN n d = n / gcdI n d := if_neg (by omega)
      have e2 : redD n d = d / gcdI n d := if_neg (by omega)
      rw [e1, e2]; clear e1 e2
      have n1 : 1 ≤ n := by omega
      have d1 : 1 ≤ d := by omega
      have HD : Hid (∀ w, _) := Lib.hid (fun w => divisor_any n d w (by omega) (by omega) hn2 hd2)
      have g0 := gcdI_pos n d (by omega)
      have g1 := gcdI_le n d (by omega)
      generalize gcdI n d = p at *
      have hp1 : 1 ≤ p := by omega
      have hp2 : p ≤ 9223372036854775807 := by omega
      have hp0 : (p == 0) = false := beq_eq_false_iff_ne.2 (by omega)
      go_enter Tryd.func12, Tryd.ntmps12
      go_wp2_with fail
      refine (HD.out _).mono ?_
      rintro e w1 ⟨rfl, rfl⟩
      go_wp2_with fail
      go_region
      go_wp2_with fail
      go_ret2
      exact ⟨rfl, (Below.refl _ _).drew⟩
/-- in lowest terms: what is left is in its range -/
theorem red_range (n d : Int) (hn : 1 ≤ n) (hd : 1 ≤ d) : 1 ≤ redN n d ∧ redN n d ≤ n ∧ 1 ≤ redD n d ∧ redD n d ≤ d := by
  have e1 : redN n d = n / gcdI n d := if_neg (by omega)
  have e2 : redD n d = d / gcdI n d := if_neg (by omega)
  have g0 := gcdI_pos n d (by omega)
  have g1 := gcdI_le n d (by omega)
  have g2 : gcdI n d ≤ d := by
    unfold gcdI
    have := Nat.gcd_le_right n.toNat (show 0 < d.toNat by omega)
    omega
  rw [e1, e2]
  refine ⟨?_, Int.ediv_le_self _ (by omega), ?_, Int.ediv_le_self _ (by omega)⟩
  · exact (Int.le_ediv_iff_mul_le g0).2 (by omega)
  · exact (Int.le_ediv_iff_mul_le g0).2 (by omega)
end Go.Proofs.YtpabgmdgoghahaaDoor
