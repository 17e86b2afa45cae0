/- OnesCount64: how many bits a number has. -/
import Derived.Test.YtfiingnanofneaaDoorPop
import Derived.Test.YtfiingnanofneaaDoorO
import Derived.Laws.Bits128
set_option linter.unusedVariables false
set_option linter.unusedSimpArgs false
namespace Go.Proofs.YtfiingnanofneaaDoor
open Go.Sort Go.ChangeShapes Go.WideShapes Go.ChangeAt Go.RowKit
open pop
theorem wrapN (a : Nat) (ha : a < B64) : IntKind.u64.wrap (a : Int) = (a : Int) := by rw [IntKind.wrap_u64]; unfold B64 at ha; omega
theorem and_le_c (a c : Nat) : a &&& c ≤ c := Nat.and_le_right
theorem e_s1 (x : Nat) (hx : x < B64) : IntKind.u64.wrap (bits .and .u64 ((x : Int) / 2) 6148914691236517205 + bits .and .u64 (x : Int) 6148914691236517205) = ((s1 8 x : Nat) : Int) ∧ s1 8 x ≤ 12297829382473034410 := by
  have h2 : x / 2 < B64 := by unfold B64 at *; omega
  have c1 := and_le_c (x / 2) 6148914691236517205
  have c2 := and_le_c x 6148914691236517205
  have hm : m0 8 = 6148914691236517205 := rfl
  have e : s1 8 x = (x / 2 &&& 6148914691236517205) + (x &&& 6148914691236517205) := by unfold s1; rw [hm]
  rw [e]
  refine ⟨?_, by omega⟩
  rw [show ((x : Int) / 2) = ((x / 2 : Nat) : Int) from by omega, show (6148914691236517205 : Int) = ((6148914691236517205 : Nat) : Int) from rfl, u64_and_nat _ _ h2 (by decide), u64_and_nat _ _ hx (by decide), ← Int.natCast_add, wrapN _ (by unfold B64; omega)]
theorem e_s2 (x : Nat) (hx : x < B64) : IntKind.u64.wrap (bits .and .u64 ((x : Int) / 4) 3689348814741910323 + bits .and .u64 (x : Int) 3689348814741910323) = ((s2 8 x : Nat) : Int) ∧ s2 8 x ≤ 7378697629483820646 := by
  have h2 : x / 4 < B64 := by unfold B64 at *; omega
  have c1 := and_le_c (x / 4) 3689348814741910323
  have c2 := and_le_c x 3689348814741910323
  have hm : m1 8 = 3689348814741910323 := rfl
  have e : s2 8 x = (x / 4 &&& 3689348814741910323) + (x &&& 3689348814741910323) := by unfold s2; rw [hm]
  rw [e]
  refine ⟨?_, by omega⟩
  rw [show ((x : Int) / 4) = ((x / 4 : Nat) : Int) from by omega, show (3689348814741910323 : Int) = ((3689348814741910323 : Nat) : Int) from rfl, u64_and_nat _ _ h2 (by decide), u64_and_nat _ _ hx (by decide), ← Int.natCast_add, wrapN _ (by unfold B64; omega)]
theorem e_s3 (x : Nat) (hx : x ≤ 7378697629483820646) : bits .and .u64 (IntKind.u64.wrap ((x : Int) / 16 + (x : Int))) 1085102592571150095 = ((s3 8 x : Nat) : Int) := by
  have hm : m2 8 = 1085102592571150095 := rfl
  have e : s3 8 x = (x / 16 + x) &&& 1085102592571150095 := by unfold s3; rw [hm]
  rw [e, show ((x : Int) / 16 + (x : Int)) = ((x / 16 + x : Nat) : Int) from by omega, wrapN _ (by unfold B64; omega), show (1085102592571150095 : Int) = ((1085102592571150095 : Nat) : Int) from rfl, u64_and_nat _ _ (by omega) (by decide)]
theorem e_f1 (x : Nat) (hx : x ≤ 578721382704613384) : IntKind.u64.wrap ((x : Int) + (x : Int) / 256) = ((f1 x : Nat) : Int) ∧ f1 x ≤ 580982013106484412 := by
  unfold f1
  refine ⟨?_, by omega⟩
  rw [show ((x : Int) + (x : Int) / 256) = ((x + x / 256 : Nat) : Int) from by omega, wrapN _ (by unfold B64; omega)]
theorem e_f2 (x : Nat) (hx : x ≤ 580982013106484412) : IntKind.u64.wrap ((x : Int) + (x : Int) / 65536) = ((f2 x : Nat) : Int) ∧ f2 x ≤ 580990878188486420 := by
  unfold f2
  refine ⟨?_, by omega⟩
  rw [show ((x : Int) + (x : Int) / 65536) = ((x + x / 65536 : Nat) : Int) from by omega, wrapN _ (by unfold B64; omega)]
theorem e_f3 (x : Nat) (hx : x ≤ 580990878188486420) : IntKind.u64.wrap ((x : Int) + (x : Int) / 4294967296) = ((f3 x : Nat) : Int) ∧ f3 x ≤ 580990878323759051 := by
  unfold f3
  refine ⟨?_, by omega⟩
  rw [show ((x : Int) + (x : Int) / 4294967296) = ((x + x / 4294967296 : Nat) : Int) from by omega, wrapN _ (by unfold B64; omega)]
set_option maxRecDepth 20000 in
theorem ones_any (x : Nat) (hx : x < B64) (w : World) : Calls Tryd.prog 34 #[.int .u64 x] w fun e w' => e = .returned (.int .i64 ((popN 64 x : Nat) : Int)) ∧ w = w' := by
  obtain ⟨h1, k1⟩ := e_s1 x hx
  obtain ⟨h2, k2⟩ := e_s2 (s1 8 x) (by unfold B64; omega)
  have h3 := e_s3 (s2 8 (s1 8 x)) k2
  have hsp := s3_spread 8 x
  have k3 := spread_le x
  have hfin := fin_spread x
  rw [hsp] at h3
  generalize spread 8 x = C at *
  generalize s2 8 (s1 8 x) = B at *
  generalize s1 8 x = A at *
  obtain ⟨h4, k4⟩ := e_f1 C k3
  obtain ⟨h5, k5⟩ := e_f2 (f1 C) k4
  obtain ⟨h6, k6⟩ := e_f3 (f2 (f1 C)) k5
  generalize f3 (f2 (f1 C)) = F at *
  generalize f2 (f1 C) = E at *
  generalize f1 C = D at *
  generalize popN 64 x = R at *
  have HF := Lib.hid hfin
  have k6' : (F : Int) ≤ 9223372036854775807 := by omega
  clear hsp hfin k1 k2 k3 k4 k5 k6 hx
  go_enter Tryd.func34, Tryd.ntmps34
  go_wp2_with fail
  go_ret
  exact ⟨by rw [i64_and127, ← HF.out]; rfl, rfl⟩
theorem popN_same (f y : Nat) (h : y < 2 ^ f) : popN (f + 1) y = popN f y := by
  induction f generalizing y with
  | zero => rw [show y = 0 from by simpa using h]; rfl
  | succ f ih =>
    have := ih (y / 2) (by rw [Nat.pow_succ] at h; omega)
    show y % 2 + popN (f + 1) (y / 2) = y % 2 + popN f (y / 2)
    rw [this]
/-- one bit more -/
theorem popN_bit (g x i : Nat) (hy : x / 2 ^ (i + 1) < 2 ^ g) : popN (g + 1) (x / 2 ^ i) = popN (g + 1) (x / 2 ^ (i + 1)) + (x.testBit i).toNat := by
  have e : x / 2 ^ (i + 1) = x / 2 ^ i / 2 := by rw [Nat.pow_succ, Nat.div_div_eq_div_mul]
  rw [popN_same g _ hy, pS g, ← e]
  rw [Nat.testBit_eq_decide_div_mod_eq]
  generalize x / 2 ^ i = z
  rcases Nat.mod_two_eq_zero_or_one z with h | h <;> simp [h] <;> omega
theorem len_succ (a b k : Nat) : (nums a b (k + 1)).length = (nums a b k).length + (hasB a b (2 + k)).toNat := by
  rw [nums_succ, List.length_append]
  cases hasB a b (2 + k) <;> rfl
theorem popN_zero (f : Nat) : popN f 0 = 0 := by
  induction f with
  | zero => rfl
  | succ f ih => rw [pS, Nat.zero_div, ih]
theorem len_low (g a b k : Nat) (hg : 63 ≤ g) (hk : k ≤ 63) : (nums a b k).length = popN (g + 1) (a % B63 / 2 ^ (63 - k)) := by
  have hlt : a % B63 < 2 ^ 63 := Nat.mod_lt _ (by decide)
  have hgg : 2 ^ 63 ≤ 2 ^ g := Nat.pow_le_pow_right (by decide) hg
  induction k with
  | zero => rw [Nat.sub_zero, Nat.div_eq_of_lt hlt, popN_zero]; rfl
  | succ k ih =>
    rw [len_succ, ih (by omega)]
    obtain ⟨i, hi⟩ : ∃ i, 63 - (k + 1) = i := ⟨_, rfl⟩
    rw [hi, show 63 - k = i + 1 from by omega, popN_bit g (a % B63) i (Nat.lt_of_lt_of_le (Nat.lt_of_le_of_lt (Nat.div_le_self _ _) hlt) hgg)]
    congr 2
    unfold hasB
    rw [if_pos (by omega), mod63_bit, show 64 - (2 + k) = i from by omega]
    simp
    omega
theorem len_high (g a b j : Nat) (hg : 63 ≤ g) (hb : b < B64) (hj : j ≤ 64) : (nums a b (63 + j)).length = popN (g + 1) (a % B63) + popN (g + 1) (b / 2 ^ (64 - j)) := by
  have hgg : 2 ^ 63 ≤ 2 ^ g := Nat.pow_le_pow_right (by decide) hg
  induction j with
  | zero =>
    rw [Nat.add_zero, len_low g a b 63 hg (Nat.le_refl _), Nat.sub_zero, Nat.div_eq_of_lt (show b < 2 ^ 64 from hb), popN_zero, Nat.sub_self, Nat.pow_zero, Nat.div_one]
    exact (Nat.add_zero _).symm
  | succ j ih =>
    rw [show 63 + (j + 1) = 63 + j + 1 from rfl, len_succ, ih (by omega)]
    obtain ⟨i, hi⟩ : ∃ i, 64 - (j + 1) = i := ⟨_, rfl⟩
    have h2 : 2 ≤ 2 ^ (i + 1) := by have := Nat.pow_pos (n := i) (show 0 < 2 by decide); rw [Nat.pow_succ]; omega
    have hlt : b / 2 ^ (i + 1) < 2 ^ 63 := by
      have h3 : b / 2 ^ (i + 1) ≤ b / 2 := Nat.div_le_div_left h2 (by decide)
      unfold B64 at hb
      omega
    rw [hi, show 64 - j = i + 1 from by omega, popN_bit g b i (Nat.lt_of_lt_of_le hlt hgg), Nat.add_assoc]
    congr 3
    unfold hasB
    rw [if_neg (by omega), show 128 - (2 + (63 + j)) = i from by omega]
theorem pop_nums (a b : Nat) (hb : b < B64) : popN 64 (a % B63) + popN 64 b = (nums a b 127).length := by
  have h := len_high 63 a b 64 (Nat.le_refl _) hb (Nat.le_refl _)
  rw [Nat.sub_self, Nat.pow_zero, Nat.div_one] at h
  exact h.symm
end Go.Proofs.YtfiingnanofneaaDoor
