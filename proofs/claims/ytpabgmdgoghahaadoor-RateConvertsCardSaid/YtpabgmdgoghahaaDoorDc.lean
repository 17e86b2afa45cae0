/- Long division: the numbers, as the walk spells them. -/
import Derived.Test.YtpabgmdgoghahaaDoorDb
set_option linter.unusedVariables false
set_option linter.unusedSimpArgs false
namespace Go.Proofs.YtpabgmdgoghahaaDoor.div
open Go.Sort Go.ChangeShapes Go.WideShapes Go.ChangeAt Go.RowKit
theorem wrapS (a : Nat) (ha : a < 18446744073709551616) : IntKind.u64.wrap (a : Int) = (a : Int) := by rw [IntKind.wrap_u64]; omega
theorem wrapM (a : Nat) : IntKind.u64.wrap (a : Int) = ((a % 18446744073709551616 : Nat) : Int) := by rw [IntKind.wrap_u64]; omega
theorem maskN (a : Nat) (ha : a < 18446744073709551616) : bits .and .u64 (a : Int) 4294967295 = ((a % 4294967296 : Nat) : Int) := by
  have h := bits_and_u64_nat a 4294967295 ha (by omega)
  have e : a &&& 4294967295 = a % 4294967296 := Nat.and_two_pow_sub_one_eq_mod a 32
  rw [e] at h
  exact h
theorem pow_cast (s : Nat) : (2 : Int) ^ s = ((2 ^ s : Nat) : Int) := by rw [Int.natCast_pow]; rfl
structure Setup (hi lo y s : Nat) (Y d1 d0 Hs Ls H X u1 u0 : Nat) : Prop where
  e1 : IntKind.u64.wrap ((y : Int) * 2 ^ s) = Y
  e2 : (Y : Int) / 4294967296 = d1
  e3 : bits .and .u64 (Y : Int) 4294967295 = d0
  e4 : IntKind.u64.wrap ((hi : Int) * 2 ^ s) = Hs
  e5 : (lo : Int) / 2 ^ (64 - s) = Ls
  e6 : bits .or .u64 (Hs : Int) (Ls : Int) = H
  e7 : IntKind.u64.wrap ((lo : Int) * 2 ^ s) = X
  e8 : (X : Int) / 4294967296 = u1
  e9 : bits .and .u64 (X : Int) 4294967295 = u0
  hY : Y = d1 * 4294967296 + d0
  b1 : 2147483648 ≤ d1
  b2 : d1 < 4294967296
  b3 : d0 < 4294967296
  b4 : u1 < 4294967296
  b5 : u0 < 4294967296
  hH : H < Y
  hX : X < 18446744073709551616
  hHs : Hs < 18446744073709551616
  hLs : Ls < 18446744073709551616
  val : (H * 4294967296 + u1) * 4294967296 + u0 = (hi * 18446744073709551616 + lo) * 2 ^ s
  hYs : Y = y * 2 ^ s
theorem setup (hi lo y s : Nat) (hs : s ≤ 63) (hlo : lo < 18446744073709551616) (hhi : hi < y) (hY0 : 2 ^ 63 ≤ y * 2 ^ s) (hY : y * 2 ^ s < 2 ^ 64) : ∃ Y d1 d0 Hs Ls H X u1 u0, Setup hi lo y s Y d1 d0 Hs Ls H X u1 u0 := by
  obtain ⟨w1, w2, w3, w4, w5⟩ := words hi lo y s hs hlo hhi hY
  have f1 : (y : Int) * 2 ^ s = ((y * 2 ^ s : Nat) : Int) := by rw [pow_cast, ← Int.natCast_mul]
  have f2 : (hi : Int) * 2 ^ s = ((hi * 2 ^ s : Nat) : Int) := by rw [pow_cast, ← Int.natCast_mul]
  have f3 : (lo : Int) * 2 ^ s = ((lo * 2 ^ s : Nat) : Int) := by rw [pow_cast, ← Int.natCast_mul]
  have f4 : (lo : Int) / 2 ^ (64 - s) = ((lo / 2 ^ (64 - s) : Nat) : Int) := by rw [pow_cast, ← Int.natCast_ediv]
  refine ⟨y * 2 ^ s, y * 2 ^ s / 4294967296, y * 2 ^ s % 4294967296, hi * 2 ^ s, lo / 2 ^ (64 - s), hi * 2 ^ s + lo / 2 ^ (64 - s), lo * 2 ^ s % 18446744073709551616, lo * 2 ^ s % 18446744073709551616 / 4294967296, lo * 2 ^ s % 18446744073709551616 % 4294967296, ?_⟩
  rw [show (2 : Nat) ^ 64 = 18446744073709551616 from by decide] at w2 w3 w5 hY
  rw [show (2 : Nat) ^ 63 = 9223372036854775808 from by decide] at hY0
  constructor
  · rw [f1, wrapS _ hY]
  · omega
  · exact maskN _ hY
  · rw [f2, wrapS _ w2]
  · exact f4
  · rw [bits_or_u64_nat _ _ w2 w3, w1]
  · rw [f3, wrapM]
  · omega
  · exact maskN _ (by omega)
  · omega
  · omega
  · omega
  · omega
  · omega
  · omega
  · exact w4
  · omega
  · exact w2
  · exact w3
  · rw [← w5]
    generalize hi * 2 ^ s + lo / 2 ^ (64 - s) = A
    generalize lo * 2 ^ s % 18446744073709551616 = X
    rw [Nat.add_mul, Nat.add_assoc, Nat.div_add_mod', Nat.mul_assoc]
  · rfl
/-- what is left behind a digit, as the walk reckons it -/
theorem rest_wrap (H u Y q R : Nat) (h : H * 4294967296 + u = q * Y + R) (hR : R < 18446744073709551616) (hH : H < 18446744073709551616) : ∃ HB S T : Nat, IntKind.u64.wrap ((H : Int) * 4294967296) = HB ∧ IntKind.u64.wrap ((HB : Int) + (u : Int)) = S ∧ IntKind.u64.wrap ((q : Int) * (Y : Int)) = T ∧ IntKind.u64.wrap ((S : Int) - (T : Int)) = R ∧
    HB < 18446744073709551616 ∧ S < 18446744073709551616 ∧ T < 18446744073709551616 := by
  refine ⟨H * 4294967296 % 18446744073709551616, (H * 4294967296 % 18446744073709551616 + u) % 18446744073709551616, q * Y % 18446744073709551616, ?_, ?_, ?_, ?_, by omega, by omega, by omega⟩
  · rw [IntKind.wrap_u64]; omega
  · rw [IntKind.wrap_u64]; omega
  · rw [← Int.natCast_mul, wrapM]
  · rw [IntKind.wrap_u64]
    generalize q * Y = P at *
    omega
/-- the first try of a digit, as the walk reckons it -/
theorem try_wrap (H d1 : Nat) (h1 : 2147483648 ≤ d1) (h2 : d1 < 4294967296) (hH : H < 18446744073709551616) : (H : Int).tdiv (d1 : Int) = ((H / d1 : Nat) : Int) ∧ IntKind.u64.wrap ((H / d1 : Nat) : Int) = ((H / d1 : Nat) : Int) ∧ ∃ p : Nat, IntKind.u64.wrap (((H / d1 : Nat) : Int) * (d1 : Int)) = p ∧ IntKind.u64.wrap ((H : Int) - (p : Int)) = ((H % d1 : Nat) : Int) := by
  have hle : H / d1 ≤ H := Nat.div_le_self _ _
  have hd := Nat.div_add_mod' H d1
  refine ⟨by rw [Int.tdiv_eq_ediv_of_nonneg (by omega), Int.natCast_ediv], wrapS _ (by omega), H / d1 * d1, ?_, ?_⟩
  · rw [← Int.natCast_mul, wrapS _ (by omega)]
  · generalize H / d1 * d1 = P at *
    generalize H % d1 = Q at *
    rw [IntKind.wrap_u64]; omega
/-- the first try of a digit, all that the walk wants of it -/
theorem try_all (H u d1 d0 : Nat) (h1 : 2147483648 ≤ d1) (h2 : d1 < 4294967296) (h3 : d0 < 4294967296) (hu : u < 4294967296) (hun : H < d1 * 4294967296 + d0) (hH : H < 18446744073709551616) :
    ∃ q r p : Nat, (H : Int).tdiv (d1 : Int) = (q : Int) ∧ (H : Int) / (d1 : Int) = (q : Int) ∧ IntKind.u64.wrap (q : Int) = (q : Int) ∧ IntKind.u64.wrap ((q : Int) * (d1 : Int)) = (p : Int) ∧ IntKind.u64.wrap ((H : Int) - (p : Int)) = (r : Int) ∧ Dig H u d1 d0 q r ∧ r < 4294967296 := by
  obtain ⟨a1, a2, p, a3, a4⟩ := try_wrap H d1 h1 h2 hH
  obtain ⟨b1, b2⟩ := dig_start h1 h2 h3 hu hun
  exact ⟨H / d1, H % d1, p, a1, by rw [Int.natCast_ediv], a2, a3, a4, b1, b2⟩
end Go.Proofs.YtpabgmdgoghahaaDoor.div
