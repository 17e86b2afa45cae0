/- The small functions of a bitmap: numbers, single, Union, Minus, Has. -/
import Derived.Test.YtfiingnanofneaaDoorK
import Derived.Test.YtfiingnanofneaaDoorRows
import Derived.WalkKit
import Derived.ProofKit
import Derived.Laws.BitsAllLaws
import Derived.Outline
set_option linter.unusedVariables false
set_option linter.unusedSimpArgs false
namespace Go.Proofs.YtfiingnanofneaaDoor
open Go.Sort Go.ChangeShapes Go.WideShapes Go.ChangeAt Go.RowKit
@[go_sem] theorem eqIn2 (d : Nat) (a b c e : Int) (w : World) :
    (Op.equalIn (d + 2) 24 (.agg #[.int .u64 a, .int .u64 b]) (.agg #[.int .u64 c, .int .u64 e])).run Tryd.prog w = .ok (a == c && b == e) w := by
  have hs : ∀ w, (sizeOf 22).run Tryd.prog w = .ok 1 w := fun w => by kernel_rfl
  have p0 : ∀ (w : World) (x y : Int), (part 22 #[.int .u64 x, .int .u64 y] 0).run Tryd.prog w = .ok (.int .u64 x) w := fun w x y => by kernel_rfl
  have p1 : ∀ (w : World) (x y : Int), (part 22 #[.int .u64 x, .int .u64 y] 1).run Tryd.prog w = .ok (.int .u64 y) w := fun w x y => by kernel_rfl
  simp only [Op.equalIn, Sem.run_bind, run_underlying Tryd.underlying24, Result.andThen_ok, hs]
  simp [List.range', Sem.run_bind, p0, p1, run_underlying Tryd.underlying22]
  by_cases h1 : a = c <;> by_cases h2 : b = e <;> simp [h1, h2]
def bm (a b : Nat) : Value := .agg #[.int .u64 a, .int .u64 b]
/-- the block of a bitmap -/
def bc (a b : Nat) : Array Value := #[.int .u64 a, .int .u64 b]
abbrev B64 : Nat := 18446744073709551616
abbrev B63 : Nat := 9223372036854775808
theorem clear63 (a : Nat) (ha : a < B64) : bits .andNot .u64 (a : Int) 9223372036854775808 = ((a % B63 : Nat) : Int) := by
  rw [show (9223372036854775808 : Int) = ((9223372036854775808 : Nat) : Int) from rfl, u64_andNot_nat a _ ha (by decide)]
  congr 1
  rw [show (18446744073709551615 - 9223372036854775808 : Nat) = 2 ^ 63 - 1 from by decide, Nat.and_two_pow_sub_one_eq_mod]
theorem al {w W : World} {o : Obj} (h : Below w.heap.size w W) : Below w.heap.size w (W.alloc o) := h.alloc h.size o
theorem numbers_any (a b : Nat) (ha : a < B64) (w : World) :
    Calls Tryd.prog 33 #[bm a b] w fun e w' => e = .returned (bm (a % B63) b) ∧ Below w.heap.size w w' := by
  have HA := Lib.hid (clear63 a ha)
  unfold bm
  go_enter Tryd.func33, Tryd.ntmps33
  go_wp2_with fail
  exact bodyPost_ret (v := .agg #[.int .u64 _, .int .u64 b]) (by simp [results, Tryd.results33, go_sem]; rfl) rfl ⟨by rw [HA.out], al (al (Below.refl _ _))⟩
/-- the two parts of a number's bit -/
def b0 (m : Nat) : Nat := if m ≤ 64 then 2 ^ (64 - m) else 0
def b1 (m : Nat) : Nat := if m ≤ 64 then 0 else 2 ^ (128 - m)
theorem wrap_pow (k : Nat) (h : k < 64) : IntKind.u64.wrap ((2 : Int) ^ k) = ((2 ^ k : Nat) : Int) := by
  rw [IntKind.wrap_u64]
  have h1 : 2 ^ k < 2 ^ 64 := Nat.pow_lt_pow_right (by decide) h
  have h2 : ((2 : Int) ^ k) = ((2 ^ k : Nat) : Int) := by simp
  rw [h2]
  have h3 : (0 : Int) ≤ ((2 ^ k : Nat) : Int) := Int.natCast_nonneg _
  generalize (2 ^ k : Nat) = q at *
  omega
theorem single_ok (m : Nat) (h1 : 2 ≤ m) (h2 : m ≤ 128) (w : World) :
    Calls Tryd.prog 31 #[.int .i64 m] w fun e w' => e = .returned (.tuple #[bm (b0 m) (b1 m), .int .i64 0]) ∧ Below w.heap.size w w' := by
  have g1 : 2 ≤ (m : Int) := by omega
  have g2 : (m : Int) ≤ 128 := by omega
  by_cases h : m ≤ 64
  · have hq : ((m : Int) - 1) / 64 = 0 := by omega
    have hr : ((m : Int) - 1) % 64 = (m : Int) - 1 := by omega
    have he : 63 - (m - 1) = 64 - m := by omega
    have hw := Lib.hid (wrap_pow (64 - m) (by omega))
    have hb : b0 m = 2 ^ (64 - m) := if_pos h
    have hb' : b1 m = 0 := if_pos h
    have HE := Lib.hid he
    rw [hb, hb']
    clear hb hb' he
    unfold bm
    go_enter Tryd.func31, Tryd.ntmps31
    go_wp2_with fail
    exact bodyPost_ret (v := .tuple #[.agg #[.int .u64 _, .int .u64 _], .int .i64 0]) (by simp [results, Tryd.results31, go_sem]; exact ⟨rfl, rfl⟩) rfl ⟨by rw [HE.out, hw.out]; rfl, al (al (Below.refl _ _))⟩
  · have hq : ((m : Int) - 1) / 64 = 1 := by omega
    have hr : ((m : Int) - 1) % 64 = (m : Int) - 65 := by omega
    have he : 63 - (m - 65) = 128 - m := by omega
    have hw := Lib.hid (wrap_pow (128 - m) (by omega))
    have hb : b0 m = 0 := if_neg h
    have hb' : b1 m = 2 ^ (128 - m) := if_neg h
    have HE := Lib.hid he
    rw [hb, hb']
    clear hb hb' he
    unfold bm
    go_enter Tryd.func31, Tryd.ntmps31
    go_wp2_with fail
    exact bodyPost_ret (v := .tuple #[.agg #[.int .u64 _, .int .u64 _], .int .i64 0]) (by simp [results, Tryd.results31, go_sem]; exact ⟨rfl, rfl⟩) rfl ⟨by rw [HE.out, hw.out]; rfl, al (al (Below.refl _ _))⟩
theorem single_no (n : Int) (h : n < 2 ∨ 128 < n) (w : World) :
    Calls Tryd.prog 31 #[.int .i64 n] w fun e w' => e = .returned (.tuple #[bm 0 0, .int .i64 4]) ∧ Below w.heap.size w w' := by
  unfold bm
  by_cases h1 : n < 2
  · clear h
    go_enter Tryd.func31, Tryd.ntmps31
    go_wp2_with fail
    exact bodyPost_ret (v := .tuple #[.agg #[.int .u64 0, .int .u64 0], .int .i64 4]) (by simp [results, Tryd.results31, go_sem]) rfl ⟨rfl, al (al (Below.refl _ _))⟩
  · have h2 : 128 < n := by omega
    clear h
    go_enter Tryd.func31, Tryd.ntmps31
    go_wp2_with fail
    exact bodyPost_ret (v := .tuple #[.agg #[.int .u64 0, .int .u64 0], .int .i64 4]) (by simp [results, Tryd.results31, go_sem]) rfl ⟨rfl, al (al (Below.refl _ _))⟩
theorem or_lt {a b : Nat} (ha : a < B64) (hb : b < B64) : a ||| b < B64 := Nat.or_lt_two_pow (n := 64) ha hb
theorem and_lt' {a b : Nat} (ha : a < B64) : a &&& b < B64 := Nat.lt_of_le_of_lt Nat.and_le_left ha
def nt (a : Nat) : Nat := B64 - 1 - a
theorem bre {w W : World} (h : Below w.heap.size w W) (d : Nat) (os : Array Obj) : Below w.heap.size w (grow (redrawn W d) os) := below_re h h.size d os
theorem union_any (a b c d : Nat) (ha : a < B64) (hb : b < B64) (hc : c < B64) (hd : d < B64) (w : World) :
    Calls Tryd.prog 23 #[bm a b, bm c d] w fun e w' => e = .returned (bm ((a ||| c) % B63) (b ||| d)) ∧ Below w.heap.size w w' := by
  have H1 := Lib.hid (u64_or_nat a c ha hc)
  have H2 := Lib.hid (u64_or_nat b d hb hd)
  have HN := fun w => numbers_any (a ||| c) (b ||| d) (or_lt ha hc) w
  have HN' := Lib.hid HN
  clear HN
  generalize (a ||| c) % B63 = x at *
  unfold bm
  go_enter Tryd.func23, Tryd.ntmps23
  go_wp2_with fail
  rw [H1.out, H2.out]
  refine (HN'.out _).mono ?_
  rintro e w1 ⟨rfl, hb⟩
  obtain ⟨dd, os, rfl⟩ := regrow_of hb
  clear hb
  unfold bm
  go_wp2_with fail
  exact bodyPost_ret (v := .agg #[.int .u64 _, .int .u64 _]) (by simp [results, Tryd.results23, go_sem]) rfl ⟨rfl, bre (al (al (al (Below.refl _ _)))) _ _⟩
theorem minus_any (a b c d : Nat) (ha : a < B64) (hb : b < B64) (hc : c < B64) (hd : d < B64) (w : World) :
    Calls Tryd.prog 25 #[bm a b, bm c d] w fun e w' => e = .returned (bm ((a &&& nt c) % B63) (b &&& nt d)) ∧ Below w.heap.size w w' := by
  have H1 := Lib.hid (u64_andNot_nat a c ha hc)
  have H2 := Lib.hid (u64_andNot_nat b d hb hd)
  have HN : Hid (∀ w, _) := Lib.hid (fun w => numbers_any (a &&& nt c) (b &&& nt d) (and_lt' ha) w)
  unfold nt at *
  generalize (a &&& (B64 - 1 - c)) % B63 = x at *
  unfold bm at *
  go_enter Tryd.func25, Tryd.ntmps25
  go_wp2_with fail
  rw [H1.out, H2.out]
  refine (HN.out _).mono ?_
  rintro e w1 ⟨rfl, hb⟩
  obtain ⟨dd, os, rfl⟩ := regrow_of hb
  clear hb
  go_wp2_with fail
  exact bodyPost_ret (v := .agg #[.int .u64 _, .int .u64 _]) (by simp [results, Tryd.results25, go_sem]) rfl ⟨rfl, bre (al (al (al (Below.refl _ _)))) _ _⟩
theorem cast_beq (x y : Nat) : ((x : Int) == (y : Int)) = (x == y) := by
  rw [Bool.eq_iff_iff, beq_iff_eq, beq_iff_eq]; exact Int.natCast_inj
/-- whether a number is in a bitmap -/
def hasB (a b m : Nat) : Bool := if m ≤ 64 then a.testBit (64 - m) else b.testBit (128 - m)
theorem nt_bit (a i : Nat) (ha : a < B64) : (nt a).testBit i = (decide (i < 64) && !a.testBit i) := by
  unfold nt
  rw [show B64 - 1 - a = 2 ^ 64 - (a + 1) from by rw [show (2 ^ 64 : Nat) = B64 from rfl]; omega]
  exact Nat.testBit_two_pow_sub_succ ha i
theorem one_bit (k a : Nat) (hk : k < 64) (ha : a < B64) : 2 ^ k &&& nt a = if a.testBit k = true then 0 else 2 ^ k := by
  apply Nat.eq_of_testBit_eq
  intro i
  rw [Nat.testBit_and, nt_bit a i ha, Nat.testBit_two_pow]
  by_cases hi : k = i
  · subst hi
    cases h : a.testBit k <;> simp [hk, Nat.testBit_two_pow_self]
  · cases h : a.testBit k <;> simp [hi, Nat.testBit_two_pow]
theorem mod63 {k : Nat} (h : k < 63) : 2 ^ k % B63 = 2 ^ k := Nat.mod_eq_of_lt (Nat.pow_lt_pow_right (n := 63) (by decide) h)
theorem two_pos (k : Nat) : 0 < 2 ^ k := Nat.pow_pos (by decide)
theorem has_zero (a b m : Nat) (ha : a < B64) (hb : b < B64) (h1 : 2 ≤ m) (h2 : m ≤ 128) :
    (((b0 m &&& nt a) % B63 == 0) && (b1 m &&& nt b == 0)) = hasB a b m := by
  unfold b0 b1 hasB
  by_cases h : m ≤ 64
  · rw [if_pos h, if_pos h, if_pos h, one_bit _ _ (by omega) ha]
    cases hx : a.testBit (64 - m)
    · have := two_pos (64 - m)
      simp [mod63 (show 64 - m < 63 by omega)]
    · simp
  · rw [if_neg h, if_neg h, if_neg h, one_bit _ _ (by omega) hb]
    cases hx : b.testBit (128 - m)
    · have := two_pos (128 - m)
      simp
    · simp
theorem pow_lt {k : Nat} (h : k < 64) : 2 ^ k < B64 := Nat.pow_lt_pow_right (n := 64) (by decide) h
theorem b0_lt (m : Nat) (h : 2 ≤ m) : b0 m < B64 := by unfold b0; split <;> first | exact pow_lt (by omega) | decide
theorem b1_lt (m : Nat) (h : 2 ≤ m) : b1 m < B64 := by unfold b1; split <;> first | exact pow_lt (by omega) | decide
theorem has_ok (a b m : Nat) (ha : a < B64) (hb : b < B64) (h1 : 2 ≤ m) (h2 : m ≤ 128) (w : World) :
    Calls Tryd.prog 13 #[bm a b, .int .i64 m] w fun e w' => e = .returned (.bool (hasB a b m)) ∧ Below w.heap.size w w' := by
  have HS : Hid (∀ w, _) := Lib.hid (fun w => single_ok m h1 h2 w)
  have HM : Hid (∀ w, _) := Lib.hid (fun w => minus_any (b0 m) (b1 m) a b (b0_lt m h1) (b1_lt m h1) ha hb w)
  have HZ := Lib.hid (has_zero a b m ha hb h1 h2)
  generalize hasB a b m = H at *
  generalize b0 m = x at *
  generalize b1 m = y at *
  generalize (x &&& nt a) % B63 = u at *
  generalize y &&& nt b = v at *
  unfold bm at *
  go_enter Tryd.func13, Tryd.ntmps13
  go_wp2_with fail
  refine (HS.out _).mono ?_
  rintro e w1 ⟨rfl, hb⟩
  obtain ⟨dd, os, rfl⟩ := regrow_of hb
  clear hb
  go_wp2_with fail
  refine (HM.out _).mono ?_
  rintro e w1 ⟨rfl, hb⟩
  obtain ⟨d2, os2, rfl⟩ := regrow_of hb
  clear hb
  go_wp2_with fail
  go_ret
  exact ⟨by rw [← HZ.out, ← cast_beq u 0, ← cast_beq v 0]; rfl, bre (al (bre (al (Below.refl _ _)) _ _)) _ _⟩
end Go.Proofs.YtfiingnanofneaaDoor
