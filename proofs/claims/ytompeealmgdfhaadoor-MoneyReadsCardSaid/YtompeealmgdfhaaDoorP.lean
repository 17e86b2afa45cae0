/- Brought from another layer. -/
import Derived.WalkKit
import Derived.ProofKit
import Derived.Outline
import Derived.BigQuiet
import Derived.Deep.QuietTactic
import Derived.IntWalk
import Derived.Lib.QuietBelow
import Derived.StillTailTactics
import Derived.Lib.SmallJoins
import Derived.Lib.ItoaLen
import Derived.Lib.AppendIntMem
import Derived.Lib.LaidTab
import Derived.Laws.BitsAllLaws
import Derived.Laws.Bits64b
import Derived.Lib.ItoaNum
import Derived.Lib.Mul64
import Derived.Test.YtompeealmgdfhaaDoorK
import Derived.Test.YtompeealmgdfhaaDoorRows
import Derived.Test.YtompeealmgdfhaaDoorShelf
set_option linter.unusedVariables false
set_option linter.unusedSimpArgs false
namespace Go.Proofs.YtompeealmgdfhaaDoor
open Go.Sort Go.ChangeShapes Go.WideShapes Go.ChangeAt Go.RowKit
theorem ret_bool {a b : Bool} (h : a = b) : Ending.returned (.bool a) = .returned (.bool b) := by rw [h]
theorem all_take_snoc (s : ByteArray) (p : UInt8 → Bool) (k : Nat) (h : k < s.size) : (s.data.toList.take (k + 1)).all p = ((s.data.toList.take k).all p && p s[k]) := by
  rw [List.take_succ_eq_append_getElem (by simpa using h), List.all_append]; simp; rfl
def capB (c : Int) : Bool := decide (65 ≤ c ∧ c ≤ 90)
def curL (l : List UInt8) : Bool := decide (l.length = 3) && l.all fun c => capB (c.toNat : Int)
theorem curL_no (s : ByteArray) (h : ¬ s.size = 3) : curL s.data.toList = false := by
  have e : s.data.toList.length = s.size := rfl
  simp [curL]; omega
theorem curL_step (s : ByteArray) (k : Nat) (h : k < s.size) (h1 : Hid ((s.data.toList.take k).all (fun c => capB (c.toNat : Int)) = true)) (h2 : capB (s[k].toNat : Int) = true) :
    Hid ((s.data.toList.take (k + 1)).all (fun c => capB (c.toNat : Int)) = true) := by
  refine Lib.hid ?_
  rw [all_take_snoc s _ k h, h1.out, h2]; rfl
theorem curL_good (s : ByteArray) (h : s.size = 3) (k : Nat) (hk : k ≤ s.size) (hlt : ¬ k < s.size) (h1 : Hid ((s.data.toList.take k).all (fun c => capB (c.toNat : Int)) = true)) : curL s.data.toList = true := by
  have e : s.data.toList.length = s.size := rfl
  have h2 := h1.out
  rw [List.take_of_length_le (by omega)] at h2
  simp only [curL, h2, Bool.and_true, decide_eq_true_eq]; omega
theorem curL_bad (s : ByteArray) (k : Nat) (h : k < s.size) (h1 : capB (s[k].toNat : Int) = false) : curL s.data.toList = false := by
  have hm : s[k] ∈ s.data.toList := by
    have : s[k] = s.data.toList[k]'(by simpa using h) := by rfl
    rw [this]; exact List.getElem_mem _
  have : s.data.toList.all (fun c => capB (c.toNat : Int)) = false := by
    rw [List.all_eq_false]; exact ⟨_, hm, by simp [h1]⟩
  simp [curL, this]
theorem curL_end (s : ByteArray) (k : Nat) (hk : k ≤ s.size) (hlt : ¬ k < s.size) (h1 : Hid ((s.data.toList.take k).all (fun c => capB (c.toNat : Int)) = true)) : ((s.size : Int) == 3) = curL s.data.toList := by
  by_cases h : s.size = 3
  · rw [curL_good s h k hk hlt h1, beq_iff_eq]; omega
  · rw [curL_no s h, beq_eq_false_iff_ne]; omega
theorem capB_yes {c : Int} (h : 65 ≤ c ∧ c ≤ 90) : capB c = true := by simpa [capB] using h
theorem capB_nay {c : Int} (h : ¬ (65 ≤ c ∧ c ≤ 90)) : capB c = false := by simpa [capB] using h
theorem cur_any (s : ByteArray) (w : World) (hs : s.size ≤ maxLen) :
    Calls Tryd.prog 34 #[.string s] w fun e w' => e = .returned (.bool (curL s.data.toList)) ∧ w = w' := by
  unfold maxLen at hs
  by_cases h3 : s.size = 3
  · have H3 := Lib.hid h3
    have h30 : 3 ≤ s.size := by omega
    have h31 : s.size ≤ 3 := by omega
    have h4 : ((s.size : Int) != 3) = false := by rw [bne_eq_false_iff_eq]; omega
    clear h3
    go_enter Tryd.func34, Tryd.ntmps34
    go_wp2_with fail
    go_loop [9] (fun i => ∃ k : Nat, k ≤ s.size ∧ i = .int .i64 k ∧ Hid ((s.data.toList.take k).all (fun c => capB (c.toNat : Int)) = true)) (fun i => s.size - (intOf i).toNat)
    case atStart => exact ⟨0, by omega, rfl, Lib.hid (by simp)⟩
    case round =>
      obtain ⟨k, hk, rfl, hall⟩ := hrel
      by_cases hlt : k < s.size
      · have hb0 : (0 : Int) ≤ (s[k].toNat : Int) := by omega
        have hb1 : (s[k].toNat : Int) ≤ 255 := by have := s[k].toNat_lt; omega
        by_cases c1 : 65 ≤ (s[k].toNat : Int)
        · by_cases c2 : (s[k].toNat : Int) ≤ 90
          · have HC := Lib.hid (capB_yes ⟨c1, c2⟩)
            go_wp2_with fail
            go_round
            case rel => exact ⟨k + 1, by omega, by go_num, curL_step s k hlt hall HC.out⟩
            case measure => simp [intOf]; omega
          · have HC := Lib.hid (capB_nay (c := (s[k].toNat : Int)) (by omega))
            go_wp2_with fail
            go_ret
            exact ⟨ret_bool (curL_bad s k hlt HC.out).symm, rfl⟩
        · have HC := Lib.hid (capB_nay (c := (s[k].toNat : Int)) (by omega))
          go_wp2_with fail
          go_ret
          exact ⟨ret_bool (curL_bad s k hlt HC.out).symm, rfl⟩
      · go_wp2_with fail
        go_ret
        exact ⟨ret_bool (curL_good s H3.out k hk hlt hall).symm, rfl⟩
  · have HF := Lib.hid (curL_no s h3)
    have h4 : ((s.size : Int) != 3) = true := by rw [bne_iff_ne]; omega
    clear h3
    go_enter Tryd.func34, Tryd.ntmps34
    go_wp2_with fail
    go_ret
    exact ⟨ret_bool HF.out.symm, rfl⟩
theorem al {w W : World} {o : Obj} (h : Below w.heap.size w W) : Below w.heap.size w (W.alloc o) := h.alloc h.size o
theorem bre {w W : World} (h : Below w.heap.size w W) (d : Nat) (os : Array Obj) : Below w.heap.size w (grow (redrawn W d) os) := below_re h h.size d os
def mo (a : Int) (c : ByteArray) : Value := .agg #[.int .i64 a, .string c]
theorem cur_yes (s : ByteArray) (hs : s.size ≤ maxLen) (h : curL s.data.toList = true) (w : World) :
    Calls Tryd.prog 34 #[.string s] w fun e w' => e = .returned (.bool true) ∧ w = w' := by
  have := cur_any s w hs
  rw [h] at this
  exact this
theorem magn_s (a : Int) (h0 : 0 ≤ a) (h1 : a ≤ 4503599627370496) (w : World) : Calls Tryd.prog 37 #[.int .i64 a] w fun e w' => e = .returned (.int .u64 a) ∧ w = w' := by
  go_enter Tryd.func37, Tryd.ntmps37
  go_wp2_with fail
  go_ret
  exact ⟨rfl, rfl⟩
theorem div_any (a b : Int) (w : World) (a0 : 0 ≤ a) (a1 : a ≤ 18446744073709551615) (b0 : 1 ≤ b) (b1 : b ≤ 18446744073709551615) : Calls Tryd.prog 38 #[.int .u64 0, .int .u64 a, .int .u64 b] w fun e w' => e = .returned (.tuple #[.int .u64 (a / b), .int .u64 (a % b)]) ∧ Below w.heap.size w w' := by
  have z1 : (b == 0) = false := beq_eq_false_iff_ne.2 (by omega)
  go_enter Tryd.func38, Tryd.ntmps38
  go_wp2_with fail
  go_region
  go_wp2_with fail
  go_ret2
  exact ⟨rfl, (Below.refl _ _).drew⟩
theorem cur_no (s : ByteArray) (hs : s.size ≤ maxLen) (h : curL s.data.toList = false) (w : World) :
    Calls Tryd.prog 34 #[.string s] w fun e w' => e = .returned (.bool false) ∧ w = w' := by
  have := cur_any s w hs
  rw [h] at this
  exact this
theorem mcheck_ok (a : Int) (c : ByteArray) (hc : c.size ≤ maxLen) (h : curL c.data.toList = true) (h0 : -4503599627370496 ≤ a) (h1 : a ≤ 4503599627370496) (w : World) :
    Calls Tryd.prog 16 #[mo a c] w fun e w' => e = .returned (.int .i64 0) ∧ Below w.heap.size w w' := by
  have HC := Lib.hid (cur_yes c hc h)
  unfold mo
  clear hc h
  go_enter Tryd.func16, Tryd.ntmps16
  go_wp2_with fail
  refine (HC.out _).mono ?_
  rintro e w1 ⟨rfl, rfl⟩
  go_wp2_with fail
  go_ret
  exact ⟨rfl, al (Below.refl _ _)⟩
theorem mcheck_no (a : Int) (c : ByteArray) (hc : c.size ≤ maxLen) (h : curL c.data.toList = false) (w : World) :
    Calls Tryd.prog 16 #[mo a c] w fun e w' => e = .returned (.int .i64 11) ∧ Below w.heap.size w w' := by
  have HC := Lib.hid (cur_no c hc h)
  unfold mo
  clear hc h
  go_enter Tryd.func16, Tryd.ntmps16
  go_wp2_with fail
  refine (HC.out _).mono ?_
  rintro e w1 ⟨rfl, rfl⟩
  go_wp2_with fail
  go_ret
  exact ⟨rfl, al (Below.refl _ _)⟩
theorem magn_any (a : Int) (h0 : -4503599627370496 ≤ a) (h1 : a ≤ 4503599627370496) (w : World) : Calls Tryd.prog 37 #[.int .i64 a] w fun e w' => e = .returned (.int .u64 (a.natAbs : Nat)) ∧ w = w' := by
  by_cases hs : a < 0
  · have e1 : ((a.natAbs : Nat) : Int) = -a := by omega
    rw [e1]; clear e1
    have g1 : 0 ≤ -a := by omega
    have g2 : -a ≤ 4503599627370496 := by omega
    have hd : decide (a < 0) = true := decide_eq_true hs
    go_enter Tryd.func37, Tryd.ntmps37
    go_wp2_with fail
    go_ret
    exact ⟨rfl, rfl⟩
  · have e1 : ((a.natAbs : Nat) : Int) = a := by omega
    rw [e1]; clear e1
    exact magn_s a (by omega) h1 w
def upB (q r L : Nat) (mode : Int) : Bool := (mode == 2 && decide (0 < r)) || (mode == 3 && decide (L ≤ 2 * r)) || (mode == 4 && (decide (L < 2 * r) || (decide (2 * r = L) && decide (q % 2 = 1))))
theorem up_any (q r L : Nat) (mode : Int) (hq : q ≤ 4503599627370496) (hr : r ≤ 4503599627370496) (hL : L ≤ 4503599627370496) (m1 : 1 ≤ mode) (m2 : mode ≤ 4) (w : World) :
    Calls Tryd.prog 39 #[.int .u64 q, .int .u64 r, .int .u64 L, .int .i64 mode] w fun e w' => e = .returned (.bool (upB q r L mode)) ∧ w = w' := by
  have q0 : (q : Int) ≤ 4503599627370496 := by omega
  have r0 : (r : Int) ≤ 4503599627370496 := by omega
  have l0 : (L : Int) ≤ 4503599627370496 := by omega
  rcases (show mode = 1 ∨ mode = 2 ∨ mode = 3 ∨ mode = 4 from by omega) with rfl | rfl | rfl | rfl
  · have e : upB q r L 1 = false := by simp [upB]
    rw [e]
    go_enter Tryd.func39, Tryd.ntmps39
    go_wp2_with fail
    go_ret
    exact ⟨rfl, rfl⟩
  · have e : upB q r L 2 = decide ((0 : Int) < (r : Int)) := by simp [upB]
    rw [e]
    generalize hb : decide ((0 : Int) < (r : Int)) = b
    go_enter Tryd.func39, Tryd.ntmps39
    go_wp2_with fail
    go_ret
    exact ⟨by simp [go_sem, ← hb], rfl⟩
  · have e : upB q r L 3 = decide ((L : Int) ≤ 2 * (r : Int)) := by simp [upB]; omega
    rw [e]
    go_enter Tryd.func39, Tryd.ntmps39
    go_wp2_with fail
    go_ret
    exact ⟨by simp [go_sem], rfl⟩
  · have e : upB q r L 4 = (decide ((L : Int) < 2 * (r : Int)) || (decide (2 * (r : Int) = (L : Int)) && decide ((q : Int) % 2 = 1))) := by
      simp only [upB, show ((4 : Int) == 2) = false from rfl, show ((4 : Int) == 3) = false from rfl, show ((4 : Int) == 4) = true from rfl, Bool.false_and, Bool.false_or, Bool.true_and]
      congr 1
      · exact decide_eq_decide.2 (by omega)
      · congr 1 <;> exact decide_eq_decide.2 (by omega)
    rw [e]
    have q1 : (q : Int).tmod 2 = (q : Int) % 2 := Int.tmod_eq_emod_of_nonneg (by omega)
    by_cases c1 : (L : Int) < 2 * (r : Int)
    · have d1 : decide ((L : Int) < 2 * (r : Int)) = true := decide_eq_true c1
      rw [d1, Bool.true_or]
      go_enter Tryd.func39, Tryd.ntmps39
      go_wp2_with fail
      go_ret
      exact ⟨rfl, rfl⟩
    · have d1 : decide ((L : Int) < 2 * (r : Int)) = false := decide_eq_false c1
      rw [d1, Bool.false_or]
      by_cases c2 : 2 * (r : Int) = (L : Int)
      · have d2 : (2 * (r : Int) == (L : Int)) = true := by rw [beq_iff_eq]; exact c2
        rw [decide_eq_true c2, Bool.true_and]
        by_cases c3 : (q : Int) % 2 = 1
        · have d3 : ((q : Int) % 2 == 1) = true := by rw [beq_iff_eq]; exact c3
          rw [decide_eq_true c3]
          clear c1 c2 c3
          go_enter Tryd.func39, Tryd.ntmps39
          go_wp2_with fail
          go_ret
          exact ⟨rfl, rfl⟩
        · have d3 : ((q : Int) % 2 == 1) = false := beq_eq_false_iff_ne.2 c3
          rw [decide_eq_false c3]
          clear c1 c2 c3
          go_enter Tryd.func39, Tryd.ntmps39
          go_wp2_with fail
          go_ret
          exact ⟨rfl, rfl⟩
      · have d2 : (2 * (r : Int) == (L : Int)) = false := beq_eq_false_iff_ne.2 c2
        rw [decide_eq_false c2, Bool.false_and]
        clear c1 c2
        go_enter Tryd.func39, Tryd.ntmps39
        go_wp2_with fail
        go_ret
        exact ⟨rfl, rfl⟩
def sgn (a Q : Int) : Int := if a < 0 then -Q else Q
def bI (b : Bool) : Int := if b = true then 1 else 0
theorem div_nat (P L : Nat) (w : World) (hP : P < 18446744073709551616) (h1 : 1 ≤ L) (hL : L < 18446744073709551616) :
    Calls Tryd.prog 38 #[.int .u64 0, .int .u64 P, .int .u64 L] w fun e w' => e = .returned (.tuple #[.int .u64 ((P / L : Nat) : Int), .int .u64 ((P % L : Nat) : Int)]) ∧ Below w.heap.size w w' := by
  have := div_any (P : Int) (L : Int) w (by omega) (by omega) (by omega) (by omega)
  rw [← Int.natCast_ediv, ← Int.natCast_emod] at this
  exact this
theorem scale_mode (a : Int) (c : ByteArray) (K L mode : Int) (w : World) (hc : c.size ≤ maxLen) (hcl : curL c.data.toList = true) (a0 : -4503599627370496 ≤ a) (a1 : a ≤ 4503599627370496)
    (k1 : 1 ≤ K) (k2 : K ≤ 1099511627776) (l1 : 1 ≤ L) (l2 : L ≤ 1099511627776) (hm : mode < 1 ∨ 4 < mode) :
    Calls Tryd.prog 19 #[mo a c, .int .i64 K, .int .i64 L, .int .i64 mode] w fun e w' => e = .returned (.tuple #[mo 0 ⟨#[]⟩, .int .i64 4]) ∧ Below w.heap.size w w' := by
  have HC : Hid (∀ w, _) := Lib.hid (fun w => mcheck_ok a c hc hcl a0 a1 w)
  unfold mo at *
  clear hc hcl a0 a1
  by_cases g : mode < 1
  · clear hm
    go_enter Tryd.func19, Tryd.ntmps19
    go_wp2_with fail
    refine (HC.out _).mono ?_
    rintro e w1 ⟨rfl, hb⟩
    obtain ⟨d1, o1, rfl⟩ := regrow_of hb
    clear hb
    go_wp2_with fail
    exact bodyPost_ret (v := .tuple #[.agg #[.int .i64 0, .string ⟨#[]⟩], .int .i64 4]) (by simp [results, Tryd.results19, go_sem]) rfl ⟨rfl, bre (al (al (Below.refl _ _))) _ _⟩
  · have g2 : 4 < mode := by omega
    have g3 : 1 ≤ mode := by omega
    clear hm
    go_enter Tryd.func19, Tryd.ntmps19
    go_wp2_with fail
    refine (HC.out _).mono ?_
    rintro e w1 ⟨rfl, hb⟩
    obtain ⟨d1, o1, rfl⟩ := regrow_of hb
    clear hb
    go_wp2_with fail
    exact bodyPost_ret (v := .tuple #[.agg #[.int .i64 0, .string ⟨#[]⟩], .int .i64 4]) (by simp [results, Tryd.results19, go_sem]) rfl ⟨rfl, bre (al (al (Below.refl _ _))) _ _⟩
/-- no money -/
def mo0 : Value := mo 0 ⟨#[]⟩
namespace div
/-- what is known of a digit that is tried: 'q' is not too small, and 'rh' is what is left of the first word -/
structure Dig (un u d1 d0 q rh : Nat) : Prop where
  left : rh + q * d1 = un
  low : (un * 4294967296 + u) / (d1 * 4294967296 + d0) ≤ q
  top : q ≤ 4294967297
section
variable {un u d1 d0 q rh : Nat}
theorem dig_start (h1 : 2147483648 ≤ d1) (h2 : d1 < 4294967296) (h3 : d0 < 4294967296) (hu : u < 4294967296) (hun : un < d1 * 4294967296 + d0) : Dig un u d1 d0 (un / d1) (un % d1) ∧ un % d1 < 4294967296 := by
  have hm := Nat.mod_lt un (show d1 > 0 by omega)
  refine ⟨⟨?_, ?_, ?_⟩, by omega⟩
  · rw [Nat.mul_comm]; have := Nat.div_add_mod un d1; omega
  · rw [Nat.le_div_iff_mul_le (by omega)]
    have h := Nat.div_mul_le_self (un * 4294967296 + u) (d1 * 4294967296 + d0)
    generalize (un * 4294967296 + u) / (d1 * 4294967296 + d0) = t at *
    rw [Nat.mul_add, ← Nat.mul_assoc] at h
    generalize t * d1 = x at *
    have : x * 4294967296 < (un + 1) * 4294967296 := by omega
    omega
  · have : un / d1 < 4294967298 := by
      rw [Nat.div_lt_iff_lt_mul (show 0 < d1 by omega)]
      omega
    omega
theorem dig_stop (h1 : 2147483648 ≤ d1) (hi : Dig un u d1 d0 q rh) (hc : q * d0 ≤ 4294967296 * rh + u) : q = (un * 4294967296 + u) / (d1 * 4294967296 + d0) := by
  refine Nat.le_antisymm ?_ hi.low
  rw [Nat.le_div_iff_mul_le (by omega), Nat.mul_add, ← Nat.mul_assoc]
  have := hi.left
  generalize q * d1 = x at *
  generalize q * d0 = y at *
  omega
theorem dig_next (h1 : 2147483648 ≤ d1) (hun : un < d1 * 4294967296 + d0) (hu : u < 4294967296) (hi : Dig un u d1 d0 q rh) (hc : 4294967296 ≤ q ∨ 4294967296 * rh + u < q * d0) :
    1 ≤ q ∧ Dig un u d1 d0 (q - 1) (rh + d1) ∧ q - 1 ≤ 4294967296 := by
  have hlt : (un * 4294967296 + u) / (d1 * 4294967296 + d0) < q := by
    rcases hc with hc | hc
    · refine Nat.lt_of_lt_of_le ?_ hc
      rw [Nat.div_lt_iff_lt_mul (show 0 < d1 * 4294967296 + d0 by omega)]
      omega
    · rw [Nat.div_lt_iff_lt_mul (show 0 < d1 * 4294967296 + d0 by omega), Nat.mul_add, ← Nat.mul_assoc]
      have := hi.left
      generalize q * d1 = x at *
      generalize q * d0 = y at *
      omega
  have ht := hi.top
  have hl := hi.left
  have hq1 : 1 ≤ q := Nat.lt_of_le_of_lt (Nat.zero_le _) hlt
  obtain ⟨p, rfl⟩ : ∃ p, q = p + 1 := ⟨q - 1, by omega⟩
  refine ⟨by omega, ⟨?_, Nat.le_of_lt_succ hlt, ?_⟩, ?_⟩ <;> simp only [Nat.add_sub_cancel]
  rotate_left
  · omega
  · omega
  rw [Nat.add_mul, Nat.one_mul] at hl
  omega
theorem dig_leave (h1 : 2147483648 ≤ d1) (h3 : d0 < 4294967296) (hi : Dig un u d1 d0 q rh) (hq : q ≤ 4294967296) (hr : 4294967296 ≤ rh) : q = (un * 4294967296 + u) / (d1 * 4294967296 + d0) := by
  refine dig_stop h1 hi ?_
  have : q * d0 ≤ 4294967296 * d0 := Nat.mul_le_mul_right _ hq
  omega
end
/-- a digit and what is left -/
theorem dig_rest (un u Y q : Nat) (hY : 0 < Y) (h : q = (un * 4294967296 + u) / Y) : un * 4294967296 + u = q * Y + (un * 4294967296 + u) % Y ∧ (un * 4294967296 + u) % Y < Y := by
  subst h
  refine ⟨?_, Nat.mod_lt _ hY⟩
  exact (Nat.div_add_mod' _ _).symm
theorem lin (H u1 u0 x y r1 r0 : Nat) (e1 : H * 4294967296 + u1 = x + r1) (e0 : r1 * 4294967296 + u0 = y + r0) : (H * 4294967296 + u1) * 4294967296 + u0 = x * 4294967296 + y + r0 := by
  rw [e1, Nat.add_mul, Nat.add_assoc, e0, ← Nat.add_assoc]
/-- two digits are the quotient -/
theorem two_digits (H u1 u0 Y q1 r1 q0 r0 : Nat) (e1 : H * 4294967296 + u1 = q1 * Y + r1) (e0 : r1 * 4294967296 + u0 = q0 * Y + r0) (hr : r0 < Y) :
    ((H * 4294967296 + u1) * 4294967296 + u0) / Y = q1 * 4294967296 + q0 ∧ ((H * 4294967296 + u1) * 4294967296 + u0) % Y = r0 := by
  have e : (H * 4294967296 + u1) * 4294967296 + u0 = Y * (q1 * 4294967296 + q0) + r0 := by
    rw [Nat.mul_add, ← Nat.mul_assoc, Nat.mul_comm Y q1, Nat.mul_comm Y q0]
    exact lin _ _ _ _ _ _ _ e1 e0
  rw [e]
  exact ⟨by rw [Nat.mul_add_div (by omega), Nat.div_eq_of_lt hr, Nat.add_zero], by rw [Nat.mul_add_mod, Nat.mod_eq_of_lt hr]⟩
/-- shifted back -/
theorem unshift (U y s : Nat) : (U * 2 ^ s) / (y * 2 ^ s) = U / y ∧ (U * 2 ^ s) % (y * 2 ^ s) / 2 ^ s = U % y := by
  have hp : 0 < 2 ^ s := Nat.pow_pos (by decide)
  exact ⟨Nat.mul_div_mul_right _ _ hp, by rw [Nat.mul_mod_mul_right, Nat.mul_div_cancel _ hp]⟩
theorem shift_of (y : Nat) (h0 : 1 ≤ y) (h1 : y < 2 ^ 64) : ∃ s : Nat, s ≤ 63 ∧ (64 - (Lib.bitLen y : Int)) = (s : Int) ∧ 2 ^ 63 ≤ y * 2 ^ s ∧ y * 2 ^ s < 2 ^ 64 := by
  obtain ⟨b1, b2, b3⟩ := Lib.bitLenAux_bounds 64 y h1 (by omega)
  have hb : Lib.bitLen y = Lib.bitLenAux 64 y := rfl
  rw [← hb] at b1 b2 b3
  generalize Lib.bitLen y = bl at *
  have hbl : bl ≤ 64 := by
    rcases Nat.lt_or_ge 64 bl with h | h
    · have : 2 ^ 64 ≤ 2 ^ (bl - 1) := Nat.pow_le_pow_right (by decide) (by omega)
      omega
    · exact h
  refine ⟨64 - bl, by omega, by omega, ?_, ?_⟩
  · have : 2 ^ (bl - 1) * 2 ^ (64 - bl) ≤ y * 2 ^ (64 - bl) := Nat.mul_le_mul_right _ b2
    rw [← Nat.pow_add, show bl - 1 + (64 - bl) = 63 from by omega] at this
    exact this
  · have : y * 2 ^ (64 - bl) < 2 ^ bl * 2 ^ (64 - bl) := Nat.mul_lt_mul_of_pos_right b3 (Nat.pow_pos (by decide))
    rw [← Nat.pow_add, show bl + (64 - bl) = 64 from by omega] at this
    exact this
/-- the words of a dividend that is shifted -/
theorem words (hi lo y s : Nat) (hs : s ≤ 63) (hlo : lo < 2 ^ 64) (hhi : hi < y) (hY : y * 2 ^ s < 2 ^ 64) :
    (hi * 2 ^ s) ||| (lo / 2 ^ (64 - s)) = hi * 2 ^ s + lo / 2 ^ (64 - s) ∧ hi * 2 ^ s < 2 ^ 64 ∧ lo / 2 ^ (64 - s) < 2 ^ 64 ∧ hi * 2 ^ s + lo / 2 ^ (64 - s) < y * 2 ^ s ∧
    (hi * 2 ^ s + lo / 2 ^ (64 - s)) * 2 ^ 64 + lo * 2 ^ s % 2 ^ 64 = (hi * 2 ^ 64 + lo) * 2 ^ s := by
  have hp : 0 < 2 ^ s := Nat.pow_pos (by decide)
  have e64 : 2 ^ (64 - s) * 2 ^ s = 2 ^ 64 := by rw [← Nat.pow_add]; congr 1; omega
  have hl : lo / 2 ^ (64 - s) < 2 ^ s := by
    rw [Nat.div_lt_iff_lt_mul (Nat.pow_pos (by decide)), Nat.mul_comm, e64]
    exact hlo
  have h1 : hi * 2 ^ s < 2 ^ 64 := Nat.lt_trans (Nat.mul_lt_mul_of_pos_right hhi hp) hY
  have h2 : (hi + 1) * 2 ^ s ≤ y * 2 ^ s := Nat.mul_le_mul_right _ hhi
  rw [Nat.add_mul, Nat.one_mul] at h2
  have hd : lo * 2 ^ s / 2 ^ 64 = lo / 2 ^ (64 - s) := by
    rw [← e64]; exact Nat.mul_div_mul_right _ _ hp
  have hdm := Nat.div_add_mod (lo * 2 ^ s) (2 ^ 64)
  rw [hd] at hdm
  refine ⟨nat_join s _ _ (Nat.mul_mod_left _ _) hl, h1, ?_, by omega, ?_⟩
  · have : lo / 2 ^ (64 - s) ≤ lo := Nat.div_le_self _ _
    omega
  · rw [Nat.add_mul (hi * 2 ^ 64), Nat.add_mul (hi * 2 ^ s), Nat.mul_right_comm hi, Nat.add_assoc, Nat.mul_comm (lo / 2 ^ (64 - s)), hdm]
open Go.Sort Go.ChangeShapes Go.WideShapes Go.ChangeAt Go.RowKit
theorem wrapS (a : Nat) (ha : a < 18446744073709551616) : IntKind.u64.wrap (a : Int) = (a : Int) := by rw [IntKind.wrap_u64]; omega
theorem wrapM (a : Nat) : IntKind.u64.wrap (a : Int) = ((a % 18446744073709551616 : Nat) : Int) := by rw [IntKind.wrap_u64]; omega
theorem maskN (a : Nat) (ha : a < 18446744073709551616) : bits .and .u64 (a : Int) 4294967295 = ((a % 4294967296 : Nat) : Int) := by
  have h := bits_and_u64_nat a 4294967295 ha (by omega)
  have e : a &&& 4294967295 = a % 4294967296 := Nat.and_two_pow_sub_one_eq_mod a 32
  rw [e] at h
  exact h
theorem pow_cast (s : Nat) : (2 : Int) ^ s = ((2 ^ s : Nat) : Int) := by rw [Int.natCast_pow]; rfl
structure Setup (hi lo y s : Nat) (Y d1 d0 Hs Ls H X u1 u0 : Nat) : Prop where
  e1 : IntKind.u64.wrap ((y : Int) * 2 ^ s) = Y
  e2 : (Y : Int) / 4294967296 = d1
  e3 : bits .and .u64 (Y : Int) 4294967295 = d0
  e4 : IntKind.u64.wrap ((hi : Int) * 2 ^ s) = Hs
  e5 : (lo : Int) / 2 ^ (64 - s) = Ls
  e6 : bits .or .u64 (Hs : Int) (Ls : Int) = H
  e7 : IntKind.u64.wrap ((lo : Int) * 2 ^ s) = X
  e8 : (X : Int) / 4294967296 = u1
  e9 : bits .and .u64 (X : Int) 4294967295 = u0
  hY : Y = d1 * 4294967296 + d0
  b1 : 2147483648 ≤ d1
  b2 : d1 < 4294967296
  b3 : d0 < 4294967296
  b4 : u1 < 4294967296
  b5 : u0 < 4294967296
  hH : H < Y
  hX : X < 18446744073709551616
  hHs : Hs < 18446744073709551616
  hLs : Ls < 18446744073709551616
  val : (H * 4294967296 + u1) * 4294967296 + u0 = (hi * 18446744073709551616 + lo) * 2 ^ s
  hYs : Y = y * 2 ^ s
theorem setup (hi lo y s : Nat) (hs : s ≤ 63) (hlo : lo < 18446744073709551616) (hhi : hi < y) (hY0 : 2 ^ 63 ≤ y * 2 ^ s) (hY : y * 2 ^ s < 2 ^ 64) : ∃ Y d1 d0 Hs Ls H X u1 u0, Setup hi lo y s Y d1 d0 Hs Ls H X u1 u0 := by
  obtain ⟨w1, w2, w3, w4, w5⟩ := words hi lo y s hs hlo hhi hY
  have f1 : (y : Int) * 2 ^ s = ((y * 2 ^ s : Nat) : Int) := by rw [pow_cast, ← Int.natCast_mul]
  have f2 : (hi : Int) * 2 ^ s = ((hi * 2 ^ s : Nat) : Int) := by rw [pow_cast, ← Int.natCast_mul]
  have f3 : (lo : Int) * 2 ^ s = ((lo * 2 ^ s : Nat) : Int) := by rw [pow_cast, ← Int.natCast_mul]
  have f4 : (lo : Int) / 2 ^ (64 - s) = ((lo / 2 ^ (64 - s) : Nat) : Int) := by rw [pow_cast, ← Int.natCast_ediv]
  refine ⟨y * 2 ^ s, y * 2 ^ s / 4294967296, y * 2 ^ s % 4294967296, hi * 2 ^ s, lo / 2 ^ (64 - s), hi * 2 ^ s + lo / 2 ^ (64 - s), lo * 2 ^ s % 18446744073709551616, lo * 2 ^ s % 18446744073709551616 / 4294967296, lo * 2 ^ s % 18446744073709551616 % 4294967296, ?_⟩
  rw [show (2 : Nat) ^ 64 = 18446744073709551616 from by decide] at w2 w3 w5 hY
  rw [show (2 : Nat) ^ 63 = 9223372036854775808 from by decide] at hY0
  constructor
  · rw [f1, wrapS _ hY]
  · omega
  · exact maskN _ hY
  · rw [f2, wrapS _ w2]
  · exact f4
  · rw [bits_or_u64_nat _ _ w2 w3, w1]
  · rw [f3, wrapM]
  · omega
  · exact maskN _ (by omega)
  · omega
  · omega
  · omega
  · omega
  · omega
  · omega
  · exact w4
  · omega
  · exact w2
  · exact w3
  · rw [← w5]
    generalize hi * 2 ^ s + lo / 2 ^ (64 - s) = A
    generalize lo * 2 ^ s % 18446744073709551616 = X
    rw [Nat.add_mul, Nat.add_assoc, Nat.div_add_mod', Nat.mul_assoc]
  · rfl
/-- what is left behind a digit, as the walk reckons it -/
theorem rest_wrap (H u Y q R : Nat) (h : H * 4294967296 + u = q * Y + R) (hR : R < 18446744073709551616) (hH : H < 18446744073709551616) : ∃ HB S T : Nat, IntKind.u64.wrap ((H : Int) * 4294967296) = HB ∧ IntKind.u64.wrap ((HB : Int) + (u : Int)) = S ∧ IntKind.u64.wrap ((q : Int) * (Y : Int)) = T ∧ IntKind.u64.wrap ((S : Int) - (T : Int)) = R ∧
    HB < 18446744073709551616 ∧ S < 18446744073709551616 ∧ T < 18446744073709551616 := by
  refine ⟨H * 4294967296 % 18446744073709551616, (H * 4294967296 % 18446744073709551616 + u) % 18446744073709551616, q * Y % 18446744073709551616, ?_, ?_, ?_, ?_, by omega, by omega, by omega⟩
  · rw [IntKind.wrap_u64]; omega
  · rw [IntKind.wrap_u64]; omega
  · rw [← Int.natCast_mul, wrapM]
  · rw [IntKind.wrap_u64]
    generalize q * Y = P at *
    omega
/-- the first try of a digit, as the walk reckons it -/
theorem try_wrap (H d1 : Nat) (h1 : 2147483648 ≤ d1) (h2 : d1 < 4294967296) (hH : H < 18446744073709551616) : (H : Int).tdiv (d1 : Int) = ((H / d1 : Nat) : Int) ∧ IntKind.u64.wrap ((H / d1 : Nat) : Int) = ((H / d1 : Nat) : Int) ∧ ∃ p : Nat, IntKind.u64.wrap (((H / d1 : Nat) : Int) * (d1 : Int)) = p ∧ IntKind.u64.wrap ((H : Int) - (p : Int)) = ((H % d1 : Nat) : Int) := by
  have hle : H / d1 ≤ H := Nat.div_le_self _ _
  have hd := Nat.div_add_mod' H d1
  refine ⟨by rw [Int.tdiv_eq_ediv_of_nonneg (by omega), Int.natCast_ediv], wrapS _ (by omega), H / d1 * d1, ?_, ?_⟩
  · rw [← Int.natCast_mul, wrapS _ (by omega)]
  · generalize H / d1 * d1 = P at *
    generalize H % d1 = Q at *
    rw [IntKind.wrap_u64]; omega
/-- the first try of a digit, all that the walk wants of it -/
theorem try_all (H u d1 d0 : Nat) (h1 : 2147483648 ≤ d1) (h2 : d1 < 4294967296) (h3 : d0 < 4294967296) (hu : u < 4294967296) (hun : H < d1 * 4294967296 + d0) (hH : H < 18446744073709551616) :
    ∃ q r p : Nat, (H : Int).tdiv (d1 : Int) = (q : Int) ∧ (H : Int) / (d1 : Int) = (q : Int) ∧ IntKind.u64.wrap (q : Int) = (q : Int) ∧ IntKind.u64.wrap ((q : Int) * (d1 : Int)) = (p : Int) ∧ IntKind.u64.wrap ((H : Int) - (p : Int)) = (r : Int) ∧ Dig H u d1 d0 q r ∧ r < 4294967296 := by
  obtain ⟨a1, a2, p, a3, a4⟩ := try_wrap H d1 h1 h2 hH
  obtain ⟨b1, b2⟩ := dig_start h1 h2 h3 hu hun
  exact ⟨H / d1, H % d1, p, a1, by rw [Int.natCast_ediv], a2, a3, a4, b1, b2⟩
set_option maxRecDepth 100000 in
set_option maxHeartbeats 8000000 in
theorem div_full (hi lo y : Nat) (w : World) (hhi : hi < y) (h0 : 1 ≤ hi) (hlo : lo < 18446744073709551616) (hy : y < 18446744073709551616) :
    Calls Tryd.prog 38 #[.int .u64 hi, .int .u64 lo, .int .u64 y] w fun e w' => e = .returned (.tuple #[.int .u64 (((hi * 18446744073709551616 + lo) / y : Nat) : Int), .int .u64 (((hi * 18446744073709551616 + lo) % y : Nat) : Int)]) ∧ Below w.heap.size w w' := by
  obtain ⟨QQ, hQ⟩ : ∃ QQ, (hi * 18446744073709551616 + lo) / y = QQ := ⟨_, rfl⟩
  obtain ⟨rr, hr⟩ : ∃ rr, (hi * 18446744073709551616 + lo) % y = rr := ⟨_, rfl⟩
  rw [hQ, hr]
  have HQ := Lib.hid (And.intro hQ hr)
  clear hQ hr
  obtain ⟨s, hs, es, hY0, hY1⟩ := shift_of y (by omega) hy
  have hlz := fun w => Tryd.bits_LeadingZeros64 (y : Int) w (by omega) (by omega)
  rw [show ((y : Nat) : Int).toNat = y from rfl, es] at hlz
  have HLZ := Lib.hid hlz
  have y1 : ((y : Int) == 0) = false := beq_eq_false_iff_ne.2 (by omega)
  have y2 : decide ((y : Int) ≤ (hi : Int)) = false := decide_eq_false (by omega)
  have y3 : ((hi : Int) == 0) = false := beq_eq_false_iff_ne.2 (by omega)
  have s0 : (0 : Int) ≤ (s : Int) := by omega
  have s1 : (s : Int) ≤ 63 := by omega
  obtain ⟨Y, d1, d0, Hs, Ls, H, X, u1, u0, e1, e2, e3, e4, e5, e6, e7, e8, e9, hYd, b1, b2, b3, b4, b5, hH, hX, hHs, hLs, hval0, hYs0⟩ := setup hi lo y s hs hlo hhi hY0 hY1
  have hval := Lib.hid hval0
  have hYs := Lib.hid hYs0
  have hYlt : Y < 18446744073709551616 := by rw [hYs0]; exact hY1
  have hHd : H < d1 * 4294967296 + d0 := by omega
  have dz : ((d1 : Int) == 0) = false := beq_eq_false_iff_ne.2 (by omega)
  have dz2 : 1 ≤ (d1 : Int) := by omega
  have dz3 : (d1 : Int) ≤ 4294967295 := by omega
  obtain ⟨qi, ri, pp, x1, x5, x2, x3, x4, x6, x7⟩ := try_all H u1 d1 d0 b1 b2 b3 b4 hHd (by omega)
  have x8 := x6.top
  have x9 : Hid (∃ q rh : Nat, (qi : Int) = q ∧ (ri : Int) = rh ∧ Dig H u1 d1 d0 q rh ∧ rh < 4294967296 ∧ q ≤ 4294967297) := Lib.hid ⟨qi, ri, rfl, rfl, x6, x7, x8⟩
  have hYd_ := Lib.hid hYd
  clear hlz hY0 hY1 es hval0 hYs0 hYd x6 x7 x8
  go_enter Tryd.func38, Tryd.ntmps38
  go_wp2_with fail
  refine (HLZ.out _).mono ?_
  rintro e w1 ⟨rfl, rfl⟩
  go_wp2_with fail
  go_loop [15, 16] (fun x z => ∃ qI rI : Int, x = .int .u64 qI ∧ z = .int .u64 rI ∧ Hid (∃ q rh : Nat, qI = q ∧ rI = rh ∧ Dig H u1 d1 d0 q rh ∧ rh < 4294967296 ∧ q ≤ 4294967297) ∧ 0 ≤ qI) (fun x _ => (intOf x).toNat)
  case atStart => exact ⟨qi, ri, rfl, rfl, x9, by omega⟩
  case round =>
    clear x1 x2 x3 x4 x5 x9 y1 y2 y3
    obtain ⟨qIa, rIa, rfl, rfl, hha, hIa⟩ := hrel
    obtain ⟨qa, rha, hqa, hra, hdiga, hna, hma⟩ := hha.out
    clear hha
    have i1a : qIa ≤ 4294967297 := by omega
    have i2a : 0 ≤ rIa := by omega
    have i3a : rIa ≤ 4294967295 := by omega
    by_cases c1 : 4294967296 ≤ qa
    · obtain ⟨t1, t2, t3⟩ := dig_next b1 hHd b4 hdiga (.inl c1)
      have c1' : 4294967296 ≤ qIa := by omega
      clear c1
      obtain ⟨rpa, hrpa⟩ : ∃ rp : Int, rp = rIa + (d1 : Int) := ⟨_, rfl⟩
      have p3a : rIa + (d1 : Int) = rpa := hrpa.symm
      have p4a : IntKind.u64.wrap (rIa + (d1 : Int)) = rpa := by rw [p3a, IntKind.wrap_u64]; omega
      have p5a : 0 ≤ rpa := by omega
      have p6a : rpa ≤ 8589934591 := by omega
      have eda : ((qa - 1 : Nat) : Int) = qIa - 1 := by omega
      have i4a : 1 ≤ qIa := by omega
      by_cases c2 : 4294967296 ≤ rha + d1
      · have c2' : 4294967296 ≤ rpa := by omega
        have hda := dig_leave b1 b3 t2 t3 c2
        clear t1 t2 t3 c2 hqa hra hdiga hna hma hrpa
        generalize qa - 1 = ma at *
        obtain ⟨v1, v2⟩ := dig_rest H u1 (d1 * 4294967296 + d0) ma (by omega) hda
        have mab0 : ma < 4294967296 := by
          rw [hda, Nat.div_lt_iff_lt_mul (by omega)]
          omega
        have mab := Lib.hid mab0
        rw [← hYd_.out] at v1 v2
        obtain ⟨HB, S, T, k1, k2, k3, k4, -, -, -⟩ := rest_wrap H u1 Y ma _ v1 (by omega) (by omega)
        obtain ⟨R, hR_⟩ : ∃ R, (H * 4294967296 + u1) % Y = R := ⟨_, rfl⟩
        rw [hR_] at v1 v2 k4
        have hRd : R < d1 * 4294967296 + d0 := by rw [← hYd_.out]; exact v2
        clear hR_
        obtain ⟨qj, rj, pj, x1, x5, x2, x3, x4, x6, x7⟩ := try_all R u0 d1 d0 b1 b2 b3 b5 hRd (by omega)
        have x8 := x6.top
        have x9 : Hid (∃ q rh : Nat, (qj : Int) = q ∧ (rj : Int) = rh ∧ Dig R u0 d1 d0 q rh ∧ rh < 4294967296 ∧ q ≤ 4294967297) := Lib.hid ⟨qj, rj, rfl, rfl, x6, x7, x8⟩
        have rest1 := Lib.hid v1
        have eda0 := Lib.hid eda
        rw [eda] at k3
        clear hda v1 mab0 eda x6 x7 x8
        have eda := eda0
        clear eda0
        go_wp2_with fail
        go_loop [18, 16] (fun x z => ∃ qI rI : Int, x = .int .u64 qI ∧ z = .int .u64 rI ∧ Hid (∃ q rh : Nat, qI = q ∧ rI = rh ∧ Dig R u0 d1 d0 q rh ∧ rh < 4294967296 ∧ q ≤ 4294967297) ∧ 0 ≤ qI) (fun x _ => (intOf x).toNat)
        case atStart => exact ⟨qj, rj, rfl, rfl, x9, by omega⟩
        case round =>
          clear x1 x2 x3 x4 x5 x9 k1 k2 k3 k4
          obtain ⟨qIb, rIb, rfl, rfl, hhb, hIb⟩ := hrel
          obtain ⟨qb, rhb, hqb, hrb, hdigb, hnb, hmb⟩ := hhb.out
          clear hhb
          have i1b : qIb ≤ 4294967297 := by omega
          have i2b : 0 ≤ rIb := by omega
          have i3b : rIb ≤ 4294967295 := by omega
          by_cases c1 : 4294967296 ≤ qb
          · obtain ⟨t1, t2, t3⟩ := dig_next b1 hRd b5 hdigb (.inl c1)
            have c1' : 4294967296 ≤ qIb := by omega
            clear c1
            obtain ⟨rpb, hrpb⟩ : ∃ rp : Int, rp = rIb + (d1 : Int) := ⟨_, rfl⟩
            have p3b : rIb + (d1 : Int) = rpb := hrpb.symm
            have p4b : IntKind.u64.wrap (rIb + (d1 : Int)) = rpb := by rw [p3b, IntKind.wrap_u64]; omega
            have p5b : 0 ≤ rpb := by omega
            have p6b : rpb ≤ 8589934591 := by omega
            have edb : ((qb - 1 : Nat) : Int) = qIb - 1 := by omega
            have i4b : 1 ≤ qIb := by omega
            by_cases c2 : 4294967296 ≤ rhb + d1
            · have c2' : 4294967296 ≤ rpb := by omega
              have hdb := dig_leave b1 b3 t2 t3 c2
              clear t1 t2 t3 c2 hqb hrb hdigb hnb hmb hrpb
              generalize qb - 1 = mb at *
              obtain ⟨v1, v2⟩ := dig_rest R u0 (d1 * 4294967296 + d0) mb (by omega) hdb
              have q0b : mb < 4294967296 := by
                rw [hdb, Nat.div_lt_iff_lt_mul (by omega)]
                omega
              rw [← hYd_.out] at v1 v2
              obtain ⟨RB, S2, T2, n1, n2, n3, n4, -, -, -⟩ := rest_wrap R u0 Y mb _ v1 (by omega) (by omega)
              have hfin := two_digits H u1 u0 Y ma R mb _ rest1.out v1 v2
              have hun := unshift (hi * 18446744073709551616 + lo) y s
              rw [← hval.out, ← hYs.out, hfin.1, hfin.2] at hun
              obtain ⟨f1, f2⟩ := hun
              obtain ⟨R0, hR0⟩ : ∃ R0, (R * 4294967296 + u0) % Y = R0 := ⟨_, rfl⟩
              rw [hR0] at n4 f2
              rw [HQ.out.1] at f1
              rw [HQ.out.2] at f2
              have n5 : (R0 : Int) / 2 ^ s = ((R0 / 2 ^ s : Nat) : Int) := by rw [pow_cast, ← Int.natCast_ediv]
              rw [f2] at n5
              have m1 : IntKind.u64.wrap ((ma : Int) * 4294967296) = ((ma * 4294967296 : Nat) : Int) := by rw [show (ma : Int) * 4294967296 = ((ma * 4294967296 : Nat) : Int) from by omega]; exact wrapS _ (by have := mab.out; omega)
              have m2 : IntKind.u64.wrap (((ma * 4294967296 : Nat) : Int) + (mb : Int)) = ((ma * 4294967296 + mb : Nat) : Int) := by rw [← Int.natCast_add]; exact wrapS _ (by have := mab.out; omega)
              rw [f1] at m2
              rw [eda.out] at m1
              rw [edb] at m2 n3
              clear f1 f2 v1 v2 hdb hfin hval hYs rest1 edb q0b hR0
              obtain ⟨qb, hqb⟩ : ∃ qb, ((ma * 4294967296 : Nat) : Int) = qb := ⟨_, rfl⟩
              rw [hqb] at m1 m2
              clear hqb HQ
              go_wp2_with fail
              go_ret2
              exact ⟨rfl, Below.refl _ _⟩
            · have c2' : rpb ≤ 4294967295 := by omega
              have T2 : Hid (∃ q rh : Nat, qIb - 1 = q ∧ rpb = rh ∧ Dig R u0 d1 d0 q rh ∧ rh < 4294967296 ∧ q ≤ 4294967297) := Lib.hid ⟨_, _, edb.symm, (by omega), t2, (by omega), (by omega)⟩
              clear t1 t2 t3 c2 hqb hrb hdigb hnb hmb hrpb edb
              go_wp2_with fail
              go_round
              case rel => exact ⟨qIb - 1, rpb, rfl, rfl, T2, by omega⟩
              case measure => simp [intOf]; omega

          · have c1' : qIb ≤ 4294967295 := by omega
            have fA0 : IntKind.u64.wrap (((qb : Nat) : Int) * (d0 : Int)) = ((qb * d0 : Nat) : Int) := by
              rw [← Int.natCast_mul]
              have : qb * d0 ≤ 4294967295 * 4294967295 := Nat.mul_le_mul (show qb ≤ 4294967295 by omega) (show d0 ≤ 4294967295 by omega)
              exact wrapS _ (by omega)
            rw [← hqb] at fA0
            obtain ⟨A, hA⟩ : ∃ A : Int, A = ((qb * d0 : Nat) : Int) := ⟨_, rfl⟩
            have fA : IntKind.u64.wrap (qIb * (d0 : Int)) = A := fA0.trans hA.symm
            obtain ⟨E, hE⟩ : ∃ E : Int, E = 4294967296 * rIb + (u0 : Int) := ⟨_, rfl⟩
            obtain ⟨E1, hE1⟩ : ∃ E1 : Int, E1 = 4294967296 * rIb := ⟨_, rfl⟩
            have fE1 : IntKind.u64.wrap (4294967296 * rIb) = E1 := by rw [IntKind.wrap_u64, hE1]; omega
            have fE1' : 4294967296 * rIb = E1 := hE1.symm
            have fE : IntKind.u64.wrap (E1 + (u0 : Int)) = E := by rw [IntKind.wrap_u64, hE1, hE]; omega
            have fE' : E1 + (u0 : Int) = E := by rw [hE1, hE]
            clear fA0
            by_cases c3 : 4294967296 * rhb + u0 < qb * d0
            · obtain ⟨t1, t2, t3⟩ := dig_next b1 hRd b5 hdigb (.inr c3)
              generalize qb * d0 = A0 at *
              have c3' : decide (E < A) = true := decide_eq_true (by omega)
              clear c1 c3 hA hE hE1
              obtain ⟨rpb, hrpb⟩ : ∃ rp : Int, rp = rIb + (d1 : Int) := ⟨_, rfl⟩
              have p3b : rIb + (d1 : Int) = rpb := hrpb.symm
              have p4b : IntKind.u64.wrap (rIb + (d1 : Int)) = rpb := by rw [p3b, IntKind.wrap_u64]; omega
              have p5b : 0 ≤ rpb := by omega
              have p6b : rpb ≤ 8589934591 := by omega
              have edb : ((qb - 1 : Nat) : Int) = qIb - 1 := by omega
              have i4b : 1 ≤ qIb := by omega
              by_cases c2 : 4294967296 ≤ rhb + d1
              · have c2' : 4294967296 ≤ rpb := by omega
                have hdb := dig_leave b1 b3 t2 t3 c2
                clear t1 t2 t3 c2 hqb hrb hdigb hnb hmb hrpb
                generalize qb - 1 = mb at *
                obtain ⟨v1, v2⟩ := dig_rest R u0 (d1 * 4294967296 + d0) mb (by omega) hdb
                have q0b : mb < 4294967296 := by
                  rw [hdb, Nat.div_lt_iff_lt_mul (by omega)]
                  omega
                rw [← hYd_.out] at v1 v2
                obtain ⟨RB, S2, T2, n1, n2, n3, n4, -, -, -⟩ := rest_wrap R u0 Y mb _ v1 (by omega) (by omega)
                have hfin := two_digits H u1 u0 Y ma R mb _ rest1.out v1 v2
                have hun := unshift (hi * 18446744073709551616 + lo) y s
                rw [← hval.out, ← hYs.out, hfin.1, hfin.2] at hun
                obtain ⟨f1, f2⟩ := hun
                obtain ⟨R0, hR0⟩ : ∃ R0, (R * 4294967296 + u0) % Y = R0 := ⟨_, rfl⟩
                rw [hR0] at n4 f2
                rw [HQ.out.1] at f1
                rw [HQ.out.2] at f2
                have n5 : (R0 : Int) / 2 ^ s = ((R0 / 2 ^ s : Nat) : Int) := by rw [pow_cast, ← Int.natCast_ediv]
                rw [f2] at n5
                have m1 : IntKind.u64.wrap ((ma : Int) * 4294967296) = ((ma * 4294967296 : Nat) : Int) := by rw [show (ma : Int) * 4294967296 = ((ma * 4294967296 : Nat) : Int) from by omega]; exact wrapS _ (by have := mab.out; omega)
                have m2 : IntKind.u64.wrap (((ma * 4294967296 : Nat) : Int) + (mb : Int)) = ((ma * 4294967296 + mb : Nat) : Int) := by rw [← Int.natCast_add]; exact wrapS _ (by have := mab.out; omega)
                rw [f1] at m2
                rw [eda.out] at m1
                rw [edb] at m2 n3
                clear f1 f2 v1 v2 hdb hfin hval hYs rest1 edb q0b hR0
                obtain ⟨qb, hqb⟩ : ∃ qb, ((ma * 4294967296 : Nat) : Int) = qb := ⟨_, rfl⟩
                rw [hqb] at m1 m2
                clear hqb HQ
                go_wp2_with fail
                go_ret2
                exact ⟨rfl, Below.refl _ _⟩
              · have c2' : rpb ≤ 4294967295 := by omega
                have T2 : Hid (∃ q rh : Nat, qIb - 1 = q ∧ rpb = rh ∧ Dig R u0 d1 d0 q rh ∧ rh < 4294967296 ∧ q ≤ 4294967297) := Lib.hid ⟨_, _, edb.symm, (by omega), t2, (by omega), (by omega)⟩
                clear t1 t2 t3 c2 hqb hrb hdigb hnb hmb hrpb edb
                go_wp2_with fail
                go_round
                case rel => exact ⟨qIb - 1, rpb, rfl, rfl, T2, by omega⟩
                case measure => simp [intOf]; omega

            · have hdb := dig_stop b1 hdigb (by omega)
              generalize qb * d0 = A0 at *
              have c3' : decide (E < A) = false := decide_eq_false (by omega)
              have edb : ((qb : Nat) : Int) = qIb := hqb.symm
              clear c1 c3 hA hE hE1 hqb hrb hdigb hnb hmb
              generalize qb = mb at *
              obtain ⟨v1, v2⟩ := dig_rest R u0 (d1 * 4294967296 + d0) mb (by omega) hdb
              have q0b : mb < 4294967296 := by
                rw [hdb, Nat.div_lt_iff_lt_mul (by omega)]
                omega
              rw [← hYd_.out] at v1 v2
              obtain ⟨RB, S2, T2, n1, n2, n3, n4, -, -, -⟩ := rest_wrap R u0 Y mb _ v1 (by omega) (by omega)
              have hfin := two_digits H u1 u0 Y ma R mb _ rest1.out v1 v2
              have hun := unshift (hi * 18446744073709551616 + lo) y s
              rw [← hval.out, ← hYs.out, hfin.1, hfin.2] at hun
              obtain ⟨f1, f2⟩ := hun
              obtain ⟨R0, hR0⟩ : ∃ R0, (R * 4294967296 + u0) % Y = R0 := ⟨_, rfl⟩
              rw [hR0] at n4 f2
              rw [HQ.out.1] at f1
              rw [HQ.out.2] at f2
              have n5 : (R0 : Int) / 2 ^ s = ((R0 / 2 ^ s : Nat) : Int) := by rw [pow_cast, ← Int.natCast_ediv]
              rw [f2] at n5
              have m1 : IntKind.u64.wrap ((ma : Int) * 4294967296) = ((ma * 4294967296 : Nat) : Int) := by rw [show (ma : Int) * 4294967296 = ((ma * 4294967296 : Nat) : Int) from by omega]; exact wrapS _ (by have := mab.out; omega)
              have m2 : IntKind.u64.wrap (((ma * 4294967296 : Nat) : Int) + (mb : Int)) = ((ma * 4294967296 + mb : Nat) : Int) := by rw [← Int.natCast_add]; exact wrapS _ (by have := mab.out; omega)
              rw [f1] at m2
              rw [eda.out] at m1
              rw [edb] at m2 n3
              clear f1 f2 v1 v2 hdb hfin hval hYs rest1 edb q0b hR0
              obtain ⟨qb, hqb⟩ : ∃ qb, ((ma * 4294967296 : Nat) : Int) = qb := ⟨_, rfl⟩
              rw [hqb] at m1 m2
              clear hqb HQ
              go_wp2_with fail
              go_ret2
              exact ⟨rfl, Below.refl _ _⟩
      · have c2' : rpa ≤ 4294967295 := by omega
        have T2 : Hid (∃ q rh : Nat, qIa - 1 = q ∧ rpa = rh ∧ Dig H u1 d1 d0 q rh ∧ rh < 4294967296 ∧ q ≤ 4294967297) := Lib.hid ⟨_, _, eda.symm, (by omega), t2, (by omega), (by omega)⟩
        clear t1 t2 t3 c2 hqa hra hdiga hna hma hrpa eda
        go_wp2_with fail
        go_round
        case rel => exact ⟨qIa - 1, rpa, rfl, rfl, T2, by omega⟩
        case measure => simp [intOf]; omega

    · have c1' : qIa ≤ 4294967295 := by omega
      have fA0 : IntKind.u64.wrap (((qa : Nat) : Int) * (d0 : Int)) = ((qa * d0 : Nat) : Int) := by
        rw [← Int.natCast_mul]
        have : qa * d0 ≤ 4294967295 * 4294967295 := Nat.mul_le_mul (show qa ≤ 4294967295 by omega) (show d0 ≤ 4294967295 by omega)
        exact wrapS _ (by omega)
      rw [← hqa] at fA0
      obtain ⟨A, hA⟩ : ∃ A : Int, A = ((qa * d0 : Nat) : Int) := ⟨_, rfl⟩
      have fA : IntKind.u64.wrap (qIa * (d0 : Int)) = A := fA0.trans hA.symm
      obtain ⟨E, hE⟩ : ∃ E : Int, E = 4294967296 * rIa + (u1 : Int) := ⟨_, rfl⟩
      obtain ⟨E1, hE1⟩ : ∃ E1 : Int, E1 = 4294967296 * rIa := ⟨_, rfl⟩
      have fE1 : IntKind.u64.wrap (4294967296 * rIa) = E1 := by rw [IntKind.wrap_u64, hE1]; omega
      have fE1' : 4294967296 * rIa = E1 := hE1.symm
      have fE : IntKind.u64.wrap (E1 + (u1 : Int)) = E := by rw [IntKind.wrap_u64, hE1, hE]; omega
      have fE' : E1 + (u1 : Int) = E := by rw [hE1, hE]
      clear fA0
      by_cases c3 : 4294967296 * rha + u1 < qa * d0
      · obtain ⟨t1, t2, t3⟩ := dig_next b1 hHd b4 hdiga (.inr c3)
        generalize qa * d0 = A0 at *
        have c3' : decide (E < A) = true := decide_eq_true (by omega)
        clear c1 c3 hA hE hE1
        obtain ⟨rpa, hrpa⟩ : ∃ rp : Int, rp = rIa + (d1 : Int) := ⟨_, rfl⟩
        have p3a : rIa + (d1 : Int) = rpa := hrpa.symm
        have p4a : IntKind.u64.wrap (rIa + (d1 : Int)) = rpa := by rw [p3a, IntKind.wrap_u64]; omega
        have p5a : 0 ≤ rpa := by omega
        have p6a : rpa ≤ 8589934591 := by omega
        have eda : ((qa - 1 : Nat) : Int) = qIa - 1 := by omega
        have i4a : 1 ≤ qIa := by omega
        by_cases c2 : 4294967296 ≤ rha + d1
        · have c2' : 4294967296 ≤ rpa := by omega
          have hda := dig_leave b1 b3 t2 t3 c2
          clear t1 t2 t3 c2 hqa hra hdiga hna hma hrpa
          generalize qa - 1 = ma at *
          obtain ⟨v1, v2⟩ := dig_rest H u1 (d1 * 4294967296 + d0) ma (by omega) hda
          have mab0 : ma < 4294967296 := by
            rw [hda, Nat.div_lt_iff_lt_mul (by omega)]
            omega
          have mab := Lib.hid mab0
          rw [← hYd_.out] at v1 v2
          obtain ⟨HB, S, T, k1, k2, k3, k4, -, -, -⟩ := rest_wrap H u1 Y ma _ v1 (by omega) (by omega)
          obtain ⟨R, hR_⟩ : ∃ R, (H * 4294967296 + u1) % Y = R := ⟨_, rfl⟩
          rw [hR_] at v1 v2 k4
          have hRd : R < d1 * 4294967296 + d0 := by rw [← hYd_.out]; exact v2
          clear hR_
          obtain ⟨qj, rj, pj, x1, x5, x2, x3, x4, x6, x7⟩ := try_all R u0 d1 d0 b1 b2 b3 b5 hRd (by omega)
          have x8 := x6.top
          have x9 : Hid (∃ q rh : Nat, (qj : Int) = q ∧ (rj : Int) = rh ∧ Dig R u0 d1 d0 q rh ∧ rh < 4294967296 ∧ q ≤ 4294967297) := Lib.hid ⟨qj, rj, rfl, rfl, x6, x7, x8⟩
          have rest1 := Lib.hid v1
          have eda0 := Lib.hid eda
          rw [eda] at k3
          clear hda v1 mab0 eda x6 x7 x8
          have eda := eda0
          clear eda0
          go_wp2_with fail
          go_loop [18, 16] (fun x z => ∃ qI rI : Int, x = .int .u64 qI ∧ z = .int .u64 rI ∧ Hid (∃ q rh : Nat, qI = q ∧ rI = rh ∧ Dig R u0 d1 d0 q rh ∧ rh < 4294967296 ∧ q ≤ 4294967297) ∧ 0 ≤ qI) (fun x _ => (intOf x).toNat)
          case atStart => exact ⟨qj, rj, rfl, rfl, x9, by omega⟩
          case round =>
            clear x1 x2 x3 x4 x5 x9 k1 k2 k3 k4
            obtain ⟨qIb, rIb, rfl, rfl, hhb, hIb⟩ := hrel
            obtain ⟨qb, rhb, hqb, hrb, hdigb, hnb, hmb⟩ := hhb.out
            clear hhb
            have i1b : qIb ≤ 4294967297 := by omega
            have i2b : 0 ≤ rIb := by omega
            have i3b : rIb ≤ 4294967295 := by omega
            by_cases c1 : 4294967296 ≤ qb
            · obtain ⟨t1, t2, t3⟩ := dig_next b1 hRd b5 hdigb (.inl c1)
              have c1' : 4294967296 ≤ qIb := by omega
              clear c1
              obtain ⟨rpb, hrpb⟩ : ∃ rp : Int, rp = rIb + (d1 : Int) := ⟨_, rfl⟩
              have p3b : rIb + (d1 : Int) = rpb := hrpb.symm
              have p4b : IntKind.u64.wrap (rIb + (d1 : Int)) = rpb := by rw [p3b, IntKind.wrap_u64]; omega
              have p5b : 0 ≤ rpb := by omega
              have p6b : rpb ≤ 8589934591 := by omega
              have edb : ((qb - 1 : Nat) : Int) = qIb - 1 := by omega
              have i4b : 1 ≤ qIb := by omega
              by_cases c2 : 4294967296 ≤ rhb + d1
              · have c2' : 4294967296 ≤ rpb := by omega
                have hdb := dig_leave b1 b3 t2 t3 c2
                clear t1 t2 t3 c2 hqb hrb hdigb hnb hmb hrpb
                generalize qb - 1 = mb at *
                obtain ⟨v1, v2⟩ := dig_rest R u0 (d1 * 4294967296 + d0) mb (by omega) hdb
                have q0b : mb < 4294967296 := by
                  rw [hdb, Nat.div_lt_iff_lt_mul (by omega)]
                  omega
                rw [← hYd_.out] at v1 v2
                obtain ⟨RB, S2, T2, n1, n2, n3, n4, -, -, -⟩ := rest_wrap R u0 Y mb _ v1 (by omega) (by omega)
                have hfin := two_digits H u1 u0 Y ma R mb _ rest1.out v1 v2
                have hun := unshift (hi * 18446744073709551616 + lo) y s
                rw [← hval.out, ← hYs.out, hfin.1, hfin.2] at hun
                obtain ⟨f1, f2⟩ := hun
                obtain ⟨R0, hR0⟩ : ∃ R0, (R * 4294967296 + u0) % Y = R0 := ⟨_, rfl⟩
                rw [hR0] at n4 f2
                rw [HQ.out.1] at f1
                rw [HQ.out.2] at f2
                have n5 : (R0 : Int) / 2 ^ s = ((R0 / 2 ^ s : Nat) : Int) := by rw [pow_cast, ← Int.natCast_ediv]
                rw [f2] at n5
                have m1 : IntKind.u64.wrap ((ma : Int) * 4294967296) = ((ma * 4294967296 : Nat) : Int) := by rw [show (ma : Int) * 4294967296 = ((ma * 4294967296 : Nat) : Int) from by omega]; exact wrapS _ (by have := mab.out; omega)
                have m2 : IntKind.u64.wrap (((ma * 4294967296 : Nat) : Int) + (mb : Int)) = ((ma * 4294967296 + mb : Nat) : Int) := by rw [← Int.natCast_add]; exact wrapS _ (by have := mab.out; omega)
                rw [f1] at m2
                rw [eda.out] at m1
                rw [edb] at m2 n3
                clear f1 f2 v1 v2 hdb hfin hval hYs rest1 edb q0b hR0
                obtain ⟨qb, hqb⟩ : ∃ qb, ((ma * 4294967296 : Nat) : Int) = qb := ⟨_, rfl⟩
                rw [hqb] at m1 m2
                clear hqb HQ
                go_wp2_with fail
                go_ret2
                exact ⟨rfl, Below.refl _ _⟩
              · have c2' : rpb ≤ 4294967295 := by omega
                have T2 : Hid (∃ q rh : Nat, qIb - 1 = q ∧ rpb = rh ∧ Dig R u0 d1 d0 q rh ∧ rh < 4294967296 ∧ q ≤ 4294967297) := Lib.hid ⟨_, _, edb.symm, (by omega), t2, (by omega), (by omega)⟩
                clear t1 t2 t3 c2 hqb hrb hdigb hnb hmb hrpb edb
                go_wp2_with fail
                go_round
                case rel => exact ⟨qIb - 1, rpb, rfl, rfl, T2, by omega⟩
                case measure => simp [intOf]; omega

            · have c1' : qIb ≤ 4294967295 := by omega
              have fA0 : IntKind.u64.wrap (((qb : Nat) : Int) * (d0 : Int)) = ((qb * d0 : Nat) : Int) := by
                rw [← Int.natCast_mul]
                have : qb * d0 ≤ 4294967295 * 4294967295 := Nat.mul_le_mul (show qb ≤ 4294967295 by omega) (show d0 ≤ 4294967295 by omega)
                exact wrapS _ (by omega)
              rw [← hqb] at fA0
              obtain ⟨A, hA⟩ : ∃ A : Int, A = ((qb * d0 : Nat) : Int) := ⟨_, rfl⟩
              have fA : IntKind.u64.wrap (qIb * (d0 : Int)) = A := fA0.trans hA.symm
              obtain ⟨E, hE⟩ : ∃ E : Int, E = 4294967296 * rIb + (u0 : Int) := ⟨_, rfl⟩
              obtain ⟨E1, hE1⟩ : ∃ E1 : Int, E1 = 4294967296 * rIb := ⟨_, rfl⟩
              have fE1 : IntKind.u64.wrap (4294967296 * rIb) = E1 := by rw [IntKind.wrap_u64, hE1]; omega
              have fE1' : 4294967296 * rIb = E1 := hE1.symm
              have fE : IntKind.u64.wrap (E1 + (u0 : Int)) = E := by rw [IntKind.wrap_u64, hE1, hE]; omega
              have fE' : E1 + (u0 : Int) = E := by rw [hE1, hE]
              clear fA0
              by_cases c3 : 4294967296 * rhb + u0 < qb * d0
              · obtain ⟨t1, t2, t3⟩ := dig_next b1 hRd b5 hdigb (.inr c3)
                generalize qb * d0 = A0 at *
                have c3' : decide (E < A) = true := decide_eq_true (by omega)
                clear c1 c3 hA hE hE1
                obtain ⟨rpb, hrpb⟩ : ∃ rp : Int, rp = rIb + (d1 : Int) := ⟨_, rfl⟩
                have p3b : rIb + (d1 : Int) = rpb := hrpb.symm
                have p4b : IntKind.u64.wrap (rIb + (d1 : Int)) = rpb := by rw [p3b, IntKind.wrap_u64]; omega
                have p5b : 0 ≤ rpb := by omega
                have p6b : rpb ≤ 8589934591 := by omega
                have edb : ((qb - 1 : Nat) : Int) = qIb - 1 := by omega
                have i4b : 1 ≤ qIb := by omega
                by_cases c2 : 4294967296 ≤ rhb + d1
                · have c2' : 4294967296 ≤ rpb := by omega
                  have hdb := dig_leave b1 b3 t2 t3 c2
                  clear t1 t2 t3 c2 hqb hrb hdigb hnb hmb hrpb
                  generalize qb - 1 = mb at *
                  obtain ⟨v1, v2⟩ := dig_rest R u0 (d1 * 4294967296 + d0) mb (by omega) hdb
                  have q0b : mb < 4294967296 := by
                    rw [hdb, Nat.div_lt_iff_lt_mul (by omega)]
                    omega
                  rw [← hYd_.out] at v1 v2
                  obtain ⟨RB, S2, T2, n1, n2, n3, n4, -, -, -⟩ := rest_wrap R u0 Y mb _ v1 (by omega) (by omega)
                  have hfin := two_digits H u1 u0 Y ma R mb _ rest1.out v1 v2
                  have hun := unshift (hi * 18446744073709551616 + lo) y s
                  rw [← hval.out, ← hYs.out, hfin.1, hfin.2] at hun
                  obtain ⟨f1, f2⟩ := hun
                  obtain ⟨R0, hR0⟩ : ∃ R0, (R * 4294967296 + u0) % Y = R0 := ⟨_, rfl⟩
                  rw [hR0] at n4 f2
                  rw [HQ.out.1] at f1
                  rw [HQ.out.2] at f2
                  have n5 : (R0 : Int) / 2 ^ s = ((R0 / 2 ^ s : Nat) : Int) := by rw [pow_cast, ← Int.natCast_ediv]
                  rw [f2] at n5
                  have m1 : IntKind.u64.wrap ((ma : Int) * 4294967296) = ((ma * 4294967296 : Nat) : Int) := by rw [show (ma : Int) * 4294967296 = ((ma * 4294967296 : Nat) : Int) from by omega]; exact wrapS _ (by have := mab.out; omega)
                  have m2 : IntKind.u64.wrap (((ma * 4294967296 : Nat) : Int) + (mb : Int)) = ((ma * 4294967296 + mb : Nat) : Int) := by rw [← Int.natCast_add]; exact wrapS _ (by have := mab.out; omega)
                  rw [f1] at m2
                  rw [eda.out] at m1
                  rw [edb] at m2 n3
                  clear f1 f2 v1 v2 hdb hfin hval hYs rest1 edb q0b hR0
                  obtain ⟨qb, hqb⟩ : ∃ qb, ((ma * 4294967296 : Nat) : Int) = qb := ⟨_, rfl⟩
                  rw [hqb] at m1 m2
                  clear hqb HQ
                  go_wp2_with fail
                  go_ret2
                  exact ⟨rfl, Below.refl _ _⟩
                · have c2' : rpb ≤ 4294967295 := by omega
                  have T2 : Hid (∃ q rh : Nat, qIb - 1 = q ∧ rpb = rh ∧ Dig R u0 d1 d0 q rh ∧ rh < 4294967296 ∧ q ≤ 4294967297) := Lib.hid ⟨_, _, edb.symm, (by omega), t2, (by omega), (by omega)⟩
                  clear t1 t2 t3 c2 hqb hrb hdigb hnb hmb hrpb edb
                  go_wp2_with fail
                  go_round
                  case rel => exact ⟨qIb - 1, rpb, rfl, rfl, T2, by omega⟩
                  case measure => simp [intOf]; omega

              · have hdb := dig_stop b1 hdigb (by omega)
                generalize qb * d0 = A0 at *
                have c3' : decide (E < A) = false := decide_eq_false (by omega)
                have edb : ((qb : Nat) : Int) = qIb := hqb.symm
                clear c1 c3 hA hE hE1 hqb hrb hdigb hnb hmb
                generalize qb = mb at *
                obtain ⟨v1, v2⟩ := dig_rest R u0 (d1 * 4294967296 + d0) mb (by omega) hdb
                have q0b : mb < 4294967296 := by
                  rw [hdb, Nat.div_lt_iff_lt_mul (by omega)]
                  omega
                rw [← hYd_.out] at v1 v2
                obtain ⟨RB, S2, T2, n1, n2, n3, n4, -, -, -⟩ := rest_wrap R u0 Y mb _ v1 (by omega) (by omega)
                have hfin := two_digits H u1 u0 Y ma R mb _ rest1.out v1 v2
                have hun := unshift (hi * 18446744073709551616 + lo) y s
                rw [← hval.out, ← hYs.out, hfin.1, hfin.2] at hun
                obtain ⟨f1, f2⟩ := hun
                obtain ⟨R0, hR0⟩ : ∃ R0, (R * 4294967296 + u0) % Y = R0 := ⟨_, rfl⟩
                rw [hR0] at n4 f2
                rw [HQ.out.1] at f1
                rw [HQ.out.2] at f2
                have n5 : (R0 : Int) / 2 ^ s = ((R0 / 2 ^ s : Nat) : Int) := by rw [pow_cast, ← Int.natCast_ediv]
                rw [f2] at n5
                have m1 : IntKind.u64.wrap ((ma : Int) * 4294967296) = ((ma * 4294967296 : Nat) : Int) := by rw [show (ma : Int) * 4294967296 = ((ma * 4294967296 : Nat) : Int) from by omega]; exact wrapS _ (by have := mab.out; omega)
                have m2 : IntKind.u64.wrap (((ma * 4294967296 : Nat) : Int) + (mb : Int)) = ((ma * 4294967296 + mb : Nat) : Int) := by rw [← Int.natCast_add]; exact wrapS _ (by have := mab.out; omega)
                rw [f1] at m2
                rw [eda.out] at m1
                rw [edb] at m2 n3
                clear f1 f2 v1 v2 hdb hfin hval hYs rest1 edb q0b hR0
                obtain ⟨qb, hqb⟩ : ∃ qb, ((ma * 4294967296 : Nat) : Int) = qb := ⟨_, rfl⟩
                rw [hqb] at m1 m2
                clear hqb HQ
                go_wp2_with fail
                go_ret2
                exact ⟨rfl, Below.refl _ _⟩
        · have c2' : rpa ≤ 4294967295 := by omega
          have T2 : Hid (∃ q rh : Nat, qIa - 1 = q ∧ rpa = rh ∧ Dig H u1 d1 d0 q rh ∧ rh < 4294967296 ∧ q ≤ 4294967297) := Lib.hid ⟨_, _, eda.symm, (by omega), t2, (by omega), (by omega)⟩
          clear t1 t2 t3 c2 hqa hra hdiga hna hma hrpa eda
          go_wp2_with fail
          go_round
          case rel => exact ⟨qIa - 1, rpa, rfl, rfl, T2, by omega⟩
          case measure => simp [intOf]; omega

      · have hda := dig_stop b1 hdiga (by omega)
        generalize qa * d0 = A0 at *
        have c3' : decide (E < A) = false := decide_eq_false (by omega)
        have eda : ((qa : Nat) : Int) = qIa := hqa.symm
        clear c1 c3 hA hE hE1 hqa hra hdiga hna hma
        generalize qa = ma at *
        obtain ⟨v1, v2⟩ := dig_rest H u1 (d1 * 4294967296 + d0) ma (by omega) hda
        have mab0 : ma < 4294967296 := by
          rw [hda, Nat.div_lt_iff_lt_mul (by omega)]
          omega
        have mab := Lib.hid mab0
        rw [← hYd_.out] at v1 v2
        obtain ⟨HB, S, T, k1, k2, k3, k4, -, -, -⟩ := rest_wrap H u1 Y ma _ v1 (by omega) (by omega)
        obtain ⟨R, hR_⟩ : ∃ R, (H * 4294967296 + u1) % Y = R := ⟨_, rfl⟩
        rw [hR_] at v1 v2 k4
        have hRd : R < d1 * 4294967296 + d0 := by rw [← hYd_.out]; exact v2
        clear hR_
        obtain ⟨qj, rj, pj, x1, x5, x2, x3, x4, x6, x7⟩ := try_all R u0 d1 d0 b1 b2 b3 b5 hRd (by omega)
        have x8 := x6.top
        have x9 : Hid (∃ q rh : Nat, (qj : Int) = q ∧ (rj : Int) = rh ∧ Dig R u0 d1 d0 q rh ∧ rh < 4294967296 ∧ q ≤ 4294967297) := Lib.hid ⟨qj, rj, rfl, rfl, x6, x7, x8⟩
        have rest1 := Lib.hid v1
        have eda0 := Lib.hid eda
        rw [eda] at k3
        clear hda v1 mab0 eda x6 x7 x8
        have eda := eda0
        clear eda0
        go_wp2_with fail
        go_loop [18, 16] (fun x z => ∃ qI rI : Int, x = .int .u64 qI ∧ z = .int .u64 rI ∧ Hid (∃ q rh : Nat, qI = q ∧ rI = rh ∧ Dig R u0 d1 d0 q rh ∧ rh < 4294967296 ∧ q ≤ 4294967297) ∧ 0 ≤ qI) (fun x _ => (intOf x).toNat)
        case atStart => exact ⟨qj, rj, rfl, rfl, x9, by omega⟩
        case round =>
          clear x1 x2 x3 x4 x5 x9 k1 k2 k3 k4
          obtain ⟨qIb, rIb, rfl, rfl, hhb, hIb⟩ := hrel
          obtain ⟨qb, rhb, hqb, hrb, hdigb, hnb, hmb⟩ := hhb.out
          clear hhb
          have i1b : qIb ≤ 4294967297 := by omega
          have i2b : 0 ≤ rIb := by omega
          have i3b : rIb ≤ 4294967295 := by omega
          by_cases c1 : 4294967296 ≤ qb
          · obtain ⟨t1, t2, t3⟩ := dig_next b1 hRd b5 hdigb (.inl c1)
            have c1' : 4294967296 ≤ qIb := by omega
            clear c1
            obtain ⟨rpb, hrpb⟩ : ∃ rp : Int, rp = rIb + (d1 : Int) := ⟨_, rfl⟩
            have p3b : rIb + (d1 : Int) = rpb := hrpb.symm
            have p4b : IntKind.u64.wrap (rIb + (d1 : Int)) = rpb := by rw [p3b, IntKind.wrap_u64]; omega
            have p5b : 0 ≤ rpb := by omega
            have p6b : rpb ≤ 8589934591 := by omega
            have edb : ((qb - 1 : Nat) : Int) = qIb - 1 := by omega
            have i4b : 1 ≤ qIb := by omega
            by_cases c2 : 4294967296 ≤ rhb + d1
            · have c2' : 4294967296 ≤ rpb := by omega
              have hdb := dig_leave b1 b3 t2 t3 c2
              clear t1 t2 t3 c2 hqb hrb hdigb hnb hmb hrpb
              generalize qb - 1 = mb at *
              obtain ⟨v1, v2⟩ := dig_rest R u0 (d1 * 4294967296 + d0) mb (by omega) hdb
              have q0b : mb < 4294967296 := by
                rw [hdb, Nat.div_lt_iff_lt_mul (by omega)]
                omega
              rw [← hYd_.out] at v1 v2
              obtain ⟨RB, S2, T2, n1, n2, n3, n4, -, -, -⟩ := rest_wrap R u0 Y mb _ v1 (by omega) (by omega)
              have hfin := two_digits H u1 u0 Y ma R mb _ rest1.out v1 v2
              have hun := unshift (hi * 18446744073709551616 + lo) y s
              rw [← hval.out, ← hYs.out, hfin.1, hfin.2] at hun
              obtain ⟨f1, f2⟩ := hun
              obtain ⟨R0, hR0⟩ : ∃ R0, (R * 4294967296 + u0) % Y = R0 := ⟨_, rfl⟩
              rw [hR0] at n4 f2
              rw [HQ.out.1] at f1
              rw [HQ.out.2] at f2
              have n5 : (R0 : Int) / 2 ^ s = ((R0 / 2 ^ s : Nat) : Int) := by rw [pow_cast, ← Int.natCast_ediv]
              rw [f2] at n5
              have m1 : IntKind.u64.wrap ((ma : Int) * 4294967296) = ((ma * 4294967296 : Nat) : Int) := by rw [show (ma : Int) * 4294967296 = ((ma * 4294967296 : Nat) : Int) from by omega]; exact wrapS _ (by have := mab.out; omega)
              have m2 : IntKind.u64.wrap (((ma * 4294967296 : Nat) : Int) + (mb : Int)) = ((ma * 4294967296 + mb : Nat) : Int) := by rw [← Int.natCast_add]; exact wrapS _ (by have := mab.out; omega)
              rw [f1] at m2
              rw [eda.out] at m1
              rw [edb] at m2 n3
              clear f1 f2 v1 v2 hdb hfin hval hYs rest1 edb q0b hR0
              obtain ⟨qb, hqb⟩ : ∃ qb, ((ma * 4294967296 : Nat) : Int) = qb := ⟨_, rfl⟩
              rw [hqb] at m1 m2
              clear hqb HQ
              go_wp2_with fail
              go_ret2
              exact ⟨rfl, Below.refl _ _⟩
            · have c2' : rpb ≤ 4294967295 := by omega
              have T2 : Hid (∃ q rh : Nat, qIb - 1 = q ∧ rpb = rh ∧ Dig R u0 d1 d0 q rh ∧ rh < 4294967296 ∧ q ≤ 4294967297) := Lib.hid ⟨_, _, edb.symm, (by omega), t2, (by omega), (by omega)⟩
              clear t1 t2 t3 c2 hqb hrb hdigb hnb hmb hrpb edb
              go_wp2_with fail
              go_round
              case rel => exact ⟨qIb - 1, rpb, rfl, rfl, T2, by omega⟩
              case measure => simp [intOf]; omega

          · have c1' : qIb ≤ 4294967295 := by omega
            have fA0 : IntKind.u64.wrap (((qb : Nat) : Int) * (d0 : Int)) = ((qb * d0 : Nat) : Int) := by
              rw [← Int.natCast_mul]
              have : qb * d0 ≤ 4294967295 * 4294967295 := Nat.mul_le_mul (show qb ≤ 4294967295 by omega) (show d0 ≤ 4294967295 by omega)
              exact wrapS _ (by omega)
            rw [← hqb] at fA0
            obtain ⟨A, hA⟩ : ∃ A : Int, A = ((qb * d0 : Nat) : Int) := ⟨_, rfl⟩
            have fA : IntKind.u64.wrap (qIb * (d0 : Int)) = A := fA0.trans hA.symm
            obtain ⟨E, hE⟩ : ∃ E : Int, E = 4294967296 * rIb + (u0 : Int) := ⟨_, rfl⟩
            obtain ⟨E1, hE1⟩ : ∃ E1 : Int, E1 = 4294967296 * rIb := ⟨_, rfl⟩
            have fE1 : IntKind.u64.wrap (4294967296 * rIb) = E1 := by rw [IntKind.wrap_u64, hE1]; omega
            have fE1' : 4294967296 * rIb = E1 := hE1.symm
            have fE : IntKind.u64.wrap (E1 + (u0 : Int)) = E := by rw [IntKind.wrap_u64, hE1, hE]; omega
            have fE' : E1 + (u0 : Int) = E := by rw [hE1, hE]
            clear fA0
            by_cases c3 : 4294967296 * rhb + u0 < qb * d0
            · obtain ⟨t1, t2, t3⟩ := dig_next b1 hRd b5 hdigb (.inr c3)
              generalize qb * d0 = A0 at *
              have c3' : decide (E < A) = true := decide_eq_true (by omega)
              clear c1 c3 hA hE hE1
              obtain ⟨rpb, hrpb⟩ : ∃ rp : Int, rp = rIb + (d1 : Int) := ⟨_, rfl⟩
              have p3b : rIb + (d1 : Int) = rpb := hrpb.symm
              have p4b : IntKind.u64.wrap (rIb + (d1 : Int)) = rpb := by rw [p3b, IntKind.wrap_u64]; omega
              have p5b : 0 ≤ rpb := by omega
              have p6b : rpb ≤ 8589934591 := by omega
              have edb : ((qb - 1 : Nat) : Int) = qIb - 1 := by omega
              have i4b : 1 ≤ qIb := by omega
              by_cases c2 : 4294967296 ≤ rhb + d1
              · have c2' : 4294967296 ≤ rpb := by omega
                have hdb := dig_leave b1 b3 t2 t3 c2
                clear t1 t2 t3 c2 hqb hrb hdigb hnb hmb hrpb
                generalize qb - 1 = mb at *
                obtain ⟨v1, v2⟩ := dig_rest R u0 (d1 * 4294967296 + d0) mb (by omega) hdb
                have q0b : mb < 4294967296 := by
                  rw [hdb, Nat.div_lt_iff_lt_mul (by omega)]
                  omega
                rw [← hYd_.out] at v1 v2
                obtain ⟨RB, S2, T2, n1, n2, n3, n4, -, -, -⟩ := rest_wrap R u0 Y mb _ v1 (by omega) (by omega)
                have hfin := two_digits H u1 u0 Y ma R mb _ rest1.out v1 v2
                have hun := unshift (hi * 18446744073709551616 + lo) y s
                rw [← hval.out, ← hYs.out, hfin.1, hfin.2] at hun
                obtain ⟨f1, f2⟩ := hun
                obtain ⟨R0, hR0⟩ : ∃ R0, (R * 4294967296 + u0) % Y = R0 := ⟨_, rfl⟩
                rw [hR0] at n4 f2
                rw [HQ.out.1] at f1
                rw [HQ.out.2] at f2
                have n5 : (R0 : Int) / 2 ^ s = ((R0 / 2 ^ s : Nat) : Int) := by rw [pow_cast, ← Int.natCast_ediv]
                rw [f2] at n5
                have m1 : IntKind.u64.wrap ((ma : Int) * 4294967296) = ((ma * 4294967296 : Nat) : Int) := by rw [show (ma : Int) * 4294967296 = ((ma * 4294967296 : Nat) : Int) from by omega]; exact wrapS _ (by have := mab.out; omega)
                have m2 : IntKind.u64.wrap (((ma * 4294967296 : Nat) : Int) + (mb : Int)) = ((ma * 4294967296 + mb : Nat) : Int) := by rw [← Int.natCast_add]; exact wrapS _ (by have := mab.out; omega)
                rw [f1] at m2
                rw [eda.out] at m1
                rw [edb] at m2 n3
                clear f1 f2 v1 v2 hdb hfin hval hYs rest1 edb q0b hR0
                obtain ⟨qb, hqb⟩ : ∃ qb, ((ma * 4294967296 : Nat) : Int) = qb := ⟨_, rfl⟩
                rw [hqb] at m1 m2
                clear hqb HQ
                go_wp2_with fail
                go_ret2
                exact ⟨rfl, Below.refl _ _⟩
              · have c2' : rpb ≤ 4294967295 := by omega
                have T2 : Hid (∃ q rh : Nat, qIb - 1 = q ∧ rpb = rh ∧ Dig R u0 d1 d0 q rh ∧ rh < 4294967296 ∧ q ≤ 4294967297) := Lib.hid ⟨_, _, edb.symm, (by omega), t2, (by omega), (by omega)⟩
                clear t1 t2 t3 c2 hqb hrb hdigb hnb hmb hrpb edb
                go_wp2_with fail
                go_round
                case rel => exact ⟨qIb - 1, rpb, rfl, rfl, T2, by omega⟩
                case measure => simp [intOf]; omega

            · have hdb := dig_stop b1 hdigb (by omega)
              generalize qb * d0 = A0 at *
              have c3' : decide (E < A) = false := decide_eq_false (by omega)
              have edb : ((qb : Nat) : Int) = qIb := hqb.symm
              clear c1 c3 hA hE hE1 hqb hrb hdigb hnb hmb
              generalize qb = mb at *
              obtain ⟨v1, v2⟩ := dig_rest R u0 (d1 * 4294967296 + d0) mb (by omega) hdb
              have q0b : mb < 4294967296 := by
                rw [hdb, Nat.div_lt_iff_lt_mul (by omega)]
                omega
              rw [← hYd_.out] at v1 v2
              obtain ⟨RB, S2, T2, n1, n2, n3, n4, -, -, -⟩ := rest_wrap R u0 Y mb _ v1 (by omega) (by omega)
              have hfin := two_digits H u1 u0 Y ma R mb _ rest1.out v1 v2
              have hun := unshift (hi * 18446744073709551616 + lo) y s
              rw [← hval.out, ← hYs.out, hfin.1, hfin.2] at hun
              obtain ⟨f1, f2⟩ := hun
              obtain ⟨R0, hR0⟩ : ∃ R0, (R * 4294967296 + u0) % Y = R0 := ⟨_, rfl⟩
              rw [hR0] at n4 f2
              rw [HQ.out.1] at f1
              rw [HQ.out.2] at f2
              have n5 : (R0 : Int) / 2 ^ s = ((R0 / 2 ^ s : Nat) : Int) := by rw [pow_cast, ← Int.natCast_ediv]
              rw [f2] at n5
              have m1 : IntKind.u64.wrap ((ma : Int) * 4294967296) = ((ma * 4294967296 : Nat) : Int) := by rw [show (ma : Int) * 4294967296 = ((ma * 4294967296 : Nat) : Int) from by omega]; exact wrapS _ (by have := mab.out; omega)
              have m2 : IntKind.u64.wrap (((ma * 4294967296 : Nat) : Int) + (mb : Int)) = ((ma * 4294967296 + mb : Nat) : Int) := by rw [← Int.natCast_add]; exact wrapS _ (by have := mab.out; omega)
              rw [f1] at m2
              rw [eda.out] at m1
              rw [edb] at m2 n3
              clear f1 f2 v1 v2 hdb hfin hval hYs rest1 edb q0b hR0
              obtain ⟨qb, hqb⟩ : ∃ qb, ((ma * 4294967296 : Nat) : Int) = qb := ⟨_, rfl⟩
              rw [hqb] at m1 m2
              clear hqb HQ
              go_wp2_with fail
              go_ret2
              exact ⟨rfl, Below.refl _ _⟩
def capQ (x : Nat) : Int := if x ≤ 4503599627370496 then (x : Int) else 4503599627370497
theorem capQ_in (x : Nat) : 0 ≤ capQ x ∧ capQ x ≤ 4503599627370497 := by unfold capQ; split <;> omega
/-- one bit more -/
theorem bit_more (a n d k : Nat) (hd : 1 ≤ d) : n / 2 ^ k = 2 * (n / 2 ^ (k + 1)) + n / 2 ^ k % 2 ∧
    n / 2 ^ k * a / d = 2 * (n / 2 ^ (k + 1) * a / d) + (2 * (n / 2 ^ (k + 1) * a % d) + n / 2 ^ k % 2 * a) / d ∧
    n / 2 ^ k * a % d = (2 * (n / 2 ^ (k + 1) * a % d) + n / 2 ^ k % 2 * a) % d := by
  have h1 : n / 2 ^ (k + 1) = n / 2 ^ k / 2 := by rw [Nat.pow_succ, Nat.div_div_eq_div_mul]
  have h0 : n / 2 ^ k = 2 * (n / 2 ^ (k + 1)) + n / 2 ^ k % 2 := by rw [h1]; omega
  have e : n / 2 ^ k * a = d * (2 * (n / 2 ^ (k + 1) * a / d)) + (2 * (n / 2 ^ (k + 1) * a % d) + n / 2 ^ k % 2 * a) := by
    have hm := Nat.div_add_mod (n / 2 ^ (k + 1) * a) d
    have hx : n / 2 ^ k * a = 2 * (n / 2 ^ (k + 1) * a) + n / 2 ^ k % 2 * a := by
      rw [← Nat.mul_assoc, ← Nat.add_mul, ← h0]
    rw [hx, Nat.mul_left_comm d 2]
    generalize n / 2 ^ k % 2 * a = B at *
    generalize n / 2 ^ (k + 1) * a % d = R at *
    generalize d * (n / 2 ^ (k + 1) * a / d) = T at *
    omega
  refine ⟨h0, ?_, ?_⟩
  · rw [e, Nat.mul_add_div (by omega)]
  · rw [e, Nat.mul_add_mod]
theorem and_one (x : Nat) (hx : x < 2 ^ 62) : bits .and .i64 (x : Int) 1 = ((x % 2 : Nat) : Int) := by
  have h := bits_nat .i64 62 (by decide) (fun n h0 h1 => by rw [IntKind.wrap_i64]; omega) x 1 hx (by decide)
  have e : x &&& 1 = x % 2 := Nat.and_one_is_mod x
  rw [e] at h
  exact h.1
theorem cap_next (Q c : Nat) : (4503599627370496 < 2 * capQ Q + (c : Int) → capQ (2 * Q + c) = 4503599627370497) ∧ (2 * capQ Q + (c : Int) ≤ 4503599627370496 → capQ (2 * Q + c) = 2 * capQ Q + (c : Int)) := by
  unfold capQ
  constructor
  · intro h
    split at h
    · rw [if_neg (by omega)]
    · rw [if_neg (by omega)]
  · intro h
    split at h
    · rename_i hq
      rw [if_pos (by omega), if_pos hq]; omega
    · omega
set_option maxRecDepth 20000 in
set_option maxHeartbeats 2000000 in
theorem divide_any (a n d : Nat) (w : World) (ha : a ≤ 4503599627370496) (hn : n ≤ 4503599627370496) (hd1 : 1 ≤ d) (hd : d ≤ 70368744177664) :
    Calls Tryd.prog 40 #[.int .i64 a, .int .i64 n, .int .i64 d, .int .i64 4503599627370496] w fun e w' => e = .returned (.tuple #[.int .i64 (capQ (n * a / d)), .int .i64 ((n * a % d : Nat) : Int)]) ∧ w = w' := by
  have dz : ((d : Int) == 0) = false := beq_eq_false_iff_ne.2 (by omega)
  have dz2 : 1 ≤ (d : Int) := by omega
  obtain ⟨QQ, hQ⟩ : ∃ QQ, capQ (n * a / d) = QQ := ⟨_, rfl⟩
  obtain ⟨rr, hr⟩ : ∃ rr : Int, ((n * a % d : Nat) : Int) = rr := ⟨_, rfl⟩
  rw [hQ, hr]
  have HQ := Lib.hid (And.intro hQ hr)
  clear hQ hr
  go_enter Tryd.func40, Tryd.ntmps40
  go_wp2_with fail
  go_loop [10, 11, 12] (fun x y z => ∃ (qI rI zI : Int), x = .int .i64 qI ∧ y = .int .i64 rI ∧ z = .int .i64 zI ∧ Hid (∃ k : Nat, k ≤ 53 ∧ zI = (k : Int) - 1 ∧ qI = capQ (n / 2 ^ k * a / d) ∧ rI = ((n / 2 ^ k * a % d : Nat) : Int)) ∧ -1 ≤ zI) (fun _ _ z => (intOf z + 1).toNat)
  case atStart =>
    have h53 : n / 2 ^ 53 = 0 := Nat.div_eq_of_lt (by omega)
    exact ⟨0, 0, 52, rfl, rfl, rfl, Lib.hid ⟨53, Nat.le_refl _, rfl, by rw [h53]; simp [capQ], by rw [h53]; simp⟩, by decide⟩
  case round =>
    obtain ⟨qI, rI, zI, rfl, rfl, rfl, hh, hz⟩ := hrel
    obtain ⟨k, hk, ez, eq_, er⟩ := hh.out
    clear hh
    by_cases hk0 : k = 0
    · subst hk0
      have z0 : zI = -1 := by omega
      subst z0
      have e1 : qI = QQ := by rw [eq_, ← HQ.out.1]; simp
      have e2 : rI = rr := by rw [er, ← HQ.out.2]; simp
      subst e1 e2
      clear eq_ er ez hk HQ
      go_wp2_with fail
      go_ret2
      exact ⟨rfl, rfl⟩
    · obtain ⟨j, rfl⟩ : ∃ j, k = j + 1 := ⟨k - 1, by omega⟩
      have zj : zI = (j : Int) := by omega
      obtain ⟨h0, h1, h2⟩ := bit_more a n d j hd1
      have hrd : n / 2 ^ (j + 1) * a % d < d := Nat.mod_lt _ (by omega)
      have hN : n / 2 ^ j ≤ n := Nat.div_le_self _ _
      have hsh : (n : Int) / 2 ^ zI.toNat = ((n / 2 ^ j : Nat) : Int) := by rw [zj, Int.toNat_natCast, pow_cast, ← Int.natCast_ediv]
      have hbit := and_one (n / 2 ^ j) (by omega)
      have hb2 : n / 2 ^ j % 2 = 0 ∨ n / 2 ^ j % 2 = 1 := by omega
      have qin := capQ_in (n / 2 ^ (j + 1) * a / d)
      rw [← eq_] at qin
      obtain ⟨N, hN'⟩ : ∃ N : Int, ((n / 2 ^ j : Nat) : Int) = N := ⟨_, rfl⟩
      rw [hN'] at hsh hbit
      have cn := cap_next (n / 2 ^ (j + 1) * a / d) ((2 * (n / 2 ^ (j + 1) * a % d) + n / 2 ^ j % 2 * a) / d)
      rw [← h1, ← eq_] at cn
      have hc := Nat.div_le_self (2 * (n / 2 ^ (j + 1) * a % d) + n / 2 ^ j % 2 * a) d
      have za : 0 ≤ zI := by omega
      have zb : zI ≤ 52 := by omega
      have ra : 0 ≤ rI := by omega
      have rb : rI ≤ 70368744177664 := by omega
      have q1 := qin.1
      have q2 := qin.2
      rcases hb2 with hb | hb
      · rw [hb, Nat.zero_mul, Nat.add_zero] at h2 cn hc
        rw [hb] at hbit
        generalize n / 2 ^ (j + 1) * a % d = r0 at *
        have c1 : (2 * rI) = ((2 * r0 : Nat) : Int) := by rw [er]; omega
        have t1 : (2 * rI).tdiv (d : Int) = ((2 * r0 / d : Nat) : Int) := by rw [c1, Int.tdiv_eq_ediv_of_nonneg (Int.natCast_nonneg _), Int.natCast_ediv]
        have t1' : (2 * rI) / (d : Int) = ((2 * r0 / d : Nat) : Int) := by rw [c1, Int.natCast_ediv]
        have t2 : (2 * rI).tmod (d : Int) = ((2 * r0 % d : Nat) : Int) := by rw [c1, Int.tmod_eq_emod_of_nonneg (Int.natCast_nonneg _), Int.natCast_emod]
        have t2' : (2 * rI) % (d : Int) = ((2 * r0 % d : Nat) : Int) := by rw [c1, Int.natCast_emod]
        obtain ⟨C0, hCC⟩ : ∃ C0, 2 * r0 / d = C0 := ⟨_, rfl⟩
        rw [hCC] at t1 t1' cn hc
        obtain ⟨C, hC⟩ : ∃ C : Int, (C0 : Int) = C := ⟨_, rfl⟩
        rw [hC] at t1 t1' cn
        have hC0 : 0 ≤ C := by omega
        have hC1 : C ≤ 140737488355328 := by omega
        obtain ⟨RR, hRR⟩ : ∃ RR : Int, ((2 * r0 % d : Nat) : Int) = RR := ⟨_, rfl⟩
        rw [hRR] at t2 t2'
        have tb : IntKind.i64.wrap RR = RR := by
          have : 2 * r0 % d < d := Nat.mod_lt _ (by omega)
          rw [IntKind.wrap_i64]; omega
        have tw : IntKind.i64.wrap C = C := by rw [IntKind.wrap_i64]; omega
        by_cases hov : 4503599627370496 < 2 * qI + C
        · have HR : Hid (∃ k : Nat, k ≤ 53 ∧ zI - 1 = (k : Int) - 1 ∧ 4503599627370497 = capQ (n / 2 ^ k * a / d) ∧ RR = ((n / 2 ^ k * a % d : Nat) : Int)) := Lib.hid ⟨j, by omega, by omega, (cn.1 hov).symm, by rw [h2]; exact hRR.symm⟩
          clear c1 hCC cn hc er eq_ ez h0 h1 h2 hrd hN hb hC hRR qin hN' zj hk hk0 HQ
          go_wp2_with fail
          go_round
          case rel => exact ⟨_, RR, zI - 1, rfl, rfl, rfl, HR, by omega⟩
          case measure => simp [intOf]; omega
        · have HR : Hid (∃ k : Nat, k ≤ 53 ∧ zI - 1 = (k : Int) - 1 ∧ 2 * qI + C = capQ (n / 2 ^ k * a / d) ∧ RR = ((n / 2 ^ k * a % d : Nat) : Int)) := Lib.hid ⟨j, by omega, by omega, (cn.2 (by omega)).symm, by rw [h2]; exact hRR.symm⟩
          clear c1 hCC cn hc er eq_ ez h0 h1 h2 hrd hN hb hC hRR qin hN' zj hk hk0 HQ
          go_wp2_with fail
          go_round
          case rel => exact ⟨_, RR, zI - 1, rfl, rfl, rfl, HR, by omega⟩
          case measure => simp [intOf]; omega
      · rw [hb, Nat.one_mul] at h2 cn hc
        rw [hb] at hbit
        generalize n / 2 ^ (j + 1) * a % d = r0 at *
        have c1 : (2 * rI + (a : Int)) = (((2 * r0 + a) : Nat) : Int) := by rw [er]; omega
        have t1 : (2 * rI + (a : Int)).tdiv (d : Int) = (((2 * r0 + a) / d : Nat) : Int) := by rw [c1, Int.tdiv_eq_ediv_of_nonneg (Int.natCast_nonneg _), Int.natCast_ediv]
        have t1' : (2 * rI + (a : Int)) / (d : Int) = (((2 * r0 + a) / d : Nat) : Int) := by rw [c1, Int.natCast_ediv]
        have t2 : (2 * rI + (a : Int)).tmod (d : Int) = (((2 * r0 + a) % d : Nat) : Int) := by rw [c1, Int.tmod_eq_emod_of_nonneg (Int.natCast_nonneg _), Int.natCast_emod]
        have t2' : (2 * rI + (a : Int)) % (d : Int) = (((2 * r0 + a) % d : Nat) : Int) := by rw [c1, Int.natCast_emod]
        obtain ⟨C0, hCC⟩ : ∃ C0, (2 * r0 + a) / d = C0 := ⟨_, rfl⟩
        rw [hCC] at t1 t1' cn hc
        obtain ⟨C, hC⟩ : ∃ C : Int, (C0 : Int) = C := ⟨_, rfl⟩
        rw [hC] at t1 t1' cn
        have hC0 : 0 ≤ C := by omega
        have hC1 : C ≤ 4644337115725824 := by omega
        obtain ⟨RR, hRR⟩ : ∃ RR : Int, (((2 * r0 + a) % d : Nat) : Int) = RR := ⟨_, rfl⟩
        rw [hRR] at t2 t2'
        have tb : IntKind.i64.wrap RR = RR := by
          have : (2 * r0 + a) % d < d := Nat.mod_lt _ (by omega)
          rw [IntKind.wrap_i64]; omega
        have tw : IntKind.i64.wrap C = C := by rw [IntKind.wrap_i64]; omega
        have aa : (a : Int) ≤ 4503599627370496 := by omega
        by_cases hov : 4503599627370496 < 2 * qI + C
        · have HR : Hid (∃ k : Nat, k ≤ 53 ∧ zI - 1 = (k : Int) - 1 ∧ 4503599627370497 = capQ (n / 2 ^ k * a / d) ∧ RR = ((n / 2 ^ k * a % d : Nat) : Int)) := Lib.hid ⟨j, by omega, by omega, (cn.1 hov).symm, by rw [h2]; exact hRR.symm⟩
          clear c1 hCC cn hc er eq_ ez h0 h1 h2 hrd hN hb hC hRR qin hN' zj hk hk0 HQ
          go_wp2_with fail
          go_round
          case rel => exact ⟨_, RR, zI - 1, rfl, rfl, rfl, HR, by omega⟩
          case measure => simp [intOf]; omega
        · have HR : Hid (∃ k : Nat, k ≤ 53 ∧ zI - 1 = (k : Int) - 1 ∧ 2 * qI + C = capQ (n / 2 ^ k * a / d) ∧ RR = ((n / 2 ^ k * a % d : Nat) : Int)) := Lib.hid ⟨j, by omega, by omega, (cn.2 (by omega)).symm, by rw [h2]; exact hRR.symm⟩
          clear c1 hCC cn hc er eq_ ez h0 h1 h2 hrd hN hb hC hRR qin hN' zj hk hk0 HQ
          go_wp2_with fail
          go_round
          case rel => exact ⟨_, RR, zI - 1, rfl, rfl, rfl, HR, by omega⟩
          case measure => simp [intOf]; omega
theorem rcur1_any (s : ByteArray) (w : World) (hs : s.size ≤ maxLen) :
    Calls Tryd.prog 35 #[.string s] w fun e w' => e = .returned (.bool (curL s.data.toList)) ∧ w = w' := by
  unfold maxLen at hs
  go_enter Tryd.func35, Tryd.ntmps35
  go_wp2_with fail
  go_loop [3] (fun i => ∃ k : Nat, k ≤ s.size ∧ k ≤ 3 ∧ i = .int .i64 k ∧ Hid ((s.data.toList.take k).all (fun c => capB (c.toNat : Int)) = true)) (fun i => s.size - (intOf i).toNat)
  case atStart => exact ⟨0, by omega, by omega, rfl, Lib.hid (by simp)⟩
  case round =>
    obtain ⟨k, hk, hk3, rfl, hall⟩ := hrel
    by_cases hlt : k < s.size
    · by_cases h3 : k < 3
      · have hb0 : (0 : Int) ≤ (s[k].toNat : Int) := by omega
        have hb1 : (s[k].toNat : Int) ≤ 255 := by have := s[k].toNat_lt; omega
        by_cases c1 : 65 ≤ (s[k].toNat : Int)
        · by_cases c2 : (s[k].toNat : Int) ≤ 90
          · have HC := Lib.hid (capB_yes ⟨c1, c2⟩)
            go_wp2_with fail
            go_round
            case rel => exact ⟨k + 1, by omega, by omega, by go_num, curL_step s k hlt hall HC.out⟩
            case measure => simp [intOf]; omega
          · have HC := Lib.hid (capB_nay (c := (s[k].toNat : Int)) (by omega))
            go_wp2_with fail
            go_ret
            exact ⟨ret_bool (curL_bad s k hlt HC.out).symm, rfl⟩
        · have HC := Lib.hid (capB_nay (c := (s[k].toNat : Int)) (by omega))
          go_wp2_with fail
          go_ret
          exact ⟨ret_bool (curL_bad s k hlt HC.out).symm, rfl⟩
      · obtain rfl : k = 3 := by omega
        have hne : ((s.size : Int) == 3) = false := by rw [beq_eq_false_iff_ne]; omega
        have HE := Lib.hid (curL_no s (by omega))
        go_wp2_with fail
        go_ret
        exact ⟨ret_bool HE.out.symm, rfl⟩
    · have HE := Lib.hid (curL_end s k hk hlt hall)
      go_wp2_with fail
      go_ret
      exact ⟨ret_bool HE.out, rfl⟩
theorem rwithin_ok (a : Int) (h0 : -4503599627370496 ≤ a) (h1 : a ≤ 4503599627370496) (w : World) : Calls Tryd.prog 32 #[.int .i64 a] w fun e w' => e = .returned (.bool true) ∧ w = w' := by
  go_enter Tryd.func32, Tryd.ntmps32
  go_wp2_with fail
  go_ret
  exact ⟨rfl, rfl⟩
theorem rwithin_no (a : Int) (h : a < -4503599627370496 ∨ 4503599627370496 < a) (w : World) : Calls Tryd.prog 32 #[.int .i64 a] w fun e w' => e = .returned (.bool false) ∧ w = w' := by
  rcases h with h | h
  · have h1 : decide (-4503599627370496 ≤ a) = false := decide_eq_false (by omega)
    go_enter Tryd.func32, Tryd.ntmps32
    go_wp2_with fail
    go_ret
    exact ⟨rfl, rfl⟩
  · have h0 : -4503599627370496 ≤ a := by omega
    have h1 : decide (a ≤ 4503599627370496) = false := decide_eq_false (by omega)
    go_enter Tryd.func32, Tryd.ntmps32
    go_wp2_with fail
    go_ret
    exact ⟨rfl, rfl⟩
/-- the word of money's Check -/
def mchk (a : Int) (c : ByteArray) : Int := if curL c.data.toList = false then 11 else if -4503599627370496 ≤ a ∧ a ≤ 4503599627370496 then 0 else 4
theorem rmcheck_any (a : Int) (c : ByteArray) (hc : c.size ≤ maxLen) (w : World) :
    Calls Tryd.prog 17 #[mo a c] w fun e w' => e = .returned (.int .i64 (mchk a c)) ∧ Below w.heap.size w w' := by
  have h1 := fun w => rcur1_any c w hc
  unfold mchk mo
  generalize curL c.data.toList = b at *
  have H1 := Lib.hid h1
  clear h1 hc
  cases b
  · rw [if_pos rfl]
    go_enter Tryd.func17, Tryd.ntmps17
    go_wp2_with fail
    refine (H1.out _).mono ?_
    rintro e w1 ⟨rfl, rfl⟩
    go_wp2_with fail
    go_ret
    exact ⟨rfl, al (Below.refl _ _)⟩
  · rw [if_neg (by simp)]
    by_cases h : -4503599627370496 ≤ a ∧ a ≤ 4503599627370496
    · rw [if_pos h]
      have H2 := Lib.hid (rwithin_ok a h.1 h.2)
      clear h
      go_enter Tryd.func17, Tryd.ntmps17
      go_wp2_with fail
      refine (H1.out _).mono ?_
      rintro e w1 ⟨rfl, rfl⟩
      go_wp2_with fail
      refine (H2.out _).mono ?_
      rintro e w1 ⟨rfl, rfl⟩
      go_wp2_with fail
      go_ret
      exact ⟨rfl, al (Below.refl _ _)⟩
    · rw [if_neg h]
      have H2 := Lib.hid (rwithin_no a (by omega))
      clear h
      go_enter Tryd.func17, Tryd.ntmps17
      go_wp2_with fail
      refine (H1.out _).mono ?_
      rintro e w1 ⟨rfl, rfl⟩
      go_wp2_with fail
      refine (H2.out _).mono ?_
      rintro e w1 ⟨rfl, rfl⟩
      go_wp2_with fail
      go_ret
      exact ⟨rfl, al (Below.refl _ _)⟩
/-- whether a quotient is rounded up -/
def upI (q r d mode : Int) : Bool := (mode == 2 && decide (0 < r)) || (mode == 3 && decide (d ≤ 2 * r)) || (mode == 4 && (decide (d < 2 * r) || (decide (2 * r = d) && decide (q % 2 = 1))))
theorem round_any (q r d mode : Int) (q0 : 0 ≤ q) (q1 : q ≤ 4503599627370497) (r0 : 0 ≤ r) (r1 : r ≤ 70368744177664) (d0 : 1 ≤ d) (d1 : d ≤ 70368744177664) (m1 : 1 ≤ mode) (m2 : mode ≤ 4) (w : World) :
    Calls Tryd.prog 41 #[.int .i64 q, .int .i64 r, .int .i64 d, .int .i64 mode] w fun e w' => e = .returned (.int .i64 (q + bI (upI q r d mode))) ∧ w = w' := by
  have hT : q + bI true = q + 1 := rfl
  have hF : q + bI false = q := by simp [bI]
  rcases (show mode = 1 ∨ mode = 2 ∨ mode = 3 ∨ mode = 4 from by omega) with rfl | rfl | rfl | rfl
  · have e : upI q r d 1 = false := by simp [upI]
    rw [e, hF]
    go_enter Tryd.func41, Tryd.ntmps41
    go_wp2_with fail
    go_ret
    exact ⟨rfl, rfl⟩
  · have e : upI q r d 2 = decide (0 < r) := by simp [upI]
    rw [e]
    by_cases c : 0 < r
    · rw [decide_eq_true c, hT]
      go_enter Tryd.func41, Tryd.ntmps41
      go_wp2_with fail
      go_ret
      exact ⟨rfl, rfl⟩
    · rw [decide_eq_false c, hF]
      go_enter Tryd.func41, Tryd.ntmps41
      go_wp2_with fail
      go_ret
      exact ⟨rfl, rfl⟩
  · have e : upI q r d 3 = decide (d ≤ 2 * r) := by simp [upI]
    rw [e]
    by_cases c : d ≤ 2 * r
    · rw [decide_eq_true c, hT]
      go_enter Tryd.func41, Tryd.ntmps41
      go_wp2_with fail
      go_ret
      exact ⟨rfl, rfl⟩
    · rw [decide_eq_false c, hF]
      go_enter Tryd.func41, Tryd.ntmps41
      go_wp2_with fail
      go_ret
      exact ⟨rfl, rfl⟩
  · have e : upI q r d 4 = (decide (d < 2 * r) || (decide (2 * r = d) && decide (q % 2 = 1))) := by simp [upI]
    rw [e]
    have qm : q.tmod 2 = q % 2 := Int.tmod_eq_emod_of_nonneg q0
    by_cases c1 : d < 2 * r
    · rw [decide_eq_true c1, Bool.true_or, hT]
      go_enter Tryd.func41, Tryd.ntmps41
      go_wp2_with fail
      go_ret
      exact ⟨rfl, rfl⟩
    · rw [decide_eq_false c1, Bool.false_or]
      by_cases c2 : 2 * r = d
      · have d2 : (2 * r == d) = true := by rw [beq_iff_eq]; exact c2
        rw [decide_eq_true c2, Bool.true_and]
        by_cases c3 : q % 2 = 1
        · have d3 : (q % 2 == 1) = true := by rw [beq_iff_eq]; exact c3
          rw [decide_eq_true c3, hT]
          clear c2 c3
          go_enter Tryd.func41, Tryd.ntmps41
          go_wp2_with fail
          go_ret
          exact ⟨rfl, rfl⟩
        · have d3 : (q % 2 == 1) = false := beq_eq_false_iff_ne.2 c3
          rw [decide_eq_false c3, hF]
          clear c2 c3
          go_enter Tryd.func41, Tryd.ntmps41
          go_wp2_with fail
          go_ret
          exact ⟨rfl, rfl⟩
      · have d2 : (2 * r == d) = false := beq_eq_false_iff_ne.2 c2
        rw [decide_eq_false c2, Bool.false_and, hF]
        clear c2
        go_enter Tryd.func41, Tryd.ntmps41
        go_wp2_with fail
        go_ret
        exact ⟨rfl, rfl⟩
set_option maxRecDepth 20000 in
set_option maxHeartbeats 2000000 in
theorem rscale_core (a : Int) (c : ByteArray) (M K L q r Q mode : Int) (w : World)
    (hc : ∀ w, Calls Tryd.prog 17 #[mo a c] w fun e w' => e = .returned (.int .i64 0) ∧ Below w.heap.size w w')
    (h1 : ∀ w, Calls Tryd.prog 40 #[.int .i64 M, .int .i64 K, .int .i64 L, .int .i64 4503599627370496] w fun e w' => e = .returned (.tuple #[.int .i64 q, .int .i64 r]) ∧ w = w')
    (h2 : ∀ w, Calls Tryd.prog 41 #[.int .i64 q, .int .i64 r, .int .i64 L, .int .i64 mode] w fun e w' => e = .returned (.int .i64 Q) ∧ w = w')
    (hM : M = if a < 0 then -a else a) (a0 : -4503599627370496 ≤ a) (a1 : a ≤ 4503599627370496) (k1 : 1 ≤ K) (k2 : K ≤ 1099511627776) (l1 : 1 ≤ L) (l2 : L ≤ 1099511627776) (m1 : 1 ≤ mode) (m2 : mode ≤ 4) (q0 : 0 ≤ Q) (q1 : Q ≤ 4503599627370498) :
    Calls Tryd.prog 20 #[mo a c, .int .i64 K, .int .i64 L, .int .i64 mode] w fun e w' => e = .returned (if Q ≤ 4503599627370496 then .tuple #[mo (sgn a Q) c, .int .i64 0] else .tuple #[mo0, .int .i64 4]) ∧ Below w.heap.size w w' := by
  have HC := Lib.hid hc
  have HD := Lib.hid h1
  have HR := Lib.hid h2
  have kn : decide (K < 0) = false := decide_eq_false (by omega)
  have fK : max K (-K) = K := Int.max_eq_left (by omega)
  have g1 : decide (L < 1) = false := decide_eq_false (by omega)
  have g2 : decide (1099511627776 < L) = false := decide_eq_false (by omega)
  have g3 : decide (K < -1099511627776) = false := decide_eq_false (by omega)
  have g4 : decide (1099511627776 < K) = false := decide_eq_false (by omega)
  have g5 : decide (mode < 1) = false := decide_eq_false (by omega)
  have g6 : decide (4 < mode) = false := decide_eq_false (by omega)
  unfold mo0 at *
  unfold mo at *
  clear hc h1 h2
  by_cases hs : a < 0
  · rw [if_pos hs] at hM
    subst hM
    have ha : decide (a < 0) = true := decide_eq_true hs
    have fa : max a (-a) = -a := Int.max_eq_right (by omega)
    by_cases hQ : Q ≤ 4503599627370496
    · rw [if_pos hQ, show sgn a Q = -Q from if_pos hs]
      clear hs
      go_enter Tryd.func20, Tryd.ntmps20
      go_wp2_with fail
      refine (HC.out _).mono ?_
      rintro e w1 ⟨rfl, hb⟩
      obtain ⟨d1, o1, rfl⟩ := regrow_of hb
      clear hb
      go_wp2_with fail
      refine (HD.out _).mono ?_
      rintro e w2 ⟨rfl, rfl⟩
      go_wp2_with fail
      refine (HR.out _).mono ?_
      rintro e w2 ⟨rfl, rfl⟩
      go_wp2_with fail
      exact bodyPost_ret (v := .tuple #[.agg #[.int .i64 (-Q), .string c], .int .i64 0]) (by simp [results, Tryd.results20, go_sem]) rfl ⟨rfl, bre (al (al (Below.refl _ _))) _ _⟩
    · rw [if_neg hQ]
      clear hs
      go_enter Tryd.func20, Tryd.ntmps20
      go_wp2_with fail
      refine (HC.out _).mono ?_
      rintro e w1 ⟨rfl, hb⟩
      obtain ⟨d1, o1, rfl⟩ := regrow_of hb
      clear hb
      go_wp2_with fail
      refine (HD.out _).mono ?_
      rintro e w2 ⟨rfl, rfl⟩
      go_wp2_with fail
      refine (HR.out _).mono ?_
      rintro e w2 ⟨rfl, rfl⟩
      go_wp2_with fail
      exact bodyPost_ret (v := .tuple #[.agg #[.int .i64 0, .string ⟨#[]⟩], .int .i64 4]) (by simp [results, Tryd.results20, go_sem]) rfl ⟨rfl, bre (al (al (Below.refl _ _))) _ _⟩
  · rw [if_neg hs] at hM
    subst hM
    have ha : decide (M < 0) = false := decide_eq_false hs
    have fa : max M (-M) = M := Int.max_eq_left (by omega)
    by_cases hQ : Q ≤ 4503599627370496
    · rw [if_pos hQ, show sgn M Q = Q from if_neg hs]
      clear hs
      go_enter Tryd.func20, Tryd.ntmps20
      go_wp2_with fail
      refine (HC.out _).mono ?_
      rintro e w1 ⟨rfl, hb⟩
      obtain ⟨d1, o1, rfl⟩ := regrow_of hb
      clear hb
      go_wp2_with fail
      refine (HD.out _).mono ?_
      rintro e w2 ⟨rfl, rfl⟩
      go_wp2_with fail
      refine (HR.out _).mono ?_
      rintro e w2 ⟨rfl, rfl⟩
      go_wp2_with fail
      exact bodyPost_ret (v := .tuple #[.agg #[.int .i64 Q, .string c], .int .i64 0]) (by simp [results, Tryd.results20, go_sem]) rfl ⟨rfl, bre (al (al (Below.refl _ _))) _ _⟩
    · rw [if_neg hQ]
      clear hs
      go_enter Tryd.func20, Tryd.ntmps20
      go_wp2_with fail
      refine (HC.out _).mono ?_
      rintro e w1 ⟨rfl, hb⟩
      obtain ⟨d1, o1, rfl⟩ := regrow_of hb
      clear hb
      go_wp2_with fail
      refine (HD.out _).mono ?_
      rintro e w2 ⟨rfl, rfl⟩
      go_wp2_with fail
      refine (HR.out _).mono ?_
      rintro e w2 ⟨rfl, rfl⟩
      go_wp2_with fail
      exact bodyPost_ret (v := .tuple #[.agg #[.int .i64 0, .string ⟨#[]⟩], .int .i64 4]) (by simp [results, Tryd.results20, go_sem]) rfl ⟨rfl, bre (al (al (Below.refl _ _))) _ _⟩
theorem rmcheck_ok (a : Int) (c : ByteArray) (hc : c.size ≤ maxLen) (h : curL c.data.toList = true) (h0 : -4503599627370496 ≤ a) (h1 : a ≤ 4503599627370496) (w : World) :
    Calls Tryd.prog 17 #[mo a c] w fun e w' => e = .returned (.int .i64 0) ∧ Below w.heap.size w w' := by
  have := rmcheck_any a c hc w
  rw [show mchk a c = 0 from by unfold mchk; rw [if_neg (by rw [h]; decide), if_pos ⟨h0, h1⟩]] at this
  exact this
theorem rmcheck_no (a : Int) (c : ByteArray) (hc : c.size ≤ maxLen) (h : curL c.data.toList = false) (w : World) :
    Calls Tryd.prog 17 #[mo a c] w fun e w' => e = .returned (.int .i64 11) ∧ Below w.heap.size w w' := by
  have := rmcheck_any a c hc w
  rw [show mchk a c = 11 from by unfold mchk; rw [if_pos h]] at this
  exact this
/-- the rounded quotient, as the reference reckons it -/
def rndQ (a : Int) (K L : Nat) (mode : Int) : Int := capQ (K * a.natAbs / L) + bI (upI (capQ (K * a.natAbs / L)) ((K * a.natAbs % L : Nat) : Int) L mode)
theorem rndQ_in (a : Int) (K L : Nat) (mode : Int) : 0 ≤ rndQ a K L mode ∧ rndQ a K L mode ≤ 4503599627370498 := by
  have := capQ_in (K * a.natAbs / L)
  unfold rndQ bI
  split <;> omega
theorem rscale_ok (a : Int) (c : ByteArray) (K L : Nat) (mode : Int) (w : World) (hc : c.size ≤ maxLen) (hcl : curL c.data.toList = true) (a0 : -4503599627370496 ≤ a) (a1 : a ≤ 4503599627370496)
    (k1 : 1 ≤ K) (k2 : K ≤ 1099511627776) (l1 : 1 ≤ L) (l2 : L ≤ 1099511627776) (m1 : 1 ≤ mode) (m2 : mode ≤ 4) :
    Calls Tryd.prog 20 #[mo a c, .int .i64 K, .int .i64 L, .int .i64 mode] w fun e w' => e = .returned (if rndQ a K L mode ≤ 4503599627370496 then .tuple #[mo (sgn a (rndQ a K L mode)) c, .int .i64 0] else .tuple #[mo0, .int .i64 4]) ∧ Below w.heap.size w w' := by
  have hr : K * a.natAbs % L < L := Nat.mod_lt _ (by omega)
  have hr2 : ((K * a.natAbs % L : Nat) : Int) ≤ 70368744177664 := by generalize K * a.natAbs % L = z at hr ⊢; omega
  have hq := capQ_in (K * a.natAbs / L)
  obtain ⟨q0, q1⟩ := rndQ_in a K L mode
  exact rscale_core a c (a.natAbs : Nat) K L (capQ (K * a.natAbs / L)) ((K * a.natAbs % L : Nat) : Int) (rndQ a K L mode) mode w (fun w => rmcheck_ok a c hc hcl a0 a1 w)
    (fun w => divide_any a.natAbs K L w (by omega) (by omega) l1 (by omega))
    (fun w => round_any _ _ L mode hq.1 hq.2 (Int.natCast_nonneg _) hr2 (by omega) (by omega) m1 m2 w)
    (by split <;> omega) a0 a1 (by omega) (by omega) (by omega) (by omega) m1 m2 q0 q1
set_option maxRecDepth 20000 in
theorem rscale_mode (a : Int) (c : ByteArray) (K L mode : Int) (w : World) (hc : c.size ≤ maxLen) (hcl : curL c.data.toList = true) (a0 : -4503599627370496 ≤ a) (a1 : a ≤ 4503599627370496)
    (k1 : 1 ≤ K) (k2 : K ≤ 1099511627776) (l1 : 1 ≤ L) (l2 : L ≤ 1099511627776) (hm : mode < 1 ∨ 4 < mode) :
    Calls Tryd.prog 20 #[mo a c, .int .i64 K, .int .i64 L, .int .i64 mode] w fun e w' => e = .returned (.tuple #[mo 0 ⟨#[]⟩, .int .i64 4]) ∧ Below w.heap.size w w' := by
  have HC : Hid (∀ w, _) := Lib.hid (fun w => rmcheck_ok a c hc hcl a0 a1 w)
  unfold mo at *
  clear hc hcl a0 a1
  by_cases g : mode < 1
  · clear hm
    go_enter Tryd.func20, Tryd.ntmps20
    go_wp2_with fail
    refine (HC.out _).mono ?_
    rintro e w1 ⟨rfl, hb⟩
    obtain ⟨d1, o1, rfl⟩ := regrow_of hb
    clear hb
    go_wp2_with fail
    exact bodyPost_ret (v := .tuple #[.agg #[.int .i64 0, .string ⟨#[]⟩], .int .i64 4]) (by simp [results, Tryd.results20, go_sem]) rfl ⟨rfl, bre (al (al (Below.refl _ _))) _ _⟩
  · have g2 : 4 < mode := by omega
    have g3 : 1 ≤ mode := by omega
    clear hm
    go_enter Tryd.func20, Tryd.ntmps20
    go_wp2_with fail
    refine (HC.out _).mono ?_
    rintro e w1 ⟨rfl, hb⟩
    obtain ⟨d1, o1, rfl⟩ := regrow_of hb
    clear hb
    go_wp2_with fail
    exact bodyPost_ret (v := .tuple #[.agg #[.int .i64 0, .string ⟨#[]⟩], .int .i64 4]) (by simp [results, Tryd.results20, go_sem]) rfl ⟨rfl, bre (al (al (Below.refl _ _))) _ _⟩
/-- the high word is not below the divisor -/
theorem scale_too (a : Int) (c : ByteArray) (M K L H P mode : Int) (w : World)
    (hc : ∀ w, Calls Tryd.prog 16 #[mo a c] w fun e w' => e = .returned (.int .i64 0) ∧ Below w.heap.size w w')
    (h1 : ∀ w, Calls Tryd.prog 37 #[.int .i64 a] w fun e w' => e = .returned (.int .u64 M) ∧ w = w')
    (h2 : ∀ w, Calls Tryd.prog 37 #[.int .i64 K] w fun e w' => e = .returned (.int .u64 K) ∧ w = w')
    (h3 : ∀ w, Calls Tryd.prog 36 #[.int .u64 M, .int .u64 K] w fun e w' => e = .returned (.tuple #[.int .u64 H, .int .u64 P]) ∧ w' = w)
    (hL : decide (L ≤ H) = true)
    (k1 : 1 ≤ K) (k2 : K ≤ 1099511627776) (l1 : 1 ≤ L) (l2 : L ≤ 1099511627776) (m1 : 1 ≤ mode) (m2 : mode ≤ 4) :
    Calls Tryd.prog 19 #[mo a c, .int .i64 K, .int .i64 L, .int .i64 mode] w fun e w' => e = .returned (.tuple #[mo0, .int .i64 4]) ∧ Below w.heap.size w w' := by
  have HC := Lib.hid hc
  have H1 := Lib.hid h1
  have H2 := Lib.hid h2
  have H3 := Lib.hid h3
  clear hc h1 h2 h3
  unfold mo0 at *
  unfold mo at *
  go_enter Tryd.func19, Tryd.ntmps19
  go_wp2_with fail
  refine (HC.out _).mono ?_
  rintro e w1 ⟨rfl, hb⟩
  obtain ⟨d1, o1, rfl⟩ := regrow_of hb
  clear hb
  go_wp2_with fail
  refine (H1.out _).mono ?_
  rintro e w2 ⟨rfl, rfl⟩
  go_wp2_with fail
  refine (H2.out _).mono ?_
  rintro e w2 ⟨rfl, rfl⟩
  go_wp2_with fail
  refine (H3.out _).mono ?_
  rintro e w2 ⟨rfl, rfl⟩
  go_wp2_with fail
  exact bodyPost_ret (v := .tuple #[.agg #[.int .i64 0, .string ⟨#[]⟩], .int .i64 4]) (by simp [results, Tryd.results19, go_sem]) rfl ⟨rfl, bre (al (al (Below.refl _ _))) _ _⟩
/-- the quotient is above the limit -/
theorem scale_far (a : Int) (c : ByteArray) (M K L H P q r mode : Int) (w : World)
    (hc : ∀ w, Calls Tryd.prog 16 #[mo a c] w fun e w' => e = .returned (.int .i64 0) ∧ Below w.heap.size w w')
    (h1 : ∀ w, Calls Tryd.prog 37 #[.int .i64 a] w fun e w' => e = .returned (.int .u64 M) ∧ w = w')
    (h2 : ∀ w, Calls Tryd.prog 37 #[.int .i64 K] w fun e w' => e = .returned (.int .u64 K) ∧ w = w')
    (h3 : ∀ w, Calls Tryd.prog 36 #[.int .u64 M, .int .u64 K] w fun e w' => e = .returned (.tuple #[.int .u64 H, .int .u64 P]) ∧ w' = w)
    (h4 : ∀ w, Calls Tryd.prog 38 #[.int .u64 H, .int .u64 P, .int .u64 L] w fun e w' => e = .returned (.tuple #[.int .u64 q, .int .u64 r]) ∧ Below w.heap.size w w')
    (hL : decide (L ≤ H) = false) (hq : decide (q ≤ 4503599627370496) = false) (hq2 : decide (4503599627370496 < q) = true)
    (k1 : 1 ≤ K) (k2 : K ≤ 1099511627776) (l1 : 1 ≤ L) (l2 : L ≤ 1099511627776) (m1 : 1 ≤ mode) (m2 : mode ≤ 4) :
    Calls Tryd.prog 19 #[mo a c, .int .i64 K, .int .i64 L, .int .i64 mode] w fun e w' => e = .returned (.tuple #[mo0, .int .i64 4]) ∧ Below w.heap.size w w' := by
  have HC := Lib.hid hc
  have H1 := Lib.hid h1
  have H2 := Lib.hid h2
  have H3 := Lib.hid h3
  have H4 := Lib.hid h4
  clear hc h1 h2 h3 h4
  unfold mo0 at *
  unfold mo at *
  go_enter Tryd.func19, Tryd.ntmps19
  go_wp2_with fail
  refine (HC.out _).mono ?_
  rintro e w1 ⟨rfl, hb⟩
  obtain ⟨d1, o1, rfl⟩ := regrow_of hb
  clear hb
  go_wp2_with fail
  refine (H1.out _).mono ?_
  rintro e w2 ⟨rfl, rfl⟩
  go_wp2_with fail
  refine (H2.out _).mono ?_
  rintro e w2 ⟨rfl, rfl⟩
  go_wp2_with fail
  refine (H3.out _).mono ?_
  rintro e w2 ⟨rfl, rfl⟩
  go_wp2_with fail
  refine (H4.out _).mono ?_
  rintro e w1 ⟨rfl, hb⟩
  obtain ⟨d2, o2, rfl⟩ := regrow_of hb
  clear hb
  go_wp2_with fail
  exact bodyPost_ret (v := .tuple #[.agg #[.int .i64 0, .string ⟨#[]⟩], .int .i64 4]) (by simp [results, Tryd.results19, go_sem]) rfl ⟨rfl, bre (al (al (Below.refl _ _))) _ _⟩
/-- the quotient is the limit, and rounded up -/
theorem scale_top (a : Int) (c : ByteArray) (M K L H P r mode : Int) (w : World)
    (hc : ∀ w, Calls Tryd.prog 16 #[mo a c] w fun e w' => e = .returned (.int .i64 0) ∧ Below w.heap.size w w')
    (h1 : ∀ w, Calls Tryd.prog 37 #[.int .i64 a] w fun e w' => e = .returned (.int .u64 M) ∧ w = w')
    (h2 : ∀ w, Calls Tryd.prog 37 #[.int .i64 K] w fun e w' => e = .returned (.int .u64 K) ∧ w = w')
    (h3 : ∀ w, Calls Tryd.prog 36 #[.int .u64 M, .int .u64 K] w fun e w' => e = .returned (.tuple #[.int .u64 H, .int .u64 P]) ∧ w' = w)
    (h4 : ∀ w, Calls Tryd.prog 38 #[.int .u64 H, .int .u64 P, .int .u64 L] w fun e w' => e = .returned (.tuple #[.int .u64 4503599627370496, .int .u64 r]) ∧ Below w.heap.size w w')
    (h5 : ∀ w, Calls Tryd.prog 39 #[.int .u64 4503599627370496, .int .u64 r, .int .u64 L, .int .i64 mode] w fun e w' => e = .returned (.bool true) ∧ w = w')
    (hL : decide (L ≤ H) = false)
    (k1 : 1 ≤ K) (k2 : K ≤ 1099511627776) (l1 : 1 ≤ L) (l2 : L ≤ 1099511627776) (m1 : 1 ≤ mode) (m2 : mode ≤ 4) :
    Calls Tryd.prog 19 #[mo a c, .int .i64 K, .int .i64 L, .int .i64 mode] w fun e w' => e = .returned (.tuple #[mo0, .int .i64 4]) ∧ Below w.heap.size w w' := by
  have HC := Lib.hid hc
  have H1 := Lib.hid h1
  have H2 := Lib.hid h2
  have H3 := Lib.hid h3
  have H4 := Lib.hid h4
  have H5 := Lib.hid h5
  clear hc h1 h2 h3 h4 h5
  unfold mo0 at *
  unfold mo at *
  go_enter Tryd.func19, Tryd.ntmps19
  go_wp2_with fail
  refine (HC.out _).mono ?_
  rintro e w1 ⟨rfl, hb⟩
  obtain ⟨d1, o1, rfl⟩ := regrow_of hb
  clear hb
  go_wp2_with fail
  refine (H1.out _).mono ?_
  rintro e w2 ⟨rfl, rfl⟩
  go_wp2_with fail
  refine (H2.out _).mono ?_
  rintro e w2 ⟨rfl, rfl⟩
  go_wp2_with fail
  refine (H3.out _).mono ?_
  rintro e w2 ⟨rfl, rfl⟩
  go_wp2_with fail
  refine (H4.out _).mono ?_
  rintro e w1 ⟨rfl, hb⟩
  obtain ⟨d2, o2, rfl⟩ := regrow_of hb
  clear hb
  go_wp2_with fail
  refine (H5.out _).mono ?_
  rintro e w2 ⟨rfl, rfl⟩
  go_wp2_with fail
  exact bodyPost_ret (v := .tuple #[.agg #[.int .i64 0, .string ⟨#[]⟩], .int .i64 4]) (by simp [results, Tryd.results19, go_sem]) rfl ⟨rfl, bre (al (al (Below.refl _ _))) _ _⟩
set_option maxHeartbeats 2000000 in
/-- the rounded quotient is within the limit -/
theorem scale_core2 (a : Int) (c : ByteArray) (M K L H P q r : Int) (mode : Int) (b : Bool) (w : World)
    (hc : ∀ w, Calls Tryd.prog 16 #[mo a c] w fun e w' => e = .returned (.int .i64 0) ∧ Below w.heap.size w w')
    (h1 : ∀ w, Calls Tryd.prog 37 #[.int .i64 a] w fun e w' => e = .returned (.int .u64 M) ∧ w = w')
    (h2 : ∀ w, Calls Tryd.prog 37 #[.int .i64 K] w fun e w' => e = .returned (.int .u64 K) ∧ w = w')
    (h3 : ∀ w, Calls Tryd.prog 36 #[.int .u64 M, .int .u64 K] w fun e w' => e = .returned (.tuple #[.int .u64 H, .int .u64 P]) ∧ w' = w)
    (h4 : ∀ w, Calls Tryd.prog 38 #[.int .u64 H, .int .u64 P, .int .u64 L] w fun e w' => e = .returned (.tuple #[.int .u64 q, .int .u64 r]) ∧ Below w.heap.size w w')
    (h5 : ∀ w, Calls Tryd.prog 39 #[.int .u64 q, .int .u64 r, .int .u64 L, .int .i64 mode] w fun e w' => e = .returned (.bool b) ∧ w = w')
    (hL : decide (L ≤ H) = false)
    (k1 : 1 ≤ K) (k2 : K ≤ 1099511627776) (l1 : 1 ≤ L) (l2 : L ≤ 1099511627776) (m1 : 1 ≤ mode) (m2 : mode ≤ 4) (q1 : 0 ≤ q) (q2 : q ≤ 4503599627370496) (qb : q + bI b ≤ 4503599627370496) :
    Calls Tryd.prog 19 #[mo a c, .int .i64 K, .int .i64 L, .int .i64 mode] w fun e w' => e = .returned (.tuple #[mo (sgn a (q + bI b)) c, .int .i64 0]) ∧ Below w.heap.size w w' := by
  have HC := Lib.hid hc
  have H1 := Lib.hid h1
  have H2 := Lib.hid h2
  have H3 := Lib.hid h3
  have H4 := Lib.hid h4
  have H5 := Lib.hid h5
  have kn : decide (K < 0) = false := decide_eq_false (by omega)
  clear hc h1 h2 h3 h4 h5
  unfold mo at *
  by_cases hs : a < 0
  · have ha : decide (a < 0) = true := decide_eq_true hs
    have e0 : sgn a (q + bI b) = -(q + bI b) := if_pos hs
    rw [e0]
    clear e0 hs
    cases b
    · rw [show q + bI false = q from by simp [bI]]
      clear qb
      go_enter Tryd.func19, Tryd.ntmps19
      go_wp2_with fail
      refine (HC.out _).mono ?_
      rintro e w1 ⟨rfl, hb⟩
      obtain ⟨d1, o1, rfl⟩ := regrow_of hb
      clear hb
      go_wp2_with fail
      refine (H1.out _).mono ?_
      rintro e w2 ⟨rfl, rfl⟩
      go_wp2_with fail
      refine (H2.out _).mono ?_
      rintro e w2 ⟨rfl, rfl⟩
      go_wp2_with fail
      refine (H3.out _).mono ?_
      rintro e w2 ⟨rfl, rfl⟩
      go_wp2_with fail
      refine (H4.out _).mono ?_
      rintro e w1 ⟨rfl, hb⟩
      obtain ⟨d2, o2, rfl⟩ := regrow_of hb
      clear hb
      go_wp2_with fail
      refine (H5.out _).mono ?_
      rintro e w2 ⟨rfl, rfl⟩
      go_wp2_with fail
      exact bodyPost_ret (v := .tuple #[.agg #[.int .i64 (-q), .string c], .int .i64 0]) (by simp [results, Tryd.results19, go_sem]) rfl ⟨rfl, bre (al (al (Below.refl _ _))) _ _⟩
    · have q3 : q ≤ 4503599627370495 := by have h : q + 1 ≤ 4503599627370496 := qb; omega
      rw [show q + bI true = q + 1 from by simp [bI]]
      clear qb
      go_enter Tryd.func19, Tryd.ntmps19
      go_wp2_with fail
      refine (HC.out _).mono ?_
      rintro e w1 ⟨rfl, hb⟩
      obtain ⟨d1, o1, rfl⟩ := regrow_of hb
      clear hb
      go_wp2_with fail
      refine (H1.out _).mono ?_
      rintro e w2 ⟨rfl, rfl⟩
      go_wp2_with fail
      refine (H2.out _).mono ?_
      rintro e w2 ⟨rfl, rfl⟩
      go_wp2_with fail
      refine (H3.out _).mono ?_
      rintro e w2 ⟨rfl, rfl⟩
      go_wp2_with fail
      refine (H4.out _).mono ?_
      rintro e w1 ⟨rfl, hb⟩
      obtain ⟨d2, o2, rfl⟩ := regrow_of hb
      clear hb
      go_wp2_with fail
      refine (H5.out _).mono ?_
      rintro e w2 ⟨rfl, rfl⟩
      go_wp2_with fail
      exact bodyPost_ret (v := .tuple #[.agg #[.int .i64 (-(q + 1)), .string c], .int .i64 0]) (by simp [results, Tryd.results19, go_sem]) rfl ⟨rfl, bre (al (al (Below.refl _ _))) _ _⟩
  · have ha : decide (a < 0) = false := decide_eq_false hs
    have e0 : sgn a (q + bI b) = q + bI b := if_neg hs
    rw [e0]
    clear e0 hs
    cases b
    · rw [show q + bI false = q from by simp [bI]]
      clear qb
      go_enter Tryd.func19, Tryd.ntmps19
      go_wp2_with fail
      refine (HC.out _).mono ?_
      rintro e w1 ⟨rfl, hb⟩
      obtain ⟨d1, o1, rfl⟩ := regrow_of hb
      clear hb
      go_wp2_with fail
      refine (H1.out _).mono ?_
      rintro e w2 ⟨rfl, rfl⟩
      go_wp2_with fail
      refine (H2.out _).mono ?_
      rintro e w2 ⟨rfl, rfl⟩
      go_wp2_with fail
      refine (H3.out _).mono ?_
      rintro e w2 ⟨rfl, rfl⟩
      go_wp2_with fail
      refine (H4.out _).mono ?_
      rintro e w1 ⟨rfl, hb⟩
      obtain ⟨d2, o2, rfl⟩ := regrow_of hb
      clear hb
      go_wp2_with fail
      refine (H5.out _).mono ?_
      rintro e w2 ⟨rfl, rfl⟩
      go_wp2_with fail
      exact bodyPost_ret (v := .tuple #[.agg #[.int .i64 q, .string c], .int .i64 0]) (by simp [results, Tryd.results19, go_sem]) rfl ⟨rfl, bre (al (al (Below.refl _ _))) _ _⟩
    · have q3 : q ≤ 4503599627370495 := by have h : q + 1 ≤ 4503599627370496 := qb; omega
      rw [show q + bI true = q + 1 from by simp [bI]]
      clear qb
      go_enter Tryd.func19, Tryd.ntmps19
      go_wp2_with fail
      refine (HC.out _).mono ?_
      rintro e w1 ⟨rfl, hb⟩
      obtain ⟨d1, o1, rfl⟩ := regrow_of hb
      clear hb
      go_wp2_with fail
      refine (H1.out _).mono ?_
      rintro e w2 ⟨rfl, rfl⟩
      go_wp2_with fail
      refine (H2.out _).mono ?_
      rintro e w2 ⟨rfl, rfl⟩
      go_wp2_with fail
      refine (H3.out _).mono ?_
      rintro e w2 ⟨rfl, rfl⟩
      go_wp2_with fail
      refine (H4.out _).mono ?_
      rintro e w1 ⟨rfl, hb⟩
      obtain ⟨d2, o2, rfl⟩ := regrow_of hb
      clear hb
      go_wp2_with fail
      refine (H5.out _).mono ?_
      rintro e w2 ⟨rfl, rfl⟩
      go_wp2_with fail
      exact bodyPost_ret (v := .tuple #[.agg #[.int .i64 (q + 1), .string c], .int .i64 0]) (by simp [results, Tryd.results19, go_sem]) rfl ⟨rfl, bre (al (al (Below.refl _ _))) _ _⟩
theorem up_same (q r L : Nat) (mode : Int) : upB q r L mode = upI q r L mode := by
  unfold upB upI
  have e1 : decide (0 < r) = decide ((0 : Int) < (r : Int)) := decide_eq_decide.2 (by omega)
  have e2 : decide (L ≤ 2 * r) = decide ((L : Int) ≤ 2 * (r : Int)) := decide_eq_decide.2 (by omega)
  have e3 : decide (L < 2 * r) = decide ((L : Int) < 2 * (r : Int)) := decide_eq_decide.2 (by omega)
  have e4 : decide (2 * r = L) = decide (2 * (r : Int) = (L : Int)) := decide_eq_decide.2 (by omega)
  have e5 : decide (q % 2 = 1) = decide ((q : Int) % 2 = 1) := decide_eq_decide.2 (by omega)
  rw [e1, e2, e3, e4, e5]
/-- the division, whatever the words -/
theorem div_words (P L : Nat) (w : World) (hP : P / 18446744073709551616 < L) (l1 : 1 ≤ L) (l2 : L < 18446744073709551616) :
    Calls Tryd.prog 38 #[.int .u64 ((P / 18446744073709551616 : Nat) : Int), .int .u64 ((P % 18446744073709551616 : Nat) : Int), .int .u64 L] w fun e w' => e = .returned (.tuple #[.int .u64 ((P / L : Nat) : Int), .int .u64 ((P % L : Nat) : Int)]) ∧ Below w.heap.size w w' := by
  by_cases h : P < 18446744073709551616
  · rw [Nat.div_eq_of_lt h, Nat.mod_eq_of_lt h]
    exact div_nat P L w h l1 l2
  · have := div_full (P / 18446744073709551616) (P % 18446744073709551616) L w hP (by have := Nat.div_le_div_right (c := 18446744073709551616) (Nat.le_of_not_lt h); simpa using this) (Nat.mod_lt _ (by decide)) l2
    rw [Nat.mul_comm (P / 18446744073709551616), Nat.div_add_mod] at this
    exact this
/-- what Scale answers at any factors -/
theorem scale_full (a : Int) (c : ByteArray) (K L : Nat) (mode : Int) (w : World) (hc : c.size ≤ maxLen) (hcl : curL c.data.toList = true) (a0 : -4503599627370496 ≤ a) (a1 : a ≤ 4503599627370496)
    (k1 : 1 ≤ K) (k2 : K ≤ 1099511627776) (l1 : 1 ≤ L) (l2 : L ≤ 1099511627776) (m1 : 1 ≤ mode) (m2 : mode ≤ 4) :
    Calls Tryd.prog 19 #[mo a c, .int .i64 K, .int .i64 L, .int .i64 mode] w fun e w' => e = .returned (if rndQ a K L mode ≤ 4503599627370496 then .tuple #[mo (sgn a (rndQ a K L mode)) c, .int .i64 0] else .tuple #[mo0, .int .i64 4]) ∧ Below w.heap.size w w' := by
  have hbI : ∀ b, 0 ≤ bI b ∧ bI b ≤ 1 := by intro b; cases b <;> decide
  have hr : a.natAbs * K % L < L := Nat.mod_lt _ (by omega)
  have hcm : K * a.natAbs = a.natAbs * K := Nat.mul_comm _ _
  have h3 : ∀ w, Calls Tryd.prog 36 #[.int .u64 (a.natAbs : Nat), .int .u64 K] w fun e w' => e = .returned (.tuple #[.int .u64 ((a.natAbs * K / 18446744073709551616 : Nat) : Int), .int .u64 ((a.natAbs * K % 18446744073709551616 : Nat) : Int)]) ∧ w' = w := fun w =>
    (Tryd.bits_Mul64 a.natAbs K (by omega) (by omega) w).mono fun e w' ⟨he, hw⟩ => ⟨he, hw⟩
  have g1 := fun w => mcheck_ok a c hc hcl a0 a1 w
  have g2 := fun w => magn_any a a0 a1 w
  have g3 := fun w => magn_s K (by omega) (by omega) w
  unfold rndQ
  rw [hcm]
  generalize a.natAbs * K = P at *
  by_cases hH : L ≤ P / 18446744073709551616
  · have hq : 4503599627370497 ≤ P / L := by
      rw [Nat.le_div_iff_mul_le (by omega)] at hH ⊢
      omega
    have hcq : capQ (P / L) = 4503599627370497 := by unfold capQ; rw [if_neg (by omega)]
    have := (hbI (upI (capQ (P / L)) ((P % L : Nat) : Int) L mode)).1
    rw [if_neg (by rw [hcq] at this ⊢; omega)]
    exact scale_too a c (a.natAbs : Nat) K L _ _ mode w g1 g2 g3 h3 (decide_eq_true (by omega)) (by omega) (by omega) (by omega) (by omega) m1 m2
  · have hdl : decide ((L : Int) ≤ ((P / 18446744073709551616 : Nat) : Int)) = false := decide_eq_false (by omega)
    have g4 := fun w => div_words P L w (by omega) l1 (by omega)
    by_cases hq : P / L ≤ 4503599627370496
    · have hcq : capQ (P / L) = ((P / L : Nat) : Int) := by unfold capQ; rw [if_pos hq]
      have g5 := fun w => up_any (P / L) (P % L) L mode hq (by omega) (by omega) m1 m2 w
      rw [up_same] at g5
      rw [hcq]
      by_cases hs : ((P / L : Nat) : Int) + bI (upI ((P / L : Nat) : Int) ((P % L : Nat) : Int) L mode) ≤ 4503599627370496
      · rw [if_pos hs]
        exact scale_core2 a c (a.natAbs : Nat) K L _ _ _ _ mode _ w g1 g2 g3 h3 g4 g5 hdl (by omega) (by omega) (by omega) (by omega) m1 m2 (Int.natCast_nonneg _) (by omega) hs
      · rw [if_neg hs]
        have hb : upI ((P / L : Nat) : Int) ((P % L : Nat) : Int) L mode = true := by
          cases h : upI ((P / L : Nat) : Int) ((P % L : Nat) : Int) L mode
          · rw [h, show bI false = 0 from rfl] at hs; exfalso; generalize P / L = z at *; omega
          · rfl
        rw [hb] at g5 hs
        have hqq : ((P / L : Nat) : Int) = 4503599627370496 := by rw [show bI true = 1 from rfl] at hs; generalize P / L = z at *; omega
        rw [hqq] at g4 g5
        exact scale_top a c (a.natAbs : Nat) K L _ _ _ mode w g1 g2 g3 h3 g4 g5 hdl (by omega) (by omega) (by omega) (by omega) m1 m2
    · have hcq : capQ (P / L) = 4503599627370497 := by unfold capQ; rw [if_neg hq]
      have := (hbI (upI (capQ (P / L)) ((P % L : Nat) : Int) L mode)).1
      rw [if_neg (by rw [hcq] at this ⊢; omega)]
      exact scale_far a c (a.natAbs : Nat) K L _ _ _ _ mode w g1 g2 g3 h3 g4 hdl (decide_eq_false (by omega)) (decide_eq_true (by omega)) (by omega) (by omega) (by omega) (by omega) m1 m2
theorem mcheck_far (a : Int) (c : ByteArray) (hc : c.size ≤ maxLen) (h : curL c.data.toList = true) (h0 : a < -4503599627370496 ∨ 4503599627370496 < a) (w : World) :
    Calls Tryd.prog 16 #[mo a c] w fun e w' => e = .returned (.int .i64 4) ∧ Below w.heap.size w w' := by
  have HC := Lib.hid (cur_yes c hc h)
  unfold mo
  clear hc h
  by_cases g : a < -4503599627370496
  · clear h0
    go_enter Tryd.func16, Tryd.ntmps16
    go_wp2_with fail
    refine (HC.out _).mono ?_
    rintro e w1 ⟨rfl, rfl⟩
    go_wp2_with fail
    go_ret
    exact ⟨rfl, al (Below.refl _ _)⟩
  · have g1 : 4503599627370496 < a := by omega
    have g2 : -4503599627370496 ≤ a := by omega
    clear h0
    go_enter Tryd.func16, Tryd.ntmps16
    go_wp2_with fail
    refine (HC.out _).mono ?_
    rintro e w1 ⟨rfl, rfl⟩
    go_wp2_with fail
    go_ret
    exact ⟨rfl, al (Below.refl _ _)⟩
theorem rmcheck_far (a : Int) (c : ByteArray) (hc : c.size ≤ maxLen) (h : curL c.data.toList = true) (h0 : a < -4503599627370496 ∨ 4503599627370496 < a) (w : World) :
    Calls Tryd.prog 17 #[mo a c] w fun e w' => e = .returned (.int .i64 4) ∧ Below w.heap.size w w' := by
  have := rmcheck_any a c hc w
  rw [show mchk a c = 4 from by unfold mchk; rw [if_neg (by rw [h]; decide), if_neg (by omega)]] at this
  exact this
end div

end Go.Proofs.YtompeealmgdfhaaDoor
