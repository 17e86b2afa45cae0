/- What Of makes of a list of numbers, bit by bit. -/
import Derived.Test.YtfiingnanofneaaDoorH
set_option linter.unusedVariables false
set_option linter.unusedSimpArgs false
namespace Go.Proofs.YtfiingnanofneaaDoor
/-- numbers as integers -/
def ints (l : List Nat) : List Int := l.map fun (m : Nat) => (m : Int)
theorem b0_bit (m i : Nat) : (b0 m).testBit i = decide (m ≤ 64 ∧ 64 - m = i) := by
  unfold b0
  split
  · rename_i h
    rw [Nat.testBit_two_pow]
    simp [h]
  · rename_i h
    simp [h]
theorem b1_bit (m i : Nat) : (b1 m).testBit i = decide (64 < m ∧ 128 - m = i) := by
  unfold b1
  split
  · rename_i h
    have : ¬ 64 < m := by omega
    simp [this]
  · rename_i h
    have : 64 < m := by omega
    rw [Nat.testBit_two_pow]
    simp [this]
theorem fold_bit (l : List Nat) (p : Nat × Nat) (i : Nat) :
    ((ints l).foldl stepO p).1.testBit i = (p.1.testBit i || l.any fun m => decide (m ≤ 64 ∧ 64 - m = i)) ∧
    ((ints l).foldl stepO p).2.testBit i = (p.2.testBit i || l.any fun m => decide (64 < m ∧ 128 - m = i)) := by
  induction l generalizing p with
  | nil => simp [ints]
  | cons m l ih =>
    obtain ⟨h1, h2⟩ := ih (stepO p (m : Int))
    have e : (ints (m :: l)).foldl stepO p = (ints l).foldl stepO (stepO p (m : Int)) := rfl
    rw [e, h1, h2]
    simp only [stepO, Int.toNat_natCast, Nat.testBit_or, b0_bit, b1_bit, List.any_cons, Bool.or_assoc]
    exact ⟨trivial, trivial⟩
theorem ofBit (l : List Nat) (i : Nat) :
    (foldO (ints l)).1.testBit i = (l.any fun m => decide (m ≤ 64 ∧ 64 - m = i)) ∧ (foldO (ints l)).2.testBit i = (l.any fun m => decide (64 < m ∧ 128 - m = i)) := by
  have := fold_bit l (0, 0) i
  simpa [foldO] using this
theorem okZ_ints (l : List Nat) (h : ∀ m ∈ l, 2 ≤ m ∧ m ≤ 128) : okZ (ints l) = true := by
  unfold okZ ints
  rw [List.all_map, List.all_eq_true]
  intro m hm
  have := h m hm
  simp only [Function.comp, okN, decide_eq_true_eq]
  omega
theorem mem_nums (a b m : Nat) : m ∈ nums a b 127 ↔ (2 ≤ m ∧ m ≤ 128) ∧ hasB a b m = true := by
  unfold nums
  rw [List.mem_filter, List.mem_range'_1]
  constructor
  · rintro ⟨⟨h1, h2⟩, h3⟩; exact ⟨⟨h1, by omega⟩, h3⟩
  · rintro ⟨⟨h1, h2⟩, h3⟩; exact ⟨⟨h1, by omega⟩, h3⟩
/-- a list whose members are the numbers that a test tells, as a bitmap -/
theorem of_set (l : List Nat) (x y : Nat) (t : Nat → Bool) (hl : ∀ m, m ∈ l ↔ (2 ≤ m ∧ m ≤ 128) ∧ t m = true)
    (hx : ∀ i, x.testBit i = (decide (i ≤ 62) && t (64 - i))) (hy : ∀ i, y.testBit i = (decide (i ≤ 63) && t (128 - i))) : ofR (ints l) = .tuple #[bm x y, .int .i64 0] := by
  have hok : okZ (ints l) = true := okZ_ints l fun m hm => ((hl m).1 hm).1
  have h1 : (foldO (ints l)).1 = x := by
    apply Nat.eq_of_testBit_eq
    intro i
    rw [(ofBit l i).1, hx i, Bool.eq_iff_iff]
    simp only [List.any_eq_true, decide_eq_true_eq, Bool.and_eq_true]
    constructor
    · rintro ⟨m, hm, h2, h3⟩
      obtain ⟨⟨h4, h5⟩, h6⟩ := (hl m).1 hm
      refine ⟨by omega, ?_⟩
      rw [show 64 - i = m from by omega]; exact h6
    · rintro ⟨h2, h3⟩
      exact ⟨64 - i, (hl _).2 ⟨by omega, h3⟩, by omega, by omega⟩
  have h2 : (foldO (ints l)).2 = y := by
    apply Nat.eq_of_testBit_eq
    intro i
    rw [(ofBit l i).2, hy i, Bool.eq_iff_iff]
    simp only [List.any_eq_true, decide_eq_true_eq, Bool.and_eq_true]
    constructor
    · rintro ⟨m, hm, h2, h3⟩
      obtain ⟨⟨h4, h5⟩, h6⟩ := (hl m).1 hm
      refine ⟨by omega, ?_⟩
      rw [show 128 - i = m from by omega]; exact h6
    · rintro ⟨h2, h3⟩
      exact ⟨128 - i, (hl _).2 ⟨by omega, h3⟩, by omega, by omega⟩
  unfold ofR
  rw [if_pos hok, h1, h2]
theorem bit_high {x i : Nat} (hx : x < B64) (hi : 64 ≤ i) : x.testBit i = false :=
  Nat.testBit_lt_two_pow (Nat.lt_of_lt_of_le hx (by rw [show B64 = 2 ^ 64 from rfl]; exact Nat.pow_le_pow_right (by decide) hi))
theorem mod63_bit (x i : Nat) : (x % B63).testBit i = (decide (i ≤ 62) && x.testBit i) := by
  rw [show B63 = 2 ^ 63 from rfl, Nat.testBit_mod_two_pow]
  congr 1
  exact decide_eq_decide.2 (by omega)
theorem has_low (a b i : Nat) (hi : i ≤ 62) : hasB a b (64 - i) = a.testBit i := by
  unfold hasB
  rw [if_pos (by omega), show 64 - (64 - i) = i from by omega]
theorem has_high (a b i : Nat) (hi : i ≤ 63) : hasB a b (128 - i) = b.testBit i := by
  unfold hasB
  rw [if_neg (by omega), show 128 - (128 - i) = i from by omega]
/-- the union, as the reference makes it -/
theorem of_union (a b c d : Nat) (hb : b < B64) (hd : d < B64) : ofR (ints (nums a b 127 ++ nums c d 127)) = .tuple #[bm ((a ||| c) % B63) (b ||| d), .int .i64 0] := by
  refine of_set _ _ _ (fun m => hasB a b m || hasB c d m) ?_ ?_ ?_
  · intro m
    rw [List.mem_append, mem_nums, mem_nums, Bool.or_eq_true]
    constructor
    · rintro (⟨h1, h2⟩ | ⟨h1, h2⟩)
      · exact ⟨h1, .inl h2⟩
      · exact ⟨h1, .inr h2⟩
    · rintro ⟨h1, h2 | h2⟩
      · exact .inl ⟨h1, h2⟩
      · exact .inr ⟨h1, h2⟩
  · intro i
    rw [mod63_bit, Nat.testBit_or]
    by_cases hi : i ≤ 62
    · rw [has_low a b i hi, has_low c d i hi]
    · simp [hi]
  · intro i
    rw [Nat.testBit_or]
    by_cases hi : i ≤ 63
    · rw [has_high a b i hi, has_high c d i hi]; simp [hi]
    · rw [bit_high hb (by omega), bit_high hd (by omega)]; simp [hi]
/-- the numbers of one that are not in another -/
def diff (a b c d k : Nat) : List Nat := (List.range' 2 k).filter fun m => hasB a b m && !hasB c d m
theorem of_minus (a b c d : Nat) (hb : b < B64) (hc : c < B64) (hd : d < B64) : ofR (ints (diff a b c d 127)) = .tuple #[bm ((a &&& nt c) % B63) (b &&& nt d), .int .i64 0] := by
  refine of_set _ _ _ (fun m => hasB a b m && !hasB c d m) ?_ ?_ ?_
  · intro m
    unfold diff
    rw [List.mem_filter, List.mem_range'_1]
    constructor
    · rintro ⟨⟨h1, h2⟩, h3⟩; exact ⟨⟨h1, by omega⟩, h3⟩
    · rintro ⟨⟨h1, h2⟩, h3⟩; exact ⟨⟨h1, by omega⟩, h3⟩
  · intro i
    rw [mod63_bit, Nat.testBit_and, nt_bit c i hc]
    by_cases hi : i ≤ 62
    · rw [has_low a b i hi, has_low c d i hi]
      have : i < 64 := by omega
      simp [this]
    · simp [hi]
  · intro i
    rw [Nat.testBit_and, nt_bit d i hd]
    by_cases hi : i ≤ 63
    · rw [has_high a b i hi, has_high c d i hi]
      have : i < 64 := by omega
      simp [hi, this]
    · rw [bit_high hb (by omega)]; simp [hi]
end Go.Proofs.YtfiingnanofneaaDoor
