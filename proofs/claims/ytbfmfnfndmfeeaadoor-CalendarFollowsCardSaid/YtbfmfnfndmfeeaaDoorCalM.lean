/- The calendar's numbers. -/
import Derived.WalkKit
set_option linter.unusedVariables false
set_option linter.unusedSimpArgs false
namespace Go.Proofs.YtbfmfnfndmfeeaaDoor.cal
/-- whether a year is a leap year -/
def lp (y : Int) : Bool := (decide (y % 4 = 0) && !decide (y % 100 = 0)) || decide (y % 400 = 0)
def lp1 (y : Int) : Int := if lp y = true then 1 else 0
theorem lp1_is (y : Int) : lp1 y = if (y % 4 = 0 ∧ ¬ y % 100 = 0) ∨ y % 400 = 0 then 1 else 0 := by
  unfold lp1 lp
  by_cases h1 : y % 4 = 0 <;> by_cases h2 : y % 100 = 0 <;> by_cases h3 : y % 400 = 0 <;> simp [h1, h2, h3]
/-- the days of the months of a year that is not a leap year -/
def len0 (m : Int) : Int := if m = 2 then 28 else if m = 4 ∨ m = 6 ∨ m = 9 ∨ m = 11 then 30 else 31
def ml (y m : Int) : Int := if m = 2 ∧ lp y = true then 29 else len0 m
theorem ml_in (y m : Int) : 28 ≤ ml y m ∧ ml y m ≤ 31 := by unfold ml len0; split <;> (try split) <;> (try split) <;> omega
/-- the date on which a year begins -/
def ys (y : Int) : Int := 365 * (y - 1970) + (y - 1) / 4 - (y - 1) / 100 + (y - 1) / 400 - 477
theorem ys_succ (y : Int) : ys (y + 1) = ys y + 365 + lp1 y := by
  rw [lp1_is]
  unfold ys
  split <;> omega
theorem lp1_in (y : Int) : 0 ≤ lp1 y ∧ lp1 y ≤ 1 := by unfold lp1; split <;> omega
theorem ys_first : ys 1970 = 0 := by decide
theorem ys_last : ys 2244 = 100076 := by decide
theorem ys_le (y : Int) (k : Nat) : ys y ≤ ys (y + k) := by
  induction k with
  | zero => simp
  | succ k ih =>
    have h1 := ys_succ (y + k)
    have h2 := lp1_in (y + k)
    rw [show y + ((k + 1 : Nat) : Int) = y + k + 1 from by omega]
    omega
theorem ys_mono {a b : Int} (h : a ≤ b) : ys a ≤ ys b := by
  have := ys_le a (b - a).toNat
  rwa [show a + ((b - a).toNat : Int) = b from by omega] at this
theorem ys_guess (d : Int) (h : 0 ≤ d) : ys (1970 + d / 366) ≤ d := by unfold ys; omega
/-- the days of the months before a month -/
def cumN (y : Int) : Nat → Int
  | 0 => 0
  | k + 1 => cumN y k + ml y (k + 1)
def cum (y m : Int) : Int := cumN y (m - 1).toNat
theorem cum_first (y : Int) : cum y 1 = 0 := rfl
theorem cum_succ (y m : Int) (h : 1 ≤ m) : cum y (m + 1) = cum y m + ml y m := by
  unfold cum
  rw [show (m + 1 - 1).toNat = (m - 1).toNat + 1 from by omega]
  show cumN y (m - 1).toNat + ml y (((m - 1).toNat : Nat) + 1) = _
  rw [show (((m - 1).toNat : Nat) : Int) + 1 = m from by omega]
theorem cum_year (y : Int) : cum y 13 = 365 + lp1 y := by
  have e : cum y 13 = 0 + ml y 1 + ml y 2 + ml y 3 + ml y 4 + ml y 5 + ml y 6 + ml y 7 + ml y 8 + ml y 9 + ml y 10 + ml y 11 + ml y 12 := rfl
  rw [e]
  unfold ml len0 lp1
  cases lp y <;> simp
theorem cum_le (y m : Int) (k : Nat) (h : 1 ≤ m) : cum y m + 28 * k ≤ cum y (m + k) := by
  induction k with
  | zero => simp
  | succ k ih =>
    have h1 := cum_succ y (m + k) (by omega)
    have h2 := ml_in y (m + k)
    rw [show m + ((k + 1 : Nat) : Int) = m + k + 1 from by omega]
    omega
theorem cum_mono {y a b : Int} (h1 : 1 ≤ a) (h : a ≤ b) : cum y a + 28 * (b - a) ≤ cum y b := by
  have := cum_le y a (b - a).toNat h1
  rw [show a + ((b - a).toNat : Int) = b from by omega] at this
  omega
/-- year, month and day of a date -/
structure IsSplit (date y m d : Int) : Prop where
  y0 : 1970 ≤ y
  y1 : y ≤ 2243
  lo : ys y ≤ date
  hi : date < ys (y + 1)
  m0 : 1 ≤ m
  m1 : m ≤ 12
  mlo : cum y m ≤ date - ys y
  mhi : date - ys y < cum y (m + 1)
  day : d = date - ys y - cum y m + 1
theorem exists_year (date : Int) (h0 : 0 ≤ date) (h1 : date ≤ 99999) : ∃ y, 1970 ≤ y ∧ y ≤ 2243 ∧ ys y ≤ date ∧ date < ys (y + 1) := by
  have step : ∀ k : Nat, k ≤ 274 → (∃ y, 1970 ≤ y ∧ y ≤ 2243 ∧ ys y ≤ date ∧ date < ys (y + 1)) ∨ ys (1970 + k) ≤ date := by
    intro k
    induction k with
    | zero => intro _; right; rw [show (1970 : Int) + ((0 : Nat) : Int) = 1970 from rfl, ys_first]; exact h0
    | succ k ih =>
      intro hk
      rcases ih (by omega) with h | h
      · exact .inl h
      · by_cases hh : ys (1970 + k + 1) ≤ date
        · right; rw [show (1970 : Int) + ((k + 1 : Nat) : Int) = 1970 + k + 1 from by omega]; exact hh
        · left; exact ⟨1970 + k, by omega, by omega, h, by omega⟩
  rcases step 274 (Nat.le_refl _) with h | h
  · exact h
  · rw [show (1970 : Int) + ((274 : Nat) : Int) = 2244 from rfl, ys_last] at h; omega
theorem exists_month (y r : Int) (h0 : 0 ≤ r) (h1 : r < cum y 13) : ∃ m, 1 ≤ m ∧ m ≤ 12 ∧ cum y m ≤ r ∧ r < cum y (m + 1) := by
  have step : ∀ k : Nat, k ≤ 12 → (∃ m, 1 ≤ m ∧ m ≤ 12 ∧ cum y m ≤ r ∧ r < cum y (m + 1)) ∨ cum y (1 + k) ≤ r := by
    intro k
    induction k with
    | zero => intro _; right; rw [show (1 : Int) + ((0 : Nat) : Int) = 1 from rfl, cum_first]; exact h0
    | succ k ih =>
      intro hk
      rcases ih (by omega) with h | h
      · exact .inl h
      · by_cases hh : cum y (1 + k + 1) ≤ r
        · right; rw [show (1 : Int) + ((k + 1 : Nat) : Int) = 1 + k + 1 from by omega]; exact hh
        · left; exact ⟨1 + k, by omega, by omega, h, by omega⟩
  rcases step 12 (Nat.le_refl _) with h | h
  · exact h
  · rw [show (1 : Int) + ((12 : Nat) : Int) = 13 from rfl] at h; omega
theorem exists_split (date : Int) (h0 : 0 ≤ date) (h1 : date ≤ 99999) : ∃ y m d, IsSplit date y m d := by
  obtain ⟨y, a, b, c, e⟩ := exists_year date h0 h1
  have hy := ys_succ y
  have hc := cum_year y
  obtain ⟨m, p, q, r, s⟩ := exists_month y (date - ys y) (by omega) (by omega)
  exact ⟨y, m, _, a, b, c, e, p, q, r, s, rfl⟩
theorem year_one {date a b : Int} (ha : ys a ≤ date) (ha2 : date < ys (a + 1)) (hb : ys b ≤ date) (hb2 : date < ys (b + 1)) : a = b := by
  rcases Int.lt_trichotomy a b with h | h | h
  · have := ys_mono (show a + 1 ≤ b from h); omega
  · exact h
  · have := ys_mono (show b + 1 ≤ a from h); omega
theorem month_one {y r a b : Int} (a1 : 1 ≤ a) (b1 : 1 ≤ b) (ha : cum y a ≤ r) (ha2 : r < cum y (a + 1)) (hb : cum y b ≤ r) (hb2 : r < cum y (b + 1)) : a = b := by
  rcases Int.lt_trichotomy a b with h | h | h
  · have := cum_mono (y := y) (show 1 ≤ a + 1 by omega) (show a + 1 ≤ b from h); omega
  · exact h
  · have := cum_mono (y := y) (show 1 ≤ b + 1 by omega) (show b + 1 ≤ a from h); omega
theorem IsSplit.d_in {date y m d : Int} (h : IsSplit date y m d) : 1 ≤ d ∧ d ≤ ml y m := by
  have := cum_succ y m h.m0
  have := h.day
  have := h.mlo
  have := h.mhi
  omega
/-- what Of answers -/
def ofOk (y m d : Int) : Bool := decide (1970 ≤ y ∧ y ≤ 2243 ∧ 1 ≤ m ∧ m ≤ 12 ∧ 1 ≤ d ∧ d ≤ ml y m ∧ ys y + cum y m + d - 1 ≤ 99999)
def ofV (y m d : Int) : Int := if ofOk y m d = true then ys y + cum y m + d - 1 else 0
def ofE (y m d : Int) : Int := if ofOk y m d = true then 0 else 4
theorem of_nonneg {y m d : Int} (hy : 1970 ≤ y) (hm : 1 ≤ m) (hd : 1 ≤ d) : 0 ≤ ys y + cum y m + d - 1 := by
  have h1 := ys_mono hy
  rw [ys_first] at h1
  have h2 := cum_mono (y := y) (Int.le_refl 1) hm
  rw [cum_first] at h2
  omega
end Go.Proofs.YtbfmfnfndmfeeaaDoor.cal
