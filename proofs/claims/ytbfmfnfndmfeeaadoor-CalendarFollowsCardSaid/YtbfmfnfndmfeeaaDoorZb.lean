/- Business days enough, and their row. -/
import Derived.Test.YtbfmfnfndmfeeaaDoorZa
set_option linter.unusedVariables false
set_option linter.unusedSimpArgs false
namespace Go.Proofs.YtbfmfnfndmfeeaaDoor
open Go.Sort Go.ChangeShapes Go.WideShapes Go.ChangeAt Go.RowKit
open cal
/-- how many of N dates from a on -/
def cntP (p : Int → Bool) (a : Int) : Nat → Int
  | 0 => 0
  | k + 1 => cntP p a k + if p (a + k) = true then 1 else 0
theorem cntP_succ (p : Int → Bool) (a : Int) (k : Nat) : cntP p a (k + 1) = cntP p a k + if p (a + k) = true then 1 else 0 := rfl
theorem cntN_succ (S : Int → Bool) (a : Int) (k : Nat) : cntN S a (k + 1) = cntN S a k + if bizB S (a + k) = true then 1 else 0 := rfl
theorem cntP_false (a : Int) (N : Nat) : cntP (fun _ => false) a N = 0 := by
  induction N with
  | zero => rfl
  | succ N ih => rw [cntP_succ, ih]; rfl
theorem cntP_one (y a : Int) (N : Nat) : cntP (fun x => x == y) a N ≤ 1 ∧ (y < a ∨ a + N ≤ y → cntP (fun x => x == y) a N = 0) := by
  induction N with
  | zero => exact ⟨by show (0 : Int) ≤ 1; omega, fun _ => rfl⟩
  | succ N ih =>
    rw [cntP_succ]
    by_cases h : a + N = y
    · have e : ((a + N) == y) = true := by rw [beq_iff_eq]; exact h
      have h0 := ih.2 (Or.inr (by omega))
      rw [h0, if_pos e]
      exact ⟨by omega, fun h2 => by omega⟩
    · have e : ¬ ((a + N) == y) = true := by rw [beq_iff_eq]; exact h
      rw [if_neg e]
      exact ⟨by omega, fun h2 => by rw [ih.2 (by omega)]; rfl⟩
theorem cntP_or (p q : Int → Bool) (a : Int) (N : Nat) : cntP (fun x => p x || q x) a N ≤ cntP p a N + cntP q a N := by
  induction N with
  | zero => show (0 : Int) ≤ 0 + 0; omega
  | succ N ih =>
    rw [cntP_succ, cntP_succ, cntP_succ]
    cases h1 : p (a + N)
    · cases h2 : q (a + N)
      · simp; omega
      · simp; omega
    · cases h2 : q (a + N)
      · simp; omega
      · simp; omega
theorem cntP_any (zs : List Int) (a : Int) (N : Nat) : cntP (fun x => zs.any (fun y => x == y)) a N ≤ zs.length := by
  induction zs with
  | nil =>
    rw [show (fun x : Int => ([] : List Int).any (fun y => x == y)) = fun _ => false from rfl, cntP_false]
    exact Int.le_refl _
  | cons y ys ih =>
    have h1 := cntP_or (fun x => x == y) (fun x => ys.any (fun y => x == y)) a N
    have h2 := (cntP_one y a N).1
    rw [show (fun x : Int => (y :: ys).any (fun y => x == y)) = fun x => (x == y) || ys.any (fun y => x == y) from rfl, List.length_cons]
    omega
def wkD (d : Int) : Bool := decide ((d + 3) % 7 < 5)
theorem cntP_week (a : Int) (q : Nat) : cntP wkD a (7 * q) = 5 * q := by
  induction q with
  | zero => rfl
  | succ q ih =>
    rw [show 7 * (q + 1) = 7 * q + 1 + 1 + 1 + 1 + 1 + 1 + 1 by omega]
    iterate 7 rw [cntP_succ]
    rw [ih]
    unfold wkD
    obtain ⟨b, hb⟩ : ∃ b : Int, b = a + ((7 * q : Nat) : Int) := ⟨_, rfl⟩
    have e0 : a + ((7 * q : Nat) : Int) + 3 = b + 3 := by omega
    have e1 : a + ((7 * q + 1 : Nat) : Int) + 3 = b + 4 := by omega
    have e2 : a + ((7 * q + 1 + 1 : Nat) : Int) + 3 = b + 5 := by omega
    have e3 : a + ((7 * q + 1 + 1 + 1 : Nat) : Int) + 3 = b + 6 := by omega
    have e4 : a + ((7 * q + 1 + 1 + 1 + 1 : Nat) : Int) + 3 = b + 7 := by omega
    have e5 : a + ((7 * q + 1 + 1 + 1 + 1 + 1 : Nat) : Int) + 3 = b + 8 := by omega
    have e6 : a + ((7 * q + 1 + 1 + 1 + 1 + 1 + 1 : Nat) : Int) + 3 = b + 9 := by omega
    rw [e0, e1, e2, e3, e4, e5, e6]
    simp only [decide_eq_true_eq]
    have hr : b % 7 = 0 ∨ b % 7 = 1 ∨ b % 7 = 2 ∨ b % 7 = 3 ∨ b % 7 = 4 ∨ b % 7 = 5 ∨ b % 7 = 6 := by omega
    clear e0 e1 e2 e3 e4 e5 e6 hb ih
    rcases hr with h | h | h | h | h | h | h
    · rw [if_pos (by omega), if_pos (by omega), if_neg (by omega), if_neg (by omega), if_pos (by omega), if_pos (by omega), if_pos (by omega)]; omega
    · rw [if_pos (by omega), if_neg (by omega), if_neg (by omega), if_pos (by omega), if_pos (by omega), if_pos (by omega), if_pos (by omega)]; omega
    · rw [if_neg (by omega), if_neg (by omega), if_pos (by omega), if_pos (by omega), if_pos (by omega), if_pos (by omega), if_pos (by omega)]; omega
    · rw [if_neg (by omega), if_pos (by omega), if_pos (by omega), if_pos (by omega), if_pos (by omega), if_pos (by omega), if_neg (by omega)]; omega
    · rw [if_pos (by omega), if_pos (by omega), if_pos (by omega), if_pos (by omega), if_pos (by omega), if_neg (by omega), if_neg (by omega)]; omega
    · rw [if_pos (by omega), if_pos (by omega), if_pos (by omega), if_pos (by omega), if_neg (by omega), if_neg (by omega), if_pos (by omega)]; omega
    · rw [if_pos (by omega), if_pos (by omega), if_pos (by omega), if_neg (by omega), if_neg (by omega), if_pos (by omega), if_pos (by omega)]; omega
theorem cntN_ge (S : Int → Bool) (a : Int) (N : Nat) (h0 : 0 ≤ a) (h1 : a + N ≤ 100000) : cntP wkD a N ≤ cntN S a N + cntP S a N := by
  induction N with
  | zero => show (0 : Int) ≤ 0 + 0; omega
  | succ N ih =>
    have ih := ih (by omega)
    rw [cntP_succ, cntN_succ, cntP_succ]
    have hb : bD (a + N) = true := by unfold bD; rw [decide_eq_true (by omega), decide_eq_true (by omega)]; rfl
    have hw : decide (wkV (a + N) < 5) = wkD (a + N) := by unfold wkV wkD; rw [if_pos hb]
    have hz : bizB S (a + N) = (wkD (a + N) && !S (a + N)) := by unfold bizB; rw [hb, hw]; rfl
    rw [hz]
    cases h2 : wkD (a + N)
    · cases h3 : S (a + N)
      · simp; omega
      · simp; omega
    · cases h3 : S (a + N)
      · simp; omega
      · simp; omega
/-- the i-th business day among N dates -/
theorem cnt_hit (S : Int → Bool) (a : Int) (N : Nat) : ∀ i : Nat, 1 ≤ i → (i : Int) ≤ cntN S a N → ∃ L, L < N ∧ cntN S a L = (i : Int) - 1 ∧ bizB S (a + L) = true := by
  induction N with
  | zero => intro i h1 h2; exact absurd (show (i : Int) ≤ 0 from h2) (by omega)
  | succ N ih =>
    intro i h1 h2
    by_cases h : (i : Int) ≤ cntN S a N
    · obtain ⟨L, l1, l2, l3⟩ := ih i h1 h
      exact ⟨L, by omega, l2, l3⟩
    · rw [cntN_succ] at h2
      split at h2
      · rename_i hb; exact ⟨N, by omega, by omega, hb⟩
      · omega
theorem cntN_mono (S : Int → Bool) (a : Int) (k n : Nat) : cntN S a k ≤ cntN S a (k + n) := by
  rw [cntN_add]
  have := (cntN_in S (a + k) n).1
  omega
/-- the row of business days behind a date -/
theorem row_of (S : Int → Bool) (d : Int) (N : Nat) (h0 : 0 ≤ d) (h1 : d + 1 + N ≤ 100000) (n : Nat) (hn : (n : Int) ≤ cntN S (d + 1) N) : ∃ f : Nat → Int, f 0 = d ∧
    (∀ i, 1 ≤ i → i ≤ n → ∃ L, L < N ∧ f i = d + 1 + L ∧ cntN S (d + 1) L = (i : Int) - 1 ∧ bizB S (f i) = true) ∧ ∀ i, i < n → 0 ≤ f i ∧ IsNext S (f i) (f (i + 1)) := by
  have hex : ∀ i, 1 ≤ i → i ≤ n → ∃ x, ∃ L, L < N ∧ x = d + 1 + L ∧ cntN S (d + 1) L = (i : Int) - 1 ∧ bizB S x = true := fun i a b => by
    obtain ⟨L, l1, l2, l3⟩ := cnt_hit S (d + 1) N i a (by omega)
    exact ⟨_, L, l1, rfl, l2, l3⟩
  have key : ∀ i (h : 1 ≤ i ∧ i ≤ n), (fun j => if h : 1 ≤ j ∧ j ≤ n then (hex j h.1 h.2).choose else d) i = (hex i h.1 h.2).choose := fun i h => dif_pos h
  have key0 : (fun j => if h : 1 ≤ j ∧ j ≤ n then (hex j h.1 h.2).choose else d) 0 = d := dif_neg (by omega)
  refine ⟨fun j => if h : 1 ≤ j ∧ j ≤ n then (hex j h.1 h.2).choose else d, key0, fun i a b => ?_, fun i hi => ?_⟩
  · rw [key i ⟨a, b⟩]; exact (hex i a b).choose_spec
  · rw [key (i + 1) ⟨by omega, hi⟩]
    obtain ⟨L2, m1, m2, m3, m4⟩ := (hex (i + 1) (by omega) hi).choose_spec
    generalize (hex (i + 1) (by omega) hi).choose = y at *
    subst m2
    by_cases hz : i = 0
    · subst hz
      rw [key0]
      refine ⟨h0, by omega, by omega, m4, fun k k1 k2 => ?_⟩
      cases hb : bizB S k
      · rfl
      · exfalso
        obtain ⟨j, rfl⟩ : ∃ j : Nat, k = d + 1 + j := ⟨(k - (d + 1)).toNat, by omega⟩
        have h3 := cntN_mono S (d + 1) (j + 1) (L2 - (j + 1))
        rw [show j + 1 + (L2 - (j + 1)) = L2 by omega, cntN_succ, if_pos hb] at h3
        have := (cntN_in S (d + 1) j).1
        omega
    · rw [key i ⟨by omega, by omega⟩]
      obtain ⟨L1, l1, l2, l3, l4⟩ := (hex i (by omega) (by omega)).choose_spec
      generalize (hex i (by omega) (by omega)).choose = x at *
      subst l2
      have hlt : L1 < L2 := by
        rcases Nat.lt_or_ge L1 L2 with h | h
        · exact h
        · exfalso
          have h3 := cntN_mono S (d + 1) L2 (L1 - L2)
          rw [show L2 + (L1 - L2) = L1 by omega] at h3
          omega
      refine ⟨by omega, by omega, by omega, m4, fun k k1 k2 => ?_⟩
      cases hb : bizB S k
      · rfl
      · exfalso
        obtain ⟨j, rfl⟩ : ∃ j : Nat, k = d + 1 + j := ⟨(k - (d + 1)).toNat, by omega⟩
        have h3 := cntN_mono S (d + 1) (j + 1) (L2 - (j + 1))
        rw [show j + 1 + (L2 - (j + 1)) = L2 by omega, cntN_succ, if_pos hb] at h3
        have h4 := cntN_mono S (d + 1) (L1 + 1) (j - (L1 + 1))
        rw [show L1 + 1 + (j - (L1 + 1)) = j by omega, cntN_succ, if_pos l4] at h4
        omega
end Go.Proofs.YtbfmfnfndmfeeaaDoor
