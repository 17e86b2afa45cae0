/- Luhn's arithmetic: a wrong digit, an exchange of neighbours. -/
import Derived.Test.YtagfimemiggnlaaDoorJ
set_option linter.unusedVariables false
set_option linter.unusedSimpArgs false
namespace Go.Proofs.YtagfimemiggnlaaDoor
open Go.Sort Go.ChangeShapes Go.WideShapes Go.ChangeAt Go.RowKit
/-- what a digit counts at place k of n -/
def ctr (n : Int) (k : Nat) (c : UInt8) : Int := if (n - 1 - k + 1) % 2 = 0 then lz ((c.toNat : Int) - 48) else (c.toNat : Int) - 48
theorem lsum_c (l : List UInt8) (n : Int) (k : Nat) : lsum l n 1 (k + 1) = lsum l n 1 k + ctr n k (l.getD k 0) := rfl
theorem lsum_set (l : List UInt8) (n : Int) (i : Nat) (v : UInt8) (hi : i < l.length) (k : Nat) :
    lsum (l.set i v) n 1 k = lsum l n 1 k + if i < k then ctr n i v - ctr n i (l.getD i 0) else 0 := by
  induction k with
  | zero => rw [if_neg (by omega)]; rfl
  | succ k ih =>
    rw [lsum_c, lsum_c, ih]
    have hg : (l.set i v).getD k 0 = if i = k then v else l.getD k 0 := by
      rw [List.getD_eq_getElem?_getD, List.getD_eq_getElem?_getD, List.getElem?_set]
      by_cases h : i = k
      · subst h; simp [hi]
      · simp [h]
    rw [hg]
    by_cases h : i = k
    · subst h
      rw [if_neg (by omega), if_pos rfl, if_pos (by omega)]
      omega
    · rw [if_neg h]
      by_cases h2 : i < k
      · rw [if_pos h2, if_pos (by omega)]; omega
      · rw [if_neg h2, if_neg (by omega)]; omega
theorem ctr_ne (n : Int) (k : Nat) (a b : UInt8) (ha : dgB a.toNat = true) (hb : dgB b.toNat = true) (h : a ≠ b) : (ctr n k a - ctr n k b) % 10 ≠ 0 := by
  have ha := (dgB_iff _).1 ha
  have hb := (dgB_iff _).1 hb
  have hne : a.toNat ≠ b.toNat := fun e => h (UInt8.toNat_inj.1 e)
  unfold ctr lz
  by_cases hp : (n - 1 - (k : Int) + 1) % 2 = 0
  · rw [if_pos hp, if_pos hp]
    by_cases h1 : 9 < 2 * ((a.toNat : Int) - 48) <;> by_cases h2 : 9 < 2 * ((b.toNat : Int) - 48)
    · rw [if_pos h1, if_pos h2]; omega
    · rw [if_pos h1, if_neg h2]; omega
    · rw [if_neg h1, if_pos h2]; omega
    · rw [if_neg h1, if_neg h2]; omega
  · rw [if_neg hp, if_neg hp]; omega
def b09 (a b : UInt8) : Bool := (a == 48 && b == 57) || (a == 57 && b == 48)
theorem b09_iff (a b : UInt8) : b09 a b = true ↔ (a.toNat = 48 ∧ b.toNat = 57) ∨ (a.toNat = 57 ∧ b.toNat = 48) := by
  have e : ∀ (x : UInt8) (k : Nat) (hk : k < 256), x = UInt8.ofNat k ↔ x.toNat = k := fun x k hk => by
    rw [← UInt8.toNat_inj, UInt8.toNat_ofNat']; rw [Nat.mod_eq_of_lt (by omega)]
  unfold b09
  rw [Bool.or_eq_true, Bool.and_eq_true, Bool.and_eq_true, beq_iff_eq, beq_iff_eq, beq_iff_eq, beq_iff_eq]
  rw [show (48 : UInt8) = UInt8.ofNat 48 from rfl, show (57 : UInt8) = UInt8.ofNat 57 from rfl, e a 48 (by omega), e b 57 (by omega), e a 57 (by omega), e b 48 (by omega)]
theorem ctr_swap (n : Int) (k : Nat) (a b : UInt8) (ha : dgB a.toNat = true) (hb : dgB b.toNat = true) (h : a ≠ b) :
    ((ctr n k b - ctr n k a) + (ctr n (k + 1) a - ctr n (k + 1) b)) % 10 = 0 ↔ b09 a b = true := by
  have ha := (dgB_iff _).1 ha
  have hb := (dgB_iff _).1 hb
  have hne : a.toNat ≠ b.toNat := fun e => h (UInt8.toNat_inj.1 e)
  rw [b09_iff]
  unfold ctr lz
  have hk : ((k + 1 : Nat) : Int) = (k : Int) + 1 := by omega
  rw [hk]
  by_cases hp : (n - 1 - (k : Int) + 1) % 2 = 0
  · have hq : ¬ (n - 1 - ((k : Int) + 1) + 1) % 2 = 0 := by omega
    rw [if_pos hp, if_pos hp, if_neg hq, if_neg hq]
    by_cases h1 : 9 < 2 * ((a.toNat : Int) - 48) <;> by_cases h2 : 9 < 2 * ((b.toNat : Int) - 48)
    · rw [if_pos h1, if_pos h2]; omega
    · rw [if_pos h1, if_neg h2]; omega
    · rw [if_neg h1, if_pos h2]; omega
    · rw [if_neg h1, if_neg h2]; omega
  · have hq : (n - 1 - ((k : Int) + 1) + 1) % 2 = 0 := by omega
    rw [if_neg hp, if_neg hp, if_pos hq, if_pos hq]
    by_cases h1 : 9 < 2 * ((a.toNat : Int) - 48) <;> by_cases h2 : 9 < 2 * ((b.toNat : Int) - 48)
    · rw [if_pos h1, if_pos h2]; omega
    · rw [if_pos h1, if_neg h2]; omega
    · rw [if_neg h1, if_pos h2]; omega
    · rw [if_neg h1, if_neg h2]; omega
/-- the check on lists -/
def luhL (l : List UInt8) : Bool := !(l == []) && (allD l && (lsum l l.length 1 l.length % 10 == 0))
theorem luhB_L (s : ByteArray) : luhB s = luhL s.data.toList := by
  unfold luhB luhL
  rw [show s.toList = s.data.toList from ByteArray.toList_eq ..]
  rfl
theorem luhL_iff (l : List UInt8) : luhL l = true ↔ l ≠ [] ∧ allD l = true ∧ lsum l l.length 1 l.length % 10 = 0 := by
  unfold luhL
  rw [Bool.and_eq_true, Bool.and_eq_true, Bool.not_eq_true', beq_eq_false_iff_ne, beq_iff_eq]
theorem allD_set {l : List UInt8} (h : allD l = true) (i : Nat) (v : UInt8) (hv : dgB v.toNat = true) : allD (l.set i v) = true := by
  unfold allD at *
  rw [List.all_eq_true] at *
  intro x hx
  rcases List.mem_or_eq_of_mem_set hx with h1 | h1
  · exact h x h1
  · rw [h1]; exact hv
theorem allD_get {l : List UInt8} (h : allD l = true) (i : Nat) (hi : i < l.length) : dgB (l.getD i 0).toNat = true := by
  unfold allD at h
  rw [List.all_eq_true] at h
  rw [List.getD_eq_getElem?_getD, List.getElem?_eq_getElem hi]
  exact h _ (List.getElem_mem _)
theorem luh_wrong (l : List UInt8) (h : luhL l = true) (i : Nat) (hi : i < l.length) (v : UInt8) (hv : dgB v.toNat = true) (hne : v ≠ l.getD i 0) : luhL (l.set i v) = false := by
  obtain ⟨h0, hd, hs⟩ := (luhL_iff l).1 h
  cases hc : luhL (l.set i v)
  · rfl
  · exfalso
    obtain ⟨_, _, hs2⟩ := (luhL_iff _).1 hc
    rw [List.length_set, lsum_set l _ i v hi, if_pos hi] at hs2
    have := ctr_ne (l.length : Int) i v (l.getD i 0) hv (allD_get hd i hi) hne
    omega
theorem luh_swap (l : List UInt8) (h : luhL l = true) (i : Nat) (hi : i + 1 < l.length) (hne : l.getD i 0 ≠ l.getD (i + 1) 0) :
    luhL ((l.set i (l.getD (i + 1) 0)).set (i + 1) (l.getD i 0)) = b09 (l.getD i 0) (l.getD (i + 1) 0) := by
  obtain ⟨h0, hd, hs⟩ := (luhL_iff l).1 h
  have da := allD_get hd i (by omega)
  have db := allD_get hd (i + 1) hi
  have hc := ctr_swap (l.length : Int) i _ _ da db hne
  have hA : allD ((l.set i (l.getD (i + 1) 0)).set (i + 1) (l.getD i 0)) = true := allD_set (allD_set hd _ _ db) _ _ da
  have hN : (l.set i (l.getD (i + 1) 0)).set (i + 1) (l.getD i 0) ≠ [] := by
    intro e
    have h2 : ((l.set i (l.getD (i + 1) 0)).set (i + 1) (l.getD i 0)).length = l.length := by rw [List.length_set, List.length_set]
    rw [e] at h2
    change 0 = l.length at h2
    omega
  have hS : lsum ((l.set i (l.getD (i + 1) 0)).set (i + 1) (l.getD i 0)) l.length 1 l.length = lsum l l.length 1 l.length + (ctr l.length i (l.getD (i + 1) 0) - ctr l.length i (l.getD i 0)) + (ctr l.length (i + 1) (l.getD i 0) - ctr l.length (i + 1) (l.getD (i + 1) 0)) := by
    rw [lsum_set _ _ (i + 1) _ (by rw [List.length_set]; exact hi), if_pos hi, lsum_set _ _ i _ (by omega), if_pos (by omega)]
    have : (l.set i (l.getD (i + 1) 0)).getD (i + 1) 0 = l.getD (i + 1) 0 := by
      rw [List.getD_eq_getElem?_getD, List.getElem?_set_ne (by omega), ← List.getD_eq_getElem?_getD]
    rw [this]
  generalize hX : (l.set i (l.getD (i + 1) 0)).set (i + 1) (l.getD i 0) = X at *
  have hL : X.length = l.length := by rw [← hX]; simp
  cases hb : b09 (l.getD i 0) (l.getD (i + 1) 0)
  · cases hx : luhL X
    · rfl
    · exfalso
      obtain ⟨_, _, hs2⟩ := (luhL_iff _).1 hx
      rw [hL, hS] at hs2
      have : ((ctr (l.length : Int) i (l.getD (i + 1) 0) - ctr l.length i (l.getD i 0)) + (ctr l.length (i + 1) (l.getD i 0) - ctr l.length (i + 1) (l.getD (i + 1) 0))) % 10 = 0 := by omega
      rw [hc.1 this] at hb
      cases hb
  · apply (luhL_iff _).2
    refine ⟨hN, hA, ?_⟩
    rw [hL, hS]
    have := hc.2 hb
    omega
end Go.Proofs.YtagfimemiggnlaaDoor
