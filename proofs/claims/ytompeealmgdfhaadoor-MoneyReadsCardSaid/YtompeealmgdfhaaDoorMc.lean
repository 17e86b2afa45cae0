/- Digits and numbers. -/
import Derived.Test.YtompeealmgdfhaaDoorY
import Derived.Test.YtompeealmgdfhaaDoorMb
import Derived.Lib.IndexLaws
set_option linter.unusedVariables false
set_option linter.unusedSimpArgs false
namespace Go.Proofs.YtompeealmgdfhaaDoor
open Go.Sort Go.ChangeShapes Go.WideShapes Go.ChangeAt Go.RowKit
open div
def valF (acc : Nat) (l : List UInt8) : Nat := l.foldl (fun a c => a * 10 + (c.toNat - 48)) acc
theorem valF_cons (acc : Nat) (c : UInt8) (r : List UInt8) : valF acc (c :: r) = valF (acc * 10 + (c.toNat - 48)) r := List.foldl_cons ..
theorem valF_nil (acc : Nat) : valF acc [] = acc := List.foldl_nil ..
theorem valF_ge (l : List UInt8) : ∀ acc, acc ≤ valF acc l := by
  induction l with
  | nil => intro acc; rw [valF_nil]; exact Nat.le_refl _
  | cons c r ih => intro acc; rw [valF_cons]; exact Nat.le_trans (by omega) (ih _)
theorem valF_app (l m : List UInt8) : ∀ acc, valF acc (l ++ m) = valF (valF acc l) m := by
  induction l with
  | nil => intro acc; rfl
  | cons c r ih => intro acc; rw [List.cons_append, valF_cons, valF_cons]; exact ih _
theorem dgB_iff (c : Nat) : dgB c = true ↔ 48 ≤ c ∧ c ≤ 57 := by unfold dgB; rw [Bool.and_eq_true, decide_eq_true_iff, decide_eq_true_iff]
theorem pm_cons (M acc : Nat) (c : UInt8) (r : List UInt8) (h : 48 ≤ c.toNat ∧ c.toNat ≤ 57) : Lib.parseUintM M acc (c :: r) = if 1844674407370955162 ≤ acc then .range else if M < acc * 10 + (c.toNat - 48) then .range else Lib.parseUintM M (acc * 10 + (c.toNat - 48)) r := if_pos h
theorem pum (M : Nat) (hM : M = 18446744073709551615) (l : List UInt8) : ∀ acc, allD l = true → acc ≤ M → Lib.parseUintM M acc l = if valF acc l ≤ M then .ok (valF acc l) else .range := by
  induction l with
  | nil => intro acc _ h; rw [valF_nil, if_pos h]; rfl
  | cons c r ih =>
    intro acc h ha
    have hc : dgB c.toNat = true ∧ allD r = true := by simpa [allD] using h
    have hg := valF_ge r (acc * 10 + (c.toNat - 48))
    rw [pm_cons M acc c r ((dgB_iff _).1 hc.1), valF_cons]
    generalize hG : valF (acc * 10 + (c.toNat - 48)) r = G at hg ⊢
    generalize hK : acc * 10 + (c.toNat - 48) = K at hG hg ⊢
    subst hG
    by_cases h1 : 1844674407370955162 ≤ acc
    · rw [if_pos h1, if_neg (by omega)]
    · rw [if_neg h1]
      by_cases h2 : M < K
      · rw [if_pos h2, if_neg (by omega)]
      · rw [if_neg h2]
        exact ih _ hc.2 (by omega)
theorem pib (l : List UInt8) (h : allD l = true) (h0 : l ≠ []) : Lib.parseIntB 64 l = if valF 0 l < 9223372036854775808 then .ok ((valF 0 l : Nat) : Int) else .range := by
  cases l with
  | nil => exact absurd rfl h0
  | cons c r =>
    have hc : dgB c.toNat = true := by have : dgB c.toNat = true ∧ allD r = true := by simpa [allD] using h
                                       exact this.1
    have hd := (dgB_iff _).1 hc
    have n1 : ¬ c.toNat = 45 := by omega
    have n2 : ¬ (c.toNat = 43 ∨ c.toNat = 45) := by omega
    have e1 : Lib.parseUintB 64 (c :: r) = if valF 0 (c :: r) ≤ 18446744073709551615 then .ok (valF 0 (c :: r)) else .range := by
      unfold Lib.parseUintB
      rw [if_neg (by simp)]
      exact pum _ rfl (c :: r) 0 h (Nat.zero_le _)
    unfold Lib.parseIntB
    simp only [n1, if_false, false_and, not_false_eq_true, true_and]
    rw [if_neg (show ¬ (c.toNat = 43 ∨ False) from fun h => h.elim (fun h => by omega) id), e1]
    generalize valF 0 (c :: r) = V
    by_cases h1 : V ≤ 18446744073709551615
    · rw [if_pos h1]
      by_cases h2 : V < 9223372036854775808
      · rw [if_pos h2]
        show (if 2 ^ (64 - 1) ≤ V then _ else _) = _
        rw [if_neg (show ¬ (2 ^ (64 - 1) ≤ V) by omega)]
      · rw [if_neg h2]
        show (if 2 ^ (64 - 1) ≤ V then _ else _) = _
        rw [if_pos (show (2 ^ (64 - 1) ≤ V) by omega)]
    · rw [if_neg h1, if_neg (by omega)]
theorem dec_big {u : Nat} (h : ¬ u < 10) : Lib.decDigits u = Lib.decDigits (u / 10) ++ [UInt8.ofNat (48 + u % 10)] := by rw [Lib.decDigits, dif_neg h]
theorem dec_small {u : Nat} (h : u < 10) : Lib.decDigits u = [UInt8.ofNat (48 + u)] := by rw [Lib.decDigits, dif_pos h]
theorem ofNat_d (k : Nat) (h : k < 10) : (UInt8.ofNat (48 + k)).toNat = 48 + k := by simp; omega
theorem dec_all (u : Nat) : allD (Lib.decDigits u) = true := by
  induction u using Nat.strongRecOn with
  | _ u ih =>
    by_cases h : u < 10
    · rw [dec_small h]; simp only [allD, List.all_cons, List.all_nil, Bool.and_true]; rw [ofNat_d u h, dgB_iff]; omega
    · rw [dec_big h]
      have := ih (u / 10) (by omega)
      simp only [allD, List.all_append, List.all_cons, List.all_nil, Bool.and_true] at this ⊢
      rw [this, ofNat_d _ (by omega)]
      simp only [Bool.true_and]
      rw [dgB_iff]; omega
theorem dec_val (u : Nat) : valF 0 (Lib.decDigits u) = u := by
  induction u using Nat.strongRecOn with
  | _ u ih =>
    by_cases h : u < 10
    · rw [dec_small h]; rw [valF_cons, valF_nil, ofNat_d u h]; omega
    · rw [dec_big h, valF_app, ih (u / 10) (by omega)]; rw [valF_cons, valF_nil, ofNat_d _ (by omega)]; omega
theorem dec_ne (u : Nat) : Lib.decDigits u ≠ [] := by
  by_cases h : u < 10
  · rw [dec_small h]; simp
  · rw [dec_big h]; simp
theorem dec_head (u : Nat) (h0 : 0 < u) : (Lib.decDigits u).head? ≠ some 48 := by
  induction u using Nat.strongRecOn with
  | _ u ih =>
    by_cases h : u < 10
    · rw [dec_small h]
      simp only [List.head?_cons, ne_eq, Option.some.injEq]
      intro e
      have := ofNat_d u h
      rw [e] at this
      have h48 : (48 : UInt8).toNat = 48 := rfl
      omega
    · rw [dec_big h]
      have := ih (u / 10) (by omega) (by omega)
      have hn := dec_ne (u / 10)
      cases hd : Lib.decDigits (u / 10) with
      | nil => exact absurd hd hn
      | cons c r => rw [hd] at this; simpa using this
theorem valF_zeros (k : Nat) (l : List UInt8) : valF 0 (List.replicate k 48 ++ l) = valF 0 l := by
  induction k with
  | zero => rfl
  | succ k ih => rw [List.replicate_succ, List.cons_append, valF_cons]; exact ih
theorem pad_back (n : Nat) : ∀ l : List UInt8, l.length = n → l ≠ [] → allD l = true → padL n (Lib.decDigits (valF 0 l)) = l := by
  induction n with
  | zero => intro l h h0; exact absurd (List.length_eq_zero_iff.1 h) h0
  | succ n ih =>
    intro l hl h0 ha
    obtain ⟨m, d, rfl⟩ : ∃ m d, l = m ++ [d] := ⟨l.dropLast, l.getLast h0, (List.dropLast_concat_getLast h0).symm⟩
    have hm : m.length = n := by simpa using hl
    have hd : allD m = true ∧ dgB d.toNat = true := by simpa [allD] using ha
    have hk := (dgB_iff _).1 hd.2
    have hdd : UInt8.ofNat (48 + (d.toNat - 48)) = d := by rw [show 48 + (d.toNat - 48) = d.toNat by omega]; simp
    rw [valF_app]
    rw [valF_cons, valF_nil]
    by_cases hu : valF 0 m = 0
    · rw [hu, dec_small (by omega), Nat.zero_mul, Nat.zero_add, hdd]
      unfold padL
      have hz : m = List.replicate n 48 := by
        rcases Nat.eq_zero_or_pos n with h1 | h1
        · subst h1; rw [List.length_eq_zero_iff.1 hm]; rfl
        · have := ih m hm (by intro e; rw [e] at hm; simp at hm; omega) hd.1
          rw [hu, dec_small (by omega)] at this
          rw [← this]
          unfold padL
          obtain ⟨q, rfl⟩ : ∃ q, n = q + 1 := ⟨n - 1, by omega⟩
          rw [List.replicate_succ']
          rfl
      rw [hz]
      simp
    · have hne : m ≠ [] := by intro e; rw [e] at hu; exact hu rfl
      have := ih m hm hne hd.1
      rw [dec_big (by omega), show (valF 0 m * 10 + (d.toNat - 48)) / 10 = valF 0 m by omega, show (valF 0 m * 10 + (d.toNat - 48)) % 10 = d.toNat - 48 by omega, hdd]
      unfold padL at this ⊢
      rw [List.length_append, List.length_singleton, Nat.add_sub_add_right, ← List.append_assoc, this]
/-- a whole number without superfluous zeros, and so many places: that is its own text -/
theorem core_fmt (x y : List UInt8) (p : Nat) (hy : y.length = p) (ax : allD x = true) (ay : allD y = true) (x0 : x ≠ []) (hx : x = [48] ∨ x.head? ≠ some 48) : padL (p + 1) (Lib.decDigits (valF 0 (x ++ y))) = x ++ y := by
  have hn : x ++ y ≠ [] := by intro e; exact x0 (List.append_eq_nil_iff.1 e).1
  have hb := pad_back _ (x ++ y) rfl hn (by simp only [allD, List.all_append] at ax ay ⊢; rw [ax, ay]; rfl)
  have hx1 : 1 ≤ x.length := by rcases Nat.eq_zero_or_pos x.length with h | h; · exact absurd (List.length_eq_zero_iff.1 h) x0
                                · exact h
  by_cases h1 : x.length = 1
  · rw [List.length_append, h1, hy, Nat.add_comm] at hb; exact hb
  · have hh : x.head? ≠ some 48 := by
      rcases hx with h | h
      · rw [h] at h1; exact absurd rfl h1
      · exact h
    have hl : (x ++ y).length ≤ (Lib.decDigits (valF 0 (x ++ y))).length := by
      rcases Nat.lt_or_ge (Lib.decDigits (valF 0 (x ++ y))).length (x ++ y).length with h | h
      · exfalso
        unfold padL at hb
        obtain ⟨q, hq⟩ : ∃ q, (x ++ y).length - (Lib.decDigits (valF 0 (x ++ y))).length = q + 1 := ⟨(x ++ y).length - (Lib.decDigits (valF 0 (x ++ y))).length - 1, by omega⟩
        rw [hq, List.replicate_succ] at hb
        have h2 : (x ++ y).head? = some 48 := by rw [← hb]; rfl
        cases x with
        | nil => exact x0 rfl
        | cons c r => exact hh (by simpa using h2)
      · exact h
    have hl2 : p + 1 ≤ (x ++ y).length := by rw [List.length_append]; omega
    unfold padL at hb ⊢
    rw [show (x ++ y).length - (Lib.decDigits (valF 0 (x ++ y))).length = 0 by omega] at hb
    rw [show p + 1 - (Lib.decDigits (valF 0 (x ++ y))).length = 0 by omega]
    exact hb
/-- the digits of a number, split before its places -/
theorem core_split (v p : Nat) : ∃ x y : List UInt8, padL (p + 1) (Lib.decDigits v) = x ++ y ∧ y.length = p ∧ allD x = true ∧ allD y = true ∧ x ≠ [] ∧ (x = [48] ∨ x.head? ≠ some 48) ∧ valF 0 (x ++ y) = v := by
  have hl : p + 1 ≤ (padL (p + 1) (Lib.decDigits v)).length := by unfold padL; rw [List.length_append, List.length_replicate]; omega
  have ha : allD (padL (p + 1) (Lib.decDigits v)) = true := by
    unfold padL
    have := dec_all v
    simp only [allD, List.all_append] at this ⊢
    rw [this, Bool.and_true, List.all_eq_true]
    intro c hc
    rw [List.eq_of_mem_replicate hc]; decide
  have hv : valF 0 (padL (p + 1) (Lib.decDigits v)) = v := by unfold padL; rw [valF_zeros, dec_val]
  refine ⟨(padL (p + 1) (Lib.decDigits v)).take ((padL (p + 1) (Lib.decDigits v)).length - p), (padL (p + 1) (Lib.decDigits v)).drop ((padL (p + 1) (Lib.decDigits v)).length - p), (List.take_append_drop _ _).symm, by rw [List.length_drop]; omega, ?_, ?_, ?_, ?_, by rw [List.take_append_drop]; exact hv⟩
  · rw [allD, List.all_eq_true] at ha ⊢; exact fun c hc => ha c (List.mem_of_mem_take hc)
  · rw [allD, List.all_eq_true] at ha ⊢; exact fun c hc => ha c (List.mem_of_mem_drop hc)
  · intro e
    have := congrArg List.length e
    rw [List.length_take, List.length_nil] at this
    omega
  · by_cases h1 : (Lib.decDigits v).length ≤ p + 1
    · have hL : (padL (p + 1) (Lib.decDigits v)).length = p + 1 := by unfold padL; rw [List.length_append, List.length_replicate]; omega
      rw [hL, show p + 1 - p = 1 by omega]
      by_cases h2 : (padL (p + 1) (Lib.decDigits v)).head? = some 48
      · left
        cases hc : padL (p + 1) (Lib.decDigits v) with
        | nil => rw [hc] at h2; cases h2
        | cons c r => rw [hc] at h2; simp at h2; rw [h2]; rfl
      · right
        intro e
        apply h2
        rw [← e, List.head?_take]
        simp
    · right
      have hL : padL (p + 1) (Lib.decDigits v) = Lib.decDigits v := by unfold padL; rw [show p + 1 - (Lib.decDigits v).length = 0 by omega]; rfl
      rw [hL]
      intro e
      rw [List.head?_take] at e
      split at e
      · cases e
      · refine dec_head v ?_ e
        rcases Nat.eq_zero_or_pos v with h0 | h0
        · rw [h0, dec_small (by omega)] at h1; simp at h1
        · exact h0
end Go.Proofs.YtompeealmgdfhaaDoor
