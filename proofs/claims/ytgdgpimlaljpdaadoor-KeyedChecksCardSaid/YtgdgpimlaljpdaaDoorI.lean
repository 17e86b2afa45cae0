/- The digits of both: plain lists and numbers. -/
import Derived.Test.YtgdgpimlaljpdaaDoorH
import Derived.Lib.Repeat
import Derived.Lib.Join
set_option linter.unusedVariables false
set_option linter.unusedSimpArgs false
namespace Go.Proofs.YtgdgpimlaljpdaaDoor
open Go.Sort Go.ChangeShapes Go.WideShapes Go.ChangeAt Go.RowKit
theorem dec_big {u : Nat} (h : ¬ u < 10) : Lib.decDigits u = Lib.decDigits (u / 10) ++ [c10 (u % 10)] := by rw [Lib.decDigits, dif_neg h]; rfl
theorem dec_small {u : Nat} (h : u < 10) : Lib.decDigits u = [c10 u] := by rw [Lib.decDigits, dif_pos h]; rfl
theorem lastD_zero (b : Nat) (f : Nat → UInt8) (h0 : f 0 = 48) (n : Nat) : lastD b f n 0 = List.replicate n 48 := by
  induction n with
  | zero => rfl
  | succ n ih => rw [lastD, Nat.zero_div, ih, Nat.zero_mod, h0, List.replicate_succ']
theorem pad10 (m n u : Nat) (h : n ≤ m) : (List.replicate m 48 ++ Lib.decDigits u).drop (m + (Lib.decDigits u).length - n) = lastD 10 c10 n u := by
  induction n generalizing u with
  | zero => rw [lastD, List.drop_eq_nil_of_le (by simp)]
  | succ n ih =>
    by_cases hu : u < 10
    · rw [dec_small hu, lastD, Nat.div_eq_of_lt hu, Nat.mod_eq_of_lt hu, lastD_zero 10 c10 rfl]
      rw [List.drop_append, List.drop_replicate]
      simp only [List.length_cons, List.length_nil, List.length_replicate]
      rw [show m - (m + 1 - (n + 1)) = n by omega, show m + (0 + 1) - (n + 1) - m = 0 by omega]
      rfl
    · rw [dec_big hu, lastD, ← ih (u / 10) (by omega), ← List.append_assoc, List.drop_append, List.length_append, List.length_append, List.length_replicate]
      simp only [List.length_cons, List.length_nil]
      rw [show m + ((Lib.decDigits (u / 10)).length + (0 + 1)) - (n + 1) = m + (Lib.decDigits (u / 10)).length - n by omega]
      rw [show m + (Lib.decDigits (u / 10)).length - n - (m + (Lib.decDigits (u / 10)).length) = 0 by omega]
      rfl
theorem rep1 (n : Nat) : Lib.repeatL [48] n = List.replicate n (48 : UInt8) := by
  induction n with
  | zero => rfl
  | succ n ih => rw [Lib.repeatL, ih, List.replicate_succ]; rfl
theorem hp_last (n u : Nat) (acc : List UInt8) : hp n u acc = lastD 16 hexc n u ++ acc := by
  induction n generalizing u acc with
  | zero => rfl
  | succ n ih => rw [hp, ih, lastD, List.append_assoc]; rfl
theorem pad16 (u : Nat) (hu : u < B64) : (List.replicate 16 48 ++ fmtHex 16 u []).drop (16 + (fmtHex 16 u []).length - 16) = lastD 16 hexc 16 u := by
  obtain ⟨k, h1, h2⟩ := hp_fmt 16 u [] (by decide) (Nat.lt_of_lt_of_le hu (by decide))
  rw [hp_last, List.append_nil] at h1
  simp only [List.length_nil, Nat.add_zero] at h2
  rw [h1, List.drop_append, List.drop_replicate, List.length_replicate, show 16 - (16 + (fmtHex 16 u []).length - 16) = k by omega, show 16 + (fmtHex 16 u []).length - 16 - 16 = 0 by omega]
  rfl
/-- what the reference finds of a byte -/
def dAt (c : Nat) : Nat → Nat
  | 0 => 0
  | k + 1 => if (hexc k).toNat = c then k else dAt c k
theorem dAt_le (c k : Nat) : dAt c k ≤ k := by
  induction k with
  | zero => exact Nat.le_refl _
  | succ k ih => unfold dAt; split <;> omega
theorem dAt_hv : ∀ c : Fin 256, hx c.val = true → dAt c.val 16 = hv c.val := by decide +kernel
theorem hexc_hv : ∀ c : Fin 256, hx c.val = true → hexc (hv c.val) = UInt8.ofNat c.val := by decide +kernel
theorem hx_hexc : ∀ d : Fin 16, hx (hexc d.val).toNat = true := by decide +kernel
def rvH (l : List UInt8) : Nat := l.foldl (fun n c => n * 16 + dAt c.toNat 16) 0
theorem rvH_eq (l : List UInt8) (h : allH l = true) : rvH l = valH l := by
  unfold rvH valH
  generalize (0 : Nat) = z
  induction l generalizing z with
  | nil => rfl
  | cons c l ih =>
    unfold allH at h
    rw [List.all_cons, Bool.and_eq_true] at h
    rw [List.foldl_cons, List.foldl_cons, dAt_hv ⟨c.toNat, UInt8.toNat_lt c⟩ h.1]
    exact ih h.2 _
theorem rvH_take (l : List UInt8) (k : Nat) (h : k < l.length) : rvH (l.take (k + 1)) = rvH (l.take k) * 16 + dAt (l.getD k 0).toNat 16 := by
  have e : l.take (k + 1) = l.take k ++ [l.getD k 0] := by
    rw [List.take_succ_eq_append_getElem h, List.getD_eq_getElem?_getD, List.getElem?_eq_getElem h]; rfl
  rw [e]
  unfold rvH
  rw [List.foldl_append]
  rfl
theorem dAt16 (c : Nat) : dAt c 16 ≤ 15 := by
  unfold dAt; split
  · omega
  · exact dAt_le c 15
theorem rvH_lt (l : List UInt8) (k : Nat) (hk : k ≤ l.length) : rvH (l.take k) < 16 ^ k := by
  induction k with
  | zero => simp [rvH]
  | succ k ih =>
    have h1 := ih (by omega)
    have h2 := dAt16 (l.getD k 0).toNat
    rw [rvH_take l k (by omega), Nat.pow_succ]
    omega
theorem last_val (l : List UInt8) (h : allH l = true) : lastD 16 hexc l.length (valH l) = l := by
  have key : ∀ k, k ≤ l.length → lastD 16 hexc k (valH (l.take k)) = l.take k := by
    intro k
    induction k with
    | zero => intro _; rfl
    | succ k ih =>
      intro hk
      have hxx := allH_at l k (by omega) h
      have h15 := hv_lt _ hxx
      rw [valH_take l k (by omega), lastD, show (valH (l.take k) * 16 + hv (l.getD k 0).toNat) / 16 = valH (l.take k) by omega, show (valH (l.take k) * 16 + hv (l.getD k 0).toNat) % 16 = hv (l.getD k 0).toNat by omega, ih (by omega), hexc_hv ⟨_, UInt8.toNat_lt _⟩ hxx]
      rw [List.take_succ_eq_append_getElem (by omega)]
      congr 2
      rw [UInt8.ofNat_toNat, List.getD_eq_getElem?_getD, List.getElem?_eq_getElem (by omega)]
      rfl
  have := key l.length (Nat.le_refl _)
  rw [List.take_length] at this
  exact this
theorem last_hex (n u : Nat) : allH (lastD 16 hexc n u) = true := by
  induction n generalizing u with
  | zero => rfl
  | succ n ih =>
    have := ih (u / 16)
    unfold allH at *
    rw [lastD, List.all_append, this]
    simp only [List.all_cons, List.all_nil, Bool.and_true, Bool.true_and]
    exact hx_hexc ⟨u % 16, Nat.mod_lt _ (by decide)⟩
theorem valH_last (n u : Nat) (h : u < 16 ^ n) : valH (lastD 16 hexc n u) = u := by
  induction n generalizing u with
  | zero => simp at h; subst h; rfl
  | succ n ih =>
    rw [lastD]
    have e : ∀ (l : List UInt8) (c : UInt8), valH (l ++ [c]) = valH l * 16 + hv c.toNat := by intro l c; unfold valH; rw [List.foldl_append]; rfl
    have key : ∀ d : Fin 16, hv (hexc d.val).toNat = d.val := by decide +kernel
    rw [e, ih _ (by rw [Nat.pow_succ] at h; exact Nat.div_lt_of_lt_mul (by omega)), show hv (hexc (u % 16)).toNat = u % 16 from key ⟨u % 16, Nat.mod_lt _ (by decide)⟩]
    omega
end Go.Proofs.YtgdgpimlaljpdaaDoor
