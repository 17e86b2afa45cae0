/- Encoding and decoding, as lists. -/
import Derived.Test.YtfiingnanofneaaDoorDec2
set_option linter.unusedVariables false
set_option linter.unusedSimpArgs false
namespace Go.Proofs.YtfiingnanofneaaDoor
theorem hp_app (n u : Nat) (acc : List UInt8) : hp n u acc = hp n u [] ++ acc := by
  induction n generalizing u acc with
  | zero => rfl
  | succ n ih =>
    show hp n (u / 16) (hexc (u % 16) :: acc) = hp n (u / 16) [hexc (u % 16)] ++ acc
    rw [ih (u / 16) (hexc (u % 16) :: acc), ih (u / 16) [hexc (u % 16)], List.append_assoc]
    rfl
theorem hp_succ (n u : Nat) : hp (n + 1) u [] = hp n (u / 16) [] ++ [hexc (u % 16)] := by
  show hp n (u / 16) [hexc (u % 16)] = _
  rw [hp_app]
theorem hexc_in : ∀ d : Fin 16, hx (hexc d.val).toNat = true ∧ hv (hexc d.val).toNat = d.val := by decide
theorem hexc_hv : ∀ c : Fin 256, hx c.val = true → hexc (hv c.val) = UInt8.ofNat c.val := by decide +kernel
theorem valH_snoc (l : List UInt8) (c : UInt8) : valH (l ++ [c]) = valH l * 16 + hv c.toNat := by
  unfold valH; rw [List.foldl_append]; rfl
theorem allH_snoc (l : List UInt8) (c : UInt8) : allH (l ++ [c]) = (allH l && hx c.toNat) := by
  unfold allH; simp [List.all_append]
theorem hp_val (n u : Nat) : valH (hp n u []) = u % 16 ^ n ∧ allH (hp n u []) = true := by
  induction n generalizing u with
  | zero => exact ⟨by rw [Nat.pow_zero, Nat.mod_one]; rfl, rfl⟩
  | succ n ih =>
    obtain ⟨h1, h2⟩ := ih (u / 16)
    obtain ⟨g1, g2⟩ := hexc_in ⟨u % 16, Nat.mod_lt _ (by decide)⟩
    simp only at g1 g2
    rw [hp_succ, valH_snoc, allH_snoc, h1, h2, g1, g2]
    refine ⟨?_, rfl⟩
    rw [Nat.pow_succ, Nat.mul_comm (16 ^ n) 16, Nat.mod_mul]
    omega
theorem hp_inv (n : Nat) (l : List UInt8) (hl : l.length = n) (hA : allH l = true) : hp n (valH l) [] = l := by
  induction n generalizing l with
  | zero => rw [List.eq_nil_of_length_eq_zero hl]; rfl
  | succ n ih =>
    have hne : l ≠ [] := by intro h; rw [h] at hl; cases hl
    obtain ⟨k, c, rfl⟩ : ∃ k c, l = k ++ [c] := ⟨l.dropLast, l.getLast hne, (List.dropLast_concat_getLast hne).symm⟩
    rw [allH_snoc, Bool.and_eq_true] at hA
    have hk : k.length = n := by simpa using hl
    have hv16 := hv_lt _ hA.2
    rw [hp_succ, valH_snoc, show (valH k * 16 + hv c.toNat) / 16 = valH k from by omega, show (valH k * 16 + hv c.toNat) % 16 = hv c.toNat from by omega, ih k hk hA.1]
    congr 2
    have := hexc_hv ⟨c.toNat, c.toNat_lt⟩ hA.2
    simp only at this
    rw [this]
    simp
theorem hex16_size (u : Nat) : (hex16 u).size = 16 := by unfold hex16; rw [size_mk, hp_len]; rfl
theorem hex16_list (u : Nat) : (hex16 u).data.toList = hp 16 u [] := by simp [hex16]
/-- what read tells of a string that begins with sixteen digits -/
theorem rd_hex (u : Nat) (t : ByteArray) (hu : u < B64) : rdE (hex16 u ++ t) = 0 ∧ rdV (hex16 u ++ t) = u := by
  have h1 : h16 (hex16 u ++ t) = hp 16 u [] := by
    unfold h16
    rw [ByteArray.data_append, Array.toList_append, hex16_list, List.take_left' (by rw [hp_len]; rfl)]
  obtain ⟨v1, v2⟩ := hp_val 16 u
  have hE : rdE (hex16 u ++ t) = 0 := by
    unfold rdE
    rw [if_neg (by rw [ByteArray.size_append, hex16_size]; omega), h1, if_neg (by rw [v2]; simp)]
  refine ⟨hE, ?_⟩
  unfold rdV
  rw [if_pos hE, h1, v1]
  exact Nat.mod_eq_of_lt hu
theorem rest_hex (u : Nat) (t : ByteArray) : rest (hex16 u ++ t) = t := by
  unfold rest
  apply ByteArray.ext
  apply Array.ext'
  simp [ByteArray.size_append, hex16_size, hex16_list]
  rw [List.drop_eq_nil_of_le (by rw [hp_len]; exact Nat.le_refl _), List.take_nil, List.nil_append, List.take_of_length_le (Nat.le_of_eq (show t.data.toList.length = t.size from Array.length_toList))]
theorem or_b63 (A : Nat) (hA : A < B63) : (A ||| B63) % B63 = A ∧ B63 ≤ (A ||| B63) ∧ (A ||| B63) < B64 := by
  have hb : ∀ i, (A ||| B63).testBit i = (A.testBit i || decide (63 = i)) := fun i => by rw [Nat.testBit_or, show B63 = 2 ^ 63 from rfl, Nat.testBit_two_pow]
  refine ⟨?_, ?_, or_lt (Nat.lt_trans hA (by decide)) (by decide)⟩
  · apply Nat.eq_of_testBit_eq
    intro i
    rw [mod63_bit, hb]
    by_cases hi : i ≤ 62
    · rw [decide_eq_true hi, Bool.true_and, decide_eq_false (show ¬ 63 = i by omega), Bool.or_false]
    · rw [decide_eq_false hi, Bool.false_and, Nat.testBit_lt_two_pow (Nat.lt_of_lt_of_le hA (by rw [show B63 = 2 ^ 63 from rfl]; exact Nat.pow_le_pow_right (by decide) (by omega)))]
  · rw [show B63 = 2 ^ 63 from rfl]
    exact Nat.ge_two_pow_of_testBit (by have := hb 63; rw [this]; simp)
theorem mod_or (V : Nat) (h1 : B63 ≤ V) (h2 : V < B64) : V % B63 ||| B63 = V := by
  obtain ⟨e1, e2, e3⟩ := or_b63 (V % B63) (Nat.mod_lt _ (by decide))
  unfold B63 B64 at *
  omega
theorem mod_low (a : Nat) : a % B63 < B63 := Nat.mod_lt _ (by decide)
/-- the encoding is decoded, whatever follows -/
theorem dec_enc (a b : Nat) (s : ByteArray) (hb : b < B64) : decR (encS a b ++ s) = (a % B63, b, ((encS a b).size : Int), 0) := by
  have hA := mod_low a
  unfold encS
  by_cases h : b = 0
  · rw [if_pos h]
    obtain ⟨r1, r2⟩ := rd_hex (a % B63) s (Nat.lt_trans hA (by decide))
    unfold decR
    rw [r1, r2, if_neg (by simp), if_pos hA, hex16_size, h]
    rfl
  · rw [if_neg h]
    obtain ⟨e1, e2, e3⟩ := or_b63 (a % B63) hA
    have hap : hex16 (a % B63 ||| B63) ++ hex16 b ++ s = hex16 (a % B63 ||| B63) ++ (hex16 b ++ s) := ByteArray.append_assoc
    rw [hap]
    obtain ⟨r1, r2⟩ := rd_hex (a % B63 ||| B63) (hex16 b ++ s) e3
    obtain ⟨q1, q2⟩ := rd_hex b s hb
    unfold decR
    rw [rest_hex, r1, r2, q1, q2, if_neg (by simp), if_neg (by omega), if_neg (by simp), if_neg h, e1, ByteArray.size_append, hex16_size, hex16_size]
    rfl
theorem hex_rd (s : ByteArray) (h : rdE s = 0) : hex16 (rdV s) = s.extract 0 16 ∧ 16 ≤ s.size := by
  have hA : 16 ≤ s.size ∧ allH (h16 s) = true := by
    unfold rdE at h
    split at h
    · cases h
    · split at h
      · cases h
      · rename_i h1 h2; exact ⟨by omega, by simpa using h2⟩
  refine ⟨?_, hA.1⟩
  have e : rdV s = valH (h16 s) := by unfold rdV; rw [if_pos h]
  have hl : (h16 s).length = 16 := by have := hA.1; simp [h16]; omega
  apply ByteArray.ext
  apply Array.ext'
  rw [hex16_list, e, hp_inv 16 (h16 s) hl hA.2, (ext16 s hA.1).1]
/-- what is accepted is an encoding -/
theorem enc_dec (s : ByteArray) : (∃ E, decR s = (0, 0, 0, E) ∧ E ≠ 0) ∨ (∃ p q m : Nat, decR s = (p, q, (m : Int), 0) ∧ (m = 16 ∨ m = 32) ∧ m ≤ s.size ∧ encS p q = s.extract 0 m ∧ p < B64 ∧ q < B64) := by
  have hl1 := rdV_lt s
  have hl2 := rdV_lt (rest s)
  unfold decR
  by_cases c1 : rdE s = 0
  · obtain ⟨x1, x2⟩ := hex_rd s c1
    rw [if_neg (by simpa using c1)]
    by_cases c2 : rdV s < B63
    · rw [if_pos c2]
      refine .inr ⟨rdV s, 0, 16, rfl, .inl rfl, x2, ?_, hl1, by decide⟩
      unfold encS
      rw [if_pos rfl, Nat.mod_eq_of_lt c2, x1]
    · rw [if_neg c2]
      by_cases c3 : rdE (rest s) = 0
      · obtain ⟨y1, y2⟩ := hex_rd (rest s) c3
        rw [if_neg (by simpa using c3)]
        by_cases c4 : rdV (rest s) = 0
        · rw [if_pos c4]; exact .inl ⟨2, rfl, by decide⟩
        · rw [if_neg c4]
          have h32 : 32 ≤ s.size := by unfold rest at y2; simp at y2; omega
          refine .inr ⟨_, _, 32, rfl, .inr rfl, h32, ?_, Nat.lt_trans (Nat.mod_lt _ (by decide)) (by decide), hl2⟩
          unfold encS
          rw [if_neg c4, Nat.mod_mod, mod_or _ (Nat.le_of_not_lt c2) hl1, x1, y1]
          have e1 : (s.extract 0 16).data.toList = s.data.toList.take 16 := (ext16 s x2).1
          have e2 : ((rest s).extract 0 16).data.toList = (s.data.toList.drop 16).take 16 := by
            rw [(ext16 (rest s) y2).1]
            unfold h16 rest
            simp
            rw [List.take_of_length_le (i := s.size - 16) (by rw [List.length_drop]; exact Nat.le_of_eq (by rw [show s.data.toList.length = s.size from Array.length_toList]))]
          have e3 : (s.extract 0 32).data.toList = s.data.toList.take 32 := by simp
          apply ByteArray.ext
          apply Array.ext'
          rw [ByteArray.data_append, Array.toList_append, e1, e2, e3]
          rw [show (32 : Nat) = 16 + 16 from rfl, List.take_add]
      · rw [if_pos (by simpa using c3)]; exact .inl ⟨_, rfl, c3⟩
  · rw [if_pos (by simpa using c1)]; exact .inl ⟨_, rfl, c1⟩
end Go.Proofs.YtfiingnanofneaaDoor
