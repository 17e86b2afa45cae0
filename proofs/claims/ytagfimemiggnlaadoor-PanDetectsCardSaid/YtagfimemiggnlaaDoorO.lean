/- Digits of a width: plain facts. -/
import Derived.Test.YtagfimemiggnlaaDoorN
set_option linter.unusedVariables false
set_option linter.unusedSimpArgs false
namespace Go.Proofs.YtagfimemiggnlaaDoor
open Go.Sort Go.ChangeShapes Go.WideShapes Go.ChangeAt Go.RowKit
def dgw : Nat → Nat → List UInt8
  | 0, _ => []
  | k + 1, n => UInt8.ofNat (48 + n / 10 ^ k % 10) :: dgw k n
theorem dgw_len (k n : Nat) : (dgw k n).length = k := by
  induction k with
  | zero => rfl
  | succ k ih => show (dgw k n).length + 1 = k + 1; rw [ih]
theorem allD_cons (c : UInt8) (r : List UInt8) : allD (c :: r) = (dgB c.toNat && allD r) := rfl
theorem dg_ofNat (d : Nat) (h : d < 10) : dgB (UInt8.ofNat (48 + d)).toNat = true := by
  rw [ofNat_d d h]; exact (dgB_iff _).2 ⟨by omega, by omega⟩
theorem dgw_all (k n : Nat) : allD (dgw k n) = true := by
  induction k with
  | zero => rfl
  | succ k ih =>
    show allD (_ :: dgw k n) = true
    rw [allD_cons, ih, dg_ofNat _ (Nat.mod_lt _ (by omega))]; rfl
theorem valF_acc (l : List UInt8) : ∀ a, valF a l = a * 10 ^ l.length + valF 0 l := by
  induction l with
  | nil => intro a; rw [valF_nil, valF_nil]; simp
  | cons c r ih =>
    intro a
    rw [valF_cons, valF_cons, ih, ih (0 * 10 + (c.toNat - 48)), List.length_cons, Nat.pow_succ]
    rw [Nat.add_mul, Nat.zero_mul, Nat.zero_add, Nat.mul_assoc, Nat.mul_comm 10 (10 ^ r.length), Nat.add_assoc]
theorem valF_lt (l : List UInt8) (h : allD l = true) : valF 0 l < 10 ^ l.length := by
  induction l with
  | nil => rw [valF_nil]; simp
  | cons c r ih =>
    rw [allD_cons, Bool.and_eq_true] at h
    have h1 := ih h.2
    have h2 := (dgB_iff _).1 h.1
    rw [valF_cons, valF_acc, List.length_cons, Nat.pow_succ]
    have h3 : (0 * 10 + (c.toNat - 48)) * 10 ^ r.length ≤ 9 * 10 ^ r.length := Nat.mul_le_mul_right _ (by omega)
    omega
theorem dgw_mod (k : Nat) : ∀ a b, dgw k (a * 10 ^ k + b) = dgw k b := by
  induction k with
  | zero => intros; rfl
  | succ k ih =>
    intro a b
    have e : a * 10 ^ (k + 1) + b = a * 10 * 10 ^ k + b := by rw [Nat.pow_succ, Nat.mul_assoc, Nat.mul_comm 10]
    show UInt8.ofNat (48 + (a * 10 ^ (k + 1) + b) / 10 ^ k % 10) :: dgw k (a * 10 ^ (k + 1) + b) = UInt8.ofNat (48 + b / 10 ^ k % 10) :: dgw k b
    rw [e, ih, show (a * 10 * 10 ^ k + b) / 10 ^ k = a * 10 + b / 10 ^ k by
      rw [Nat.add_comm, Nat.add_mul_div_right _ _ (Nat.pow_pos (by omega)), Nat.add_comm], Nat.mul_add_mod']
theorem dgw_uniq (l : List UInt8) (h : allD l = true) : l = dgw l.length (valF 0 l) := by
  induction l with
  | nil => rfl
  | cons c r ih =>
    rw [allD_cons, Bool.and_eq_true] at h
    have h2 := (dgB_iff _).1 h.1
    have h1 := ih h.2
    have hlt := valF_lt r h.2
    rw [valF_cons, valF_acc, Nat.zero_mul, Nat.zero_add]
    show c :: r = UInt8.ofNat (48 + ((c.toNat - 48) * 10 ^ r.length + valF 0 r) / 10 ^ r.length % 10) :: dgw r.length ((c.toNat - 48) * 10 ^ r.length + valF 0 r)
    rw [dgw_mod, ← h1]
    congr 1
    have hq : ((c.toNat - 48) * 10 ^ r.length + valF 0 r) / 10 ^ r.length = c.toNat - 48 := by
      rw [Nat.add_comm ((c.toNat - 48) * 10 ^ r.length), Nat.add_mul_div_right _ _ (Nat.pow_pos (by omega)), Nat.div_eq_of_lt hlt, Nat.zero_add]
    rw [hq, Nat.mod_eq_of_lt (by omega), show 48 + (c.toNat - 48) = c.toNat by omega]
    simp
theorem dgw_val (k n : Nat) : valF 0 (dgw k n) = n % 10 ^ k := by
  induction k with
  | zero => show valF 0 [] = _; rw [valF_nil]; simp [Nat.mod_one]
  | succ k ih =>
    show valF 0 (_ :: dgw k n) = _
    rw [valF_cons, valF_acc, dgw_len, ih, ofNat_d _ (Nat.mod_lt _ (by omega)), Nat.zero_mul, Nat.zero_add, Nat.add_sub_cancel_left, Nat.pow_succ, Nat.mod_mul]
    rw [Nat.mul_comm, Nat.add_comm]
theorem dec_len' (k u : Nat) (hu : u < 10 ^ (k + 1)) : 1 ≤ (Lib.decDigits u).length ∧ (Lib.decDigits u).length ≤ k + 1 := by
  induction k generalizing u with
  | zero => rw [dec_small (by simpa using hu)]; simp
  | succ k ih =>
    by_cases h : u < 10
    · rw [dec_small h]; simp
    · have h1 : u / 10 < 10 ^ (k + 1) := by
        rw [Nat.pow_succ] at hu
        exact Nat.div_lt_of_lt_mul (by rw [Nat.mul_comm]; exact hu)
      have := ih _ h1
      rw [dec_big h]; simp; omega
theorem pad_fits (w n : Nat) (hw : 1 ≤ w) (h : n < 10 ^ w) : padL w (Lib.decDigits n) = dgw w n := by
  obtain ⟨k, rfl⟩ : ∃ k, w = k + 1 := ⟨w - 1, by omega⟩
  have hl := dec_len' k n h
  have hA : allD (padL (k + 1) (Lib.decDigits n)) = true := by
    unfold padL allD
    rw [List.all_append, Bool.and_eq_true]
    refine ⟨?_, dec_all n⟩
    rw [List.all_eq_true]
    intro x hx
    rw [(List.mem_replicate.1 hx).2]; rfl
  have hL : (padL (k + 1) (Lib.decDigits n)).length = k + 1 := by
    unfold padL; rw [List.length_append, List.length_replicate]; omega
  have hV : valF 0 (padL (k + 1) (Lib.decDigits n)) = n := by unfold padL; rw [valF_zeros, dec_val]
  have := dgw_uniq _ hA
  rw [hL, hV] at this
  exact this
theorem pad_long (w n : Nat) (h : ¬ n < 10 ^ w) : w < (padL w (Lib.decDigits n)).length := by
  have hv := valF_lt _ (dec_all n)
  rw [dec_val] at hv
  unfold padL
  rw [List.length_append, List.length_replicate]
  rcases Nat.lt_or_ge w (Lib.decDigits n).length with h1 | h1
  · omega
  · exact absurd (Nat.lt_of_lt_of_le hv (Nat.pow_le_pow_right (by omega) h1)) h
theorem pad_len (w n : Nat) : (padL w (Lib.decDigits n)).length ≤ w + (Lib.decDigits n).length := by
  unfold padL; rw [List.length_append, List.length_replicate]; omega
/- one byte -/
def d1 (b : Int) : ByteArray := ⟨#[UInt8.ofNat b.toNat]⟩
theorem d1_size (b : Int) : (d1 b).size = 1 := rfl
theorem enc_d1 (b : Int) (h : 0 ≤ b ∧ b < 128) : Utf8.encode b = d1 b := by
  have hv : Utf8.valid b = true := by rw [validRune_eq]; unfold validRune; rw [decide_eq_true_iff]; exact .inl (by omega)
  unfold Utf8.encode d1
  simp only [hv, if_true]
  rw [if_pos (by omega)]
theorem conv1 (w : World) (b : Int) (h : 0 ≤ b ∧ b < 256) :
    (convert 36 9 (.slice (some ⟨w.heap.size, 0, none⟩) 1 1)).run Tryd.prog (w.alloc (.cells #[.int .u8 b] 5)) = .ok (.string (d1 b)) (w.alloc (.cells #[.int .u8 b] 5)) :=
  run_convert_bytes_back (P := Tryd.prog) (w.alloc (.cells #[.int .u8 b] 5)) 36 9 5 ⟨w.heap.size, 0, none⟩ 1 [UInt8.ofNat b.toNat] Tryd.underlying36 Tryd.underlying5 Tryd.underlying9 (fun j hj => by
    have hc := World.cell?_alloc_mark w #[.int .u8 b] 5 (0, 0) j
    have ha : (⟨w.heap.size, 0, none⟩ : Addr).add j = ⟨w.heap.size, j, none⟩ := by simp [Addr.add]; intro h; exact h.symm
    rw [ha]
    refine Eq.trans hc ?_
    clear ha hc
    match j, hj with
    | 0, _ =>
      have : (((UInt8.ofNat b.toNat).toNat : Nat) : Int) = b := by rw [UInt8.toNat_ofNat']; omega
      exact congrArg (fun x => some (Value.int .u8 x)) this.symm)
end Go.Proofs.YtagfimemiggnlaaDoor
