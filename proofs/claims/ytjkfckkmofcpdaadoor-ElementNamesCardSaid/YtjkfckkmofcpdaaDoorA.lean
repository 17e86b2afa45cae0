/- Brought from another layer. -/
import Derived.WalkKit
import Derived.ProofKit
import Derived.Outline
import Derived.BigQuiet
import Derived.Deep.QuietTactic
import Derived.IntWalk
import Derived.Lib.QuietBelow
import Derived.StillTailTactics
import Derived.Lib.SmallJoins
import Derived.Lib.ItoaLen
import Derived.Lib.AppendIntMem
import Derived.Lib.LaidTab
import Derived.Lib.ItoaNum
import Derived.Lib.IndexLaws
import Derived.Lib.ParseIntB
import Derived.Laws.RangeString
import Derived.Laws.RangeAny
import Derived.WalkLawsBesides
import Derived.Test.YtjkfckkmofcpdaaDoorK
import Derived.Test.YtjkfckkmofcpdaaDoorRows
import Derived.Test.YtjkfckkmofcpdaaDoorShelf
set_option linter.unusedVariables false
set_option linter.unusedSimpArgs false
namespace Go.Proofs.YtjkfckkmofcpdaaDoor
open Go.Sort Go.ChangeShapes Go.WideShapes Go.ChangeAt Go.RowKit
/-- a decimal digit -/
def dgB (c : Nat) : Bool := decide (48 ≤ c) && decide (c ≤ 57)
def allD (l : List UInt8) : Bool := l.all fun c => dgB c.toNat
theorem isdigit_any (c : Nat) (w : World) : Calls Tryd.prog 64 #[.int .u8 c] w fun e w' => e = .returned (.bool (dgB c)) ∧ w' = w := by
  unfold dgB
  by_cases h1 : 48 ≤ c
  · by_cases h2 : c ≤ 57
    · rw [decide_eq_true h1, decide_eq_true h2]
      have g1 : decide ((48 : Int) ≤ (c : Int)) = true := decide_eq_true (by omega)
      have g2 : decide ((c : Int) ≤ 57) = true := decide_eq_true (by omega)
      clear h1 h2
      go_enter Tryd.func64, Tryd.ntmps64
      go_wp2_with fail
      go_ret
      exact ⟨rfl, rfl⟩
    · rw [decide_eq_true h1, decide_eq_false h2]
      have g1 : decide ((48 : Int) ≤ (c : Int)) = true := decide_eq_true (by omega)
      have g2 : decide ((c : Int) ≤ 57) = false := decide_eq_false (by omega)
      clear h1 h2
      go_enter Tryd.func64, Tryd.ntmps64
      go_wp2_with fail
      go_ret
      exact ⟨rfl, rfl⟩
  · rw [decide_eq_false h1, Bool.false_and]
    have g1 : decide ((48 : Int) ≤ (c : Int)) = false := decide_eq_false (by omega)
    clear h1
    go_enter Tryd.func64, Tryd.ntmps64
    go_wp2_with fail
    go_ret
    exact ⟨rfl, rfl⟩
theorem allD_take (s : ByteArray) (k : Nat) (h : k < s.size) : allD (s.data.toList.take (k + 1)) = (allD (s.data.toList.take k) && dgB s[k].toNat) := by
  have e : s.data.toList.take (k + 1) = s.data.toList.take k ++ [s[k]] := by
    rw [List.take_succ_eq_append_getElem (by simpa using h)]; rfl
  rw [e]
  simp [allD, List.all_append]
theorem allD_false (s : ByteArray) (k : Nat) (h : k < s.size) (hb : dgB s[k].toNat = false) : allD s.data.toList = false := by
  rw [← List.take_append_drop (k + 1) s.data.toList]
  unfold allD
  rw [List.all_append]
  have := allD_take s k h
  rw [hb, Bool.and_false] at this
  unfold allD at this
  rw [this, Bool.false_and]
def isD (s : ByteArray) : Bool := allD s.data.toList && !(s.toList == [])
theorem size_pos_list {s : ByteArray} (h : s.size ≠ 0) : (s.toList == []) = false := by
  rw [beq_eq_false_iff_ne, ByteArray.toList_eq]
  intro h2
  apply h
  have : s.data.toList.length = s.size := Array.length_toList
  rw [h2] at this
  exact this.symm
theorem size_zero_list {s : ByteArray} (h : s.size = 0) : (s.toList == []) = true := by
  rw [beq_iff_eq, ByteArray.toList_eq]
  exact List.eq_nil_of_length_eq_zero (Array.length_toList.trans h)
set_option maxHeartbeats 400000 in
theorem isdigits_any (s : ByteArray) (w : World) (hs : s.size ≤ maxLen) : Calls Tryd.prog 46 #[.string s] w fun e w' => e = .returned (.bool (isD s)) ∧ w' = w := by
  unfold maxLen at hs
  have hs' : (s.size : Int) ≤ 9223372036854775807 := by omega
  obtain ⟨B, hB⟩ : ∃ B, B = isD s := ⟨_, rfl⟩
  rw [← hB]
  have HB := Lib.hid hB
  clear hB
  go_enter Tryd.func46, Tryd.ntmps46
  go_wp2_with fail
  go_loop [6] (fun i => ∃ k : Nat, k ≤ s.size ∧ i = .int .i64 k ∧ Hid (allD (s.data.toList.take k) = true)) (fun i => s.size - (intOf i).toNat)
  case atStart => exact ⟨0, Nat.zero_le _, rfl, Lib.hid rfl⟩
  case round =>
    obtain ⟨k, hk, rfl, hA⟩ := hrel
    by_cases hlt : k < s.size
    · have ht := allD_take s k hlt
      have hf := allD_false s k hlt
      rw [hA.out, Bool.true_and] at ht
      have HD := Lib.hid (isdigit_any s[k].toNat)
      have hlt' : (k : Int) < (s.size : Int) := by omega
      have hge' : 0 ≤ (k : Int) := by omega
      have HT := Lib.hid ht
      have HFn := Lib.hid hf
      clear ht hf
      cases hd : dgB s[k].toNat
      · have HD0 := HD.out
        rw [hd] at HD0
        have HDD := Lib.hid HD0
        have HN := Lib.hid (HFn.out hd)
        clear HD0 HD hd
        go_wp2_with (go_at_call 64; refine (HDD.out _).mono ?_; rintro e w' ⟨rfl, rfl⟩)
        go_ret
        exact ⟨by rw [HB.out, isD, HN.out]; rfl, rfl⟩
      · have HD0 := HD.out
        rw [hd] at HD0
        have HDD := Lib.hid HD0
        have HY := Lib.hid (HT.out.trans hd)
        clear HD0 HD hd
        go_wp2_with (go_at_call 64; refine (HDD.out _).mono ?_; rintro e w' ⟨rfl, rfl⟩)
        go_round
        case rel => exact ⟨k + 1, by omega, by go_num, Lib.hid HY.out⟩
        case measure => simp [intOf]; omega
    · have hge : ¬ (k : Int) < (s.size : Int) := by omega
      have hall : allD s.data.toList = true := by have := hA.out; rwa [List.take_of_length_le (by simp; omega)] at this
      have HA := Lib.hid hall
      clear hall hA
      by_cases hz : s.size = 0
      · have e1 := size_zero_list hz
        have HE := Lib.hid e1
        have e0 : s.toList = [] := by simpa using e1
        have e2 : (s.toList != []) = false := by rw [e0]; rfl
        have e3 : (!s.toList.isEmpty) = false := by rw [e0]; rfl
        clear e1
        go_wp2_with fail
        go_ret
        exact ⟨by rw [HB.out, isD, HA.out, HE.out]; simp [e0], rfl⟩
      · have e1 := size_pos_list hz
        have HE := Lib.hid e1
        have e2 : (s.toList != []) = true := by rw [bne, e1]; rfl
        have e3 : (!s.toList.isEmpty) = true := by
          cases h : s.toList with
          | nil => rw [h] at e1; cases e1
          | cons => rfl
        clear e1
        go_wp2_with fail
        go_ret
        exact ⟨by rw [HB.out, isD, HA.out, HE.out]; simp_all, rfl⟩
def padL (n : Nat) (l : List UInt8) : List UInt8 := List.replicate (n - l.length) 48 ++ l
theorem itoa_nat (u : Nat) : Lib.itoa (u : Int) = Lib.decDigits u := by unfold Lib.itoa; rw [if_neg (by omega)]; simp
def valF (acc : Nat) (l : List UInt8) : Nat := l.foldl (fun a c => a * 10 + (c.toNat - 48)) acc
theorem valF_cons (acc : Nat) (c : UInt8) (r : List UInt8) : valF acc (c :: r) = valF (acc * 10 + (c.toNat - 48)) r := List.foldl_cons ..
theorem valF_nil (acc : Nat) : valF acc [] = acc := List.foldl_nil ..
theorem valF_ge (l : List UInt8) : ∀ acc, acc ≤ valF acc l := by
  induction l with
  | nil => intro acc; rw [valF_nil]; exact Nat.le_refl _
  | cons c r ih => intro acc; rw [valF_cons]; exact Nat.le_trans (by omega) (ih _)
theorem valF_app (l m : List UInt8) : ∀ acc, valF acc (l ++ m) = valF (valF acc l) m := by
  induction l with
  | nil => intro acc; rfl
  | cons c r ih => intro acc; rw [List.cons_append, valF_cons, valF_cons]; exact ih _
theorem dgB_iff (c : Nat) : dgB c = true ↔ 48 ≤ c ∧ c ≤ 57 := by unfold dgB; rw [Bool.and_eq_true, decide_eq_true_iff, decide_eq_true_iff]
theorem pm_cons (M acc : Nat) (c : UInt8) (r : List UInt8) (h : 48 ≤ c.toNat ∧ c.toNat ≤ 57) : Lib.parseUintM M acc (c :: r) = if 1844674407370955162 ≤ acc then .range else if M < acc * 10 + (c.toNat - 48) then .range else Lib.parseUintM M (acc * 10 + (c.toNat - 48)) r := if_pos h
theorem pum (M : Nat) (hM : M = 18446744073709551615) (l : List UInt8) : ∀ acc, allD l = true → acc ≤ M → Lib.parseUintM M acc l = if valF acc l ≤ M then .ok (valF acc l) else .range := by
  induction l with
  | nil => intro acc _ h; rw [valF_nil, if_pos h]; rfl
  | cons c r ih =>
    intro acc h ha
    have hc : dgB c.toNat = true ∧ allD r = true := by simpa [allD] using h
    have hg := valF_ge r (acc * 10 + (c.toNat - 48))
    rw [pm_cons M acc c r ((dgB_iff _).1 hc.1), valF_cons]
    generalize hG : valF (acc * 10 + (c.toNat - 48)) r = G at hg ⊢
    generalize hK : acc * 10 + (c.toNat - 48) = K at hG hg ⊢
    subst hG
    by_cases h1 : 1844674407370955162 ≤ acc
    · rw [if_pos h1, if_neg (by omega)]
    · rw [if_neg h1]
      by_cases h2 : M < K
      · rw [if_pos h2, if_neg (by omega)]
      · rw [if_neg h2]
        exact ih _ hc.2 (by omega)
theorem pib (l : List UInt8) (h : allD l = true) (h0 : l ≠ []) : Lib.parseIntB 64 l = if valF 0 l < 9223372036854775808 then .ok ((valF 0 l : Nat) : Int) else .range := by
  cases l with
  | nil => exact absurd rfl h0
  | cons c r =>
    have hc : dgB c.toNat = true := by have : dgB c.toNat = true ∧ allD r = true := by simpa [allD] using h
                                       exact this.1
    have hd := (dgB_iff _).1 hc
    have n1 : ¬ c.toNat = 45 := by omega
    have n2 : ¬ (c.toNat = 43 ∨ c.toNat = 45) := by omega
    have e1 : Lib.parseUintB 64 (c :: r) = if valF 0 (c :: r) ≤ 18446744073709551615 then .ok (valF 0 (c :: r)) else .range := by
      unfold Lib.parseUintB
      rw [if_neg (by simp)]
      exact pum _ rfl (c :: r) 0 h (Nat.zero_le _)
    unfold Lib.parseIntB
    simp only [n1, if_false, false_and, not_false_eq_true, true_and]
    rw [if_neg (show ¬ (c.toNat = 43 ∨ False) from fun h => h.elim (fun h => by omega) id), e1]
    generalize valF 0 (c :: r) = V
    by_cases h1 : V ≤ 18446744073709551615
    · rw [if_pos h1]
      by_cases h2 : V < 9223372036854775808
      · rw [if_pos h2]
        show (if 2 ^ (64 - 1) ≤ V then _ else _) = _
        rw [if_neg (show ¬ (2 ^ (64 - 1) ≤ V) by omega)]
      · rw [if_neg h2]
        show (if 2 ^ (64 - 1) ≤ V then _ else _) = _
        rw [if_pos (show (2 ^ (64 - 1) ≤ V) by omega)]
    · rw [if_neg h1, if_neg (by omega)]
theorem dec_big {u : Nat} (h : ¬ u < 10) : Lib.decDigits u = Lib.decDigits (u / 10) ++ [UInt8.ofNat (48 + u % 10)] := by rw [Lib.decDigits, dif_neg h]
theorem dec_small {u : Nat} (h : u < 10) : Lib.decDigits u = [UInt8.ofNat (48 + u)] := by rw [Lib.decDigits, dif_pos h]
theorem ofNat_d (k : Nat) (h : k < 10) : (UInt8.ofNat (48 + k)).toNat = 48 + k := by simp; omega
theorem dec_all (u : Nat) : allD (Lib.decDigits u) = true := by
  induction u using Nat.strongRecOn with
  | _ u ih =>
    by_cases h : u < 10
    · rw [dec_small h]; simp only [allD, List.all_cons, List.all_nil, Bool.and_true]; rw [ofNat_d u h, dgB_iff]; omega
    · rw [dec_big h]
      have := ih (u / 10) (by omega)
      simp only [allD, List.all_append, List.all_cons, List.all_nil, Bool.and_true] at this ⊢
      rw [this, ofNat_d _ (by omega)]
      simp only [Bool.true_and]
      rw [dgB_iff]; omega
theorem dec_val (u : Nat) : valF 0 (Lib.decDigits u) = u := by
  induction u using Nat.strongRecOn with
  | _ u ih =>
    by_cases h : u < 10
    · rw [dec_small h]; rw [valF_cons, valF_nil, ofNat_d u h]; omega
    · rw [dec_big h, valF_app, ih (u / 10) (by omega)]; rw [valF_cons, valF_nil, ofNat_d _ (by omega)]; omega
theorem dec_ne (u : Nat) : Lib.decDigits u ≠ [] := by
  by_cases h : u < 10
  · rw [dec_small h]; simp
  · rw [dec_big h]; simp
theorem valF_zeros (k : Nat) (l : List UInt8) : valF 0 (List.replicate k 48 ++ l) = valF 0 l := by
  induction k with
  | zero => rfl
  | succ k ih => rw [List.replicate_succ, List.cons_append, valF_cons]; exact ih
abbrev ls (s : ByteArray) : List UInt8 := s.data.toList
theorem ls_ext {a b : ByteArray} (h : ls a = ls b) : a = b := ByteArray.ext (Array.toList_inj.1 h)
theorem ls_size (s : ByteArray) : s.size = (ls s).length := rfl
theorem ls_app (a b : ByteArray) : ls (a ++ b) = ls a ++ ls b := by simp [ls]
theorem ls_ex (s : ByteArray) (i j : Nat) : ls (s.extract i j) = ((ls s).drop i).take (j - i) := by simp [ls, ByteArray.data_extract, Array.toList_extract, List.extract]
theorem ls_tl (s : ByteArray) : s.toList = ls s := ByteArray.toList_eq ..
theorem not_dig {l : List UInt8} (h : allD l = true) {c : UInt8} (hc : dgB c.toNat = false) : c ∉ l := by
  intro hm
  rw [allD, List.all_eq_true] at h
  rw [h c hm] at hc
  cases hc
theorem al_ {w : World} {o : Obj} : Below w.heap.size w (w.alloc o) := Below.alloc (Below.refl _ _) (Nat.le_refl _) o
theorem bre_ {w W : World} (h : Below w.heap.size w W) (d : Nat) (os : Array Obj) : Below w.heap.size w (grow (redrawn W d) os) := below_re h h.size d os
theorem cut_lh (s : ByteArray) (i j : Nat) (h : i ≤ j) (hj : j ≤ s.size) (w : World) : (Instr.slice 9 (.string s) (some (.int .i64 i)) (some (.int .i64 j)) none).run Tryd.prog w = .ok (.string (s.extract i j)) w := by
  have h0 : (0 : Int) ≤ i := by omega
  have h1 : (i : Int) ≤ j := by omega
  have h2 : (j : Int) ≤ s.size := by omega
  simp [go_sem, h0, h1, h2]
theorem cut_h (s : ByteArray) (j : Nat) (hj : j ≤ s.size) (w : World) : (Instr.slice 9 (.string s) none (some (.int .i64 j)) none).run Tryd.prog w = .ok (.string (s.extract 0 j)) w := by
  have h0 : (0 : Int) ≤ j := by omega
  have h2 : (j : Int) ≤ s.size := by omega
  simp [go_sem, h0, h2]
theorem cut_l (s : ByteArray) (i : Nat) (hj : i ≤ s.size) (w : World) : (Instr.slice 9 (.string s) (some (.int .i64 i)) none none).run Tryd.prog w = .ok (.string (s.extract i s.size)) w := by
  have h0 : (0 : Int) ≤ i := by omega
  have h2 : (i : Int) ≤ s.size := by omega
  simp [go_sem, h0, h2]
theorem cut_1 (s : ByteArray) (i : Nat) (h : i < s.size) (w : World) : (Instr.slice 9 (.string s) (some (.int .i64 i)) (some (.int .i64 (i + 1))) none).run Tryd.prog w = .ok (.string (s.extract i (i + 1))) w := cut_lh s i (i + 1) (by omega) (by omega) w
theorem ls_one (s : ByteArray) (k : Nat) (h : k < s.size) : ls (s.extract k (k + 1)) = [(ls s).getD k 0] := by
  rw [ls_ex, show k + 1 - k = 1 by omega, List.getD_eq_getElem?_getD, List.getElem?_eq_getElem (by rw [← ls_size]; exact h)]
  rw [List.drop_eq_getElem_cons (by rw [← ls_size]; exact h)]
  rfl
theorem take_one (s : ByteArray) (k : Nat) (h : k < s.size) : (ls s).take (k + 1) = (ls s).take k ++ [(ls s).getD k 0] := by
  rw [List.take_succ_eq_append_getElem (by rw [← ls_size]; exact h), List.getD_eq_getElem?_getD, List.getElem?_eq_getElem (by rw [← ls_size]; exact h)]
  rfl
def bst (l : List UInt8) : ByteArray := ⟨l.toArray⟩
theorem bst_size (l : List UInt8) : (bst l).size = l.length := by simp [bst, ByteArray.size]
theorem ls_bst (l : List UInt8) : ls (bst l) = l := by simp [ls, bst]
theorem bst_ls (s : ByteArray) : bst (ls s) = s := ls_ext (ls_bst _)
theorem getD_at (s : ByteArray) (k : Nat) (h : k < s.size) : (ls s).getD k 0 = s[k] := by
  rw [List.getD_eq_getElem?_getD, List.getElem?_eq_getElem (by rw [← ls_size]; exact h)]
  rfl
theorem rep_star (n : Nat) : Lib.repeatL (⟨#[42]⟩ : ByteArray).data.toList n = List.replicate n 42 := by
  induction n with
  | zero => rfl
  | succ n ih => rw [List.replicate_succ, ← ih]; rfl
def dgw : Nat → Nat → List UInt8
  | 0, _ => []
  | k + 1, n => UInt8.ofNat (48 + n / 10 ^ k % 10) :: dgw k n
theorem dgw_len (k n : Nat) : (dgw k n).length = k := by
  induction k with
  | zero => rfl
  | succ k ih => show (dgw k n).length + 1 = k + 1; rw [ih]
theorem allD_cons (c : UInt8) (r : List UInt8) : allD (c :: r) = (dgB c.toNat && allD r) := rfl
theorem dg_ofNat (d : Nat) (h : d < 10) : dgB (UInt8.ofNat (48 + d)).toNat = true := by
  rw [ofNat_d d h]; exact (dgB_iff _).2 ⟨by omega, by omega⟩
theorem dgw_all (k n : Nat) : allD (dgw k n) = true := by
  induction k with
  | zero => rfl
  | succ k ih =>
    show allD (_ :: dgw k n) = true
    rw [allD_cons, ih, dg_ofNat _ (Nat.mod_lt _ (by omega))]; rfl
theorem valF_acc (l : List UInt8) : ∀ a, valF a l = a * 10 ^ l.length + valF 0 l := by
  induction l with
  | nil => intro a; rw [valF_nil, valF_nil]; simp
  | cons c r ih =>
    intro a
    rw [valF_cons, valF_cons, ih, ih (0 * 10 + (c.toNat - 48)), List.length_cons, Nat.pow_succ]
    rw [Nat.add_mul, Nat.zero_mul, Nat.zero_add, Nat.mul_assoc, Nat.mul_comm 10 (10 ^ r.length), Nat.add_assoc]
theorem valF_lt (l : List UInt8) (h : allD l = true) : valF 0 l < 10 ^ l.length := by
  induction l with
  | nil => rw [valF_nil]; simp
  | cons c r ih =>
    rw [allD_cons, Bool.and_eq_true] at h
    have h1 := ih h.2
    have h2 := (dgB_iff _).1 h.1
    rw [valF_cons, valF_acc, List.length_cons, Nat.pow_succ]
    have h3 : (0 * 10 + (c.toNat - 48)) * 10 ^ r.length ≤ 9 * 10 ^ r.length := Nat.mul_le_mul_right _ (by omega)
    omega
theorem dgw_mod (k : Nat) : ∀ a b, dgw k (a * 10 ^ k + b) = dgw k b := by
  induction k with
  | zero => intros; rfl
  | succ k ih =>
    intro a b
    have e : a * 10 ^ (k + 1) + b = a * 10 * 10 ^ k + b := by rw [Nat.pow_succ, Nat.mul_assoc, Nat.mul_comm 10]
    show UInt8.ofNat (48 + (a * 10 ^ (k + 1) + b) / 10 ^ k % 10) :: dgw k (a * 10 ^ (k + 1) + b) = UInt8.ofNat (48 + b / 10 ^ k % 10) :: dgw k b
    rw [e, ih, show (a * 10 * 10 ^ k + b) / 10 ^ k = a * 10 + b / 10 ^ k by
      rw [Nat.add_comm, Nat.add_mul_div_right _ _ (Nat.pow_pos (by omega)), Nat.add_comm], Nat.mul_add_mod']
theorem dgw_uniq (l : List UInt8) (h : allD l = true) : l = dgw l.length (valF 0 l) := by
  induction l with
  | nil => rfl
  | cons c r ih =>
    rw [allD_cons, Bool.and_eq_true] at h
    have h2 := (dgB_iff _).1 h.1
    have h1 := ih h.2
    have hlt := valF_lt r h.2
    rw [valF_cons, valF_acc, Nat.zero_mul, Nat.zero_add]
    show c :: r = UInt8.ofNat (48 + ((c.toNat - 48) * 10 ^ r.length + valF 0 r) / 10 ^ r.length % 10) :: dgw r.length ((c.toNat - 48) * 10 ^ r.length + valF 0 r)
    rw [dgw_mod, ← h1]
    congr 1
    have hq : ((c.toNat - 48) * 10 ^ r.length + valF 0 r) / 10 ^ r.length = c.toNat - 48 := by
      rw [Nat.add_comm ((c.toNat - 48) * 10 ^ r.length), Nat.add_mul_div_right _ _ (Nat.pow_pos (by omega)), Nat.div_eq_of_lt hlt, Nat.zero_add]
    rw [hq, Nat.mod_eq_of_lt (by omega), show 48 + (c.toNat - 48) = c.toNat by omega]
    simp
theorem dgw_val (k n : Nat) : valF 0 (dgw k n) = n % 10 ^ k := by
  induction k with
  | zero => show valF 0 [] = _; rw [valF_nil]; simp [Nat.mod_one]
  | succ k ih =>
    show valF 0 (_ :: dgw k n) = _
    rw [valF_cons, valF_acc, dgw_len, ih, ofNat_d _ (Nat.mod_lt _ (by omega)), Nat.zero_mul, Nat.zero_add, Nat.add_sub_cancel_left, Nat.pow_succ, Nat.mod_mul]
    rw [Nat.mul_comm, Nat.add_comm]
theorem dec_len' (k u : Nat) (hu : u < 10 ^ (k + 1)) : 1 ≤ (Lib.decDigits u).length ∧ (Lib.decDigits u).length ≤ k + 1 := by
  induction k generalizing u with
  | zero => rw [dec_small (by simpa using hu)]; simp
  | succ k ih =>
    by_cases h : u < 10
    · rw [dec_small h]; simp
    · have h1 : u / 10 < 10 ^ (k + 1) := by
        rw [Nat.pow_succ] at hu
        exact Nat.div_lt_of_lt_mul (by rw [Nat.mul_comm]; exact hu)
      have := ih _ h1
      rw [dec_big h]; simp; omega
theorem pad_fits (w n : Nat) (hw : 1 ≤ w) (h : n < 10 ^ w) : padL w (Lib.decDigits n) = dgw w n := by
  obtain ⟨k, rfl⟩ : ∃ k, w = k + 1 := ⟨w - 1, by omega⟩
  have hl := dec_len' k n h
  have hA : allD (padL (k + 1) (Lib.decDigits n)) = true := by
    unfold padL allD
    rw [List.all_append, Bool.and_eq_true]
    refine ⟨?_, dec_all n⟩
    rw [List.all_eq_true]
    intro x hx
    rw [(List.mem_replicate.1 hx).2]; rfl
  have hL : (padL (k + 1) (Lib.decDigits n)).length = k + 1 := by
    unfold padL; rw [List.length_append, List.length_replicate]; omega
  have hV : valF 0 (padL (k + 1) (Lib.decDigits n)) = n := by unfold padL; rw [valF_zeros, dec_val]
  have := dgw_uniq _ hA
  rw [hL, hV] at this
  exact this
theorem pad_long (w n : Nat) (h : ¬ n < 10 ^ w) : w < (padL w (Lib.decDigits n)).length := by
  have hv := valF_lt _ (dec_all n)
  rw [dec_val] at hv
  unfold padL
  rw [List.length_append, List.length_replicate]
  rcases Nat.lt_or_ge w (Lib.decDigits n).length with h1 | h1
  · omega
  · exact absurd (Nat.lt_of_lt_of_le hv (Nat.pow_le_pow_right (by omega) h1)) h
theorem pad_len (w n : Nat) : (padL w (Lib.decDigits n)).length ≤ w + (Lib.decDigits n).length := by
  unfold padL; rw [List.length_append, List.length_replicate]; omega
/- one byte -/
def d1 (b : Int) : ByteArray := ⟨#[UInt8.ofNat b.toNat]⟩
theorem d1_size (b : Int) : (d1 b).size = 1 := rfl
def TabP (w : World) : Prop := Lib.TabIs Tryd.prog w "internal/strconv.uint64pow10" .u64 Lib.pow10Tab
theorem gPow : ∃ g, Tryd.prog.globalNamed "internal/strconv.uint64pow10" = some g := by
  cases h : Tryd.prog.globalNamed "internal/strconv.uint64pow10" with
  | some g => exact ⟨g, rfl⟩
  | none =>
    have : (Tryd.prog.globalNamed "internal/strconv.uint64pow10").isSome = true := by kernel_rfl
    rw [h] at this; cases this
theorem TabP.call {w w1 : World} (h : TabP w) (hb : Below w.heap.size w w1) : TabP w1 := by
  obtain ⟨g, hg⟩ := gPow
  exact Go.Joins.tab_stays hg h hb (Nat.le_refl _)
theorem bst_cons (c : UInt8) (l : List UInt8) : (⟨#[c]⟩ : ByteArray) ++ bst l = bst (c :: l) := by
  apply ByteArray.ext
  simp [bst]
theorem fi_call (N : Nat) (HN : Hid (N ≤ 9223372036854775807)) (w : World) (h : TabP w) :
    Calls Tryd.prog 58 #[.int .i64 N, .int .i64 10] w fun e w' => e = .returned (.string (bst (Lib.decDigits N))) ∧ Below w.heap.size w w' :=
  (Tryd.strconv_FormatInt_10 N (by omega) (by have := HN.out; omega) w h).mono fun e w' ⟨he, k, os, hw⟩ => ⟨by rw [← itoa_nat]; exact he, hw ▸ Lib.below_grow w.heap.size w (Nat.le_refl _) k os⟩
set_option maxHeartbeats 1000000 in
theorem digits_any (N : Nat) (HN : Hid (N ≤ 9223372036854775807)) (wd : Nat) (hw : wd ≤ 20) (w : World) (h : TabP w) :
    Calls Tryd.prog 38 #[.int .i64 N, .int .i64 wd] w fun e w' => e = .returned (.string (bst (padL wd (Lib.decDigits N)))) ∧ Below w.heap.size w w' := by
  have HC := Lib.hid (fi_call N HN w h)
  unfold padL
  generalize Lib.decDigits N = F at *
  clear h HN
  have HW := Lib.hid hw
  clear hw
  go_enter Tryd.func38, Tryd.ntmps38
  go_wp2_with fail
  refine HC.out.mono ?_
  rintro e w1 ⟨rfl, hb⟩
  have HB := Lib.hid hb
  clear hb
  go_wp2_with fail
  go_loopg [5] (wd - F.length) (fun g s5 wr => wr = w1 ∧ ∃ j, g + j = wd - F.length ∧ s5 = .string (bst (List.replicate j 48 ++ F)))
  case atStart => exact ⟨rfl, 0, by omega, rfl⟩
  case round =>
    obtain ⟨rfl, j, hj, rfl⟩ := hrel
    have hsz := bst_size (List.replicate j 48 ++ F)
    rw [List.length_append, List.length_replicate] at hsz
    generalize hS : bst (List.replicate j 48 ++ F) = S at *
    have HS := Lib.hid hS
    have HJ := Lib.hid hj
    have hsize : S.size = j + F.length := hsz
    clear hS hsz hj
    by_cases hlt : j < wd - F.length
    · have g1 : (S.size : Int) < (wd : Int) := by have := HW.out; omega
      have g2 : S.size ≤ 100 := by have := HW.out; omega
      clear hsize
      go_wp2_with fail
      go_roundg (gk - 1)
      case measure => have := HJ.out; omega
      case rel => exact ⟨rfl, j + 1, by have := HJ.out; omega, by rw [← HS.out, bst_cons, ← List.cons_append, ← List.replicate_succ]⟩
    · have g1 : ¬ (S.size : Int) < (wd : Int) := by have := HJ.out; omega
      clear hsize
      go_wp2_with fail
      go_ret
      have hjk : j = wd - F.length := by have := HJ.out; omega
      exact ⟨by rw [← HS.out, hjk]; rfl, HB.out⟩
theorem tl_inj {a b : ByteArray} (h : a.toList = b.toList) : a = b := by
  rw [ByteArray.toList_eq, ByteArray.toList_eq] at h
  exact ls_ext h
theorem decFrom_valF (l : List UInt8) (h : allD l = true) : ∀ acc, Lib.decFrom acc l = some (valF acc l) := by
  induction l with
  | nil => intro acc; rw [valF_nil]; rfl
  | cons c r ih =>
    intro acc
    rw [allD_cons, Bool.and_eq_true] at h
    have h2 := (dgB_iff _).1 h.1
    unfold Lib.decFrom
    rw [show Lib.digitVal c = some (c.toNat - 48) by unfold Lib.digitVal; rw [if_pos h2]]
    rw [valF_cons]
    exact ih h.2 _
theorem atoi_valF (l : List UInt8) (h : allD l = true) (h0 : l ≠ []) : Lib.atoi l = some ((valF 0 l : Nat) : Int) := by
  cases l with
  | nil => exact absurd rfl h0
  | cons c r =>
    have hc := h
    rw [allD_cons, Bool.and_eq_true] at hc
    have h2 := (dgB_iff _).1 hc.1
    have n1 : (c == 45) = false := by
      rw [beq_eq_false_iff_ne]; intro e; rw [e] at h2; simp at h2
    have n2 : (c == 43) = false := by
      rw [beq_eq_false_iff_ne]; intro e; rw [e] at h2; simp at h2
    show (if (c == 45) = true then (Lib.decNat r).map fun (m : Nat) => -(m : Int) else if (c == 43) = true then (Lib.decNat r).map fun (m : Nat) => (m : Int) else (Lib.decNat (c :: r)).map fun (m : Nat) => (m : Int)) = _
    rw [n1, n2, if_neg (by simp), if_neg (by simp)]
    unfold Lib.decNat
    rw [List.isEmpty_cons, if_neg (by simp), decFrom_valF _ h]
    rfl
theorem allD_drop {l : List UInt8} (h : allD l = true) (k : Nat) : allD (l.drop k) = true := by
  unfold allD at *; rw [List.all_eq_true] at *; exact fun x hx => h x (List.mem_of_mem_drop hx)
theorem allD_tk {l : List UInt8} (h : allD l = true) (k : Nat) : allD (l.take k) = true := by
  unfold allD at *; rw [List.all_eq_true] at *; exact fun x hx => h x (List.mem_of_mem_take hx)
theorem bdn {B : Nat} {a w : World} (h : Below B a w) (n : Nat) : Below B a (w.drewN n) := h.trans ⟨rfl, rfl, rfl, Nat.le_refl _, fun _ _ => rfl⟩
theorem idx_at (s : ByteArray) (i : Nat) (h : i < s.size) (w : World) : (Instr.index 9 (.string s) (.int .i64 i)).run Tryd.prog w = .ok (.int .u8 (s[i]).toNat) w := by
  have g0 : (0 : Int) ≤ i := by omega
  have g1 : (i : Int) < s.size := by omega
  simp [go_sem, g0, g1, h]
theorem getD_app_lt (g m : List UInt8) (j : Nat) (h : j < g.length) : (g ++ m).getD j 0 = g.getD j 0 := by
  rw [List.getD_eq_getElem?_getD, List.getD_eq_getElem?_getD, List.getElem?_append_left h]
theorem getD_app_ge (g m : List UInt8) (j : Nat) (h : g.length ≤ j) : (g ++ m).getD j 0 = m.getD (j - g.length) 0 := by
  rw [List.getD_eq_getElem?_getD, List.getD_eq_getElem?_getD, List.getElem?_append_right h]
theorem bl_app (a x y : List UInt8) : Op.bytesLess (a ++ x) (a ++ y) = Op.bytesLess x y := by
  induction a with
  | nil => rfl
  | cons c r ih =>
    show (decide (c < c) || (c == c && Op.bytesLess (r ++ x) (r ++ y))) = _
    rw [ih]
    have : ¬ c < c := by rw [UInt8.lt_iff_toNat_lt]; omega
    simp [this]
theorem bl_dgw (k : Nat) : ∀ (m n : Nat) (u v : List UInt8), m < n → n < 10 ^ k → Op.bytesLess (dgw k m ++ u) (dgw k n ++ v) = true := by
  induction k with
  | zero => intro m n u v h1 h2; simp at h2; omega
  | succ k ih =>
    intro m n u v h1 h2
    have hpk : 0 < 10 ^ k := Nat.pow_pos (by omega)
    have hq : n / 10 ^ k < 10 := Nat.div_lt_of_lt_mul (by rw [Nat.pow_succ] at h2; exact h2)
    have hle : m / 10 ^ k ≤ n / 10 ^ k := Nat.div_le_div_right (by omega)
    show (decide (UInt8.ofNat (48 + m / 10 ^ k % 10) < UInt8.ofNat (48 + n / 10 ^ k % 10)) || (UInt8.ofNat (48 + m / 10 ^ k % 10) == UInt8.ofNat (48 + n / 10 ^ k % 10) && Op.bytesLess (dgw k m ++ u) (dgw k n ++ v))) = true
    rw [Nat.mod_eq_of_lt hq, Nat.mod_eq_of_lt (by omega)]
    rcases Nat.eq_or_lt_of_le hle with h | h
    · rw [h]
      have hm := Nat.div_add_mod m (10 ^ k)
      have hn := Nat.div_add_mod n (10 ^ k)
      rw [h] at hm
      have e1 : dgw k m = dgw k (m % 10 ^ k) := by
        have := dgw_mod k (n / 10 ^ k) (m % 10 ^ k)
        rw [Nat.mul_comm, hm] at this; exact this
      have e2 : dgw k n = dgw k (n % 10 ^ k) := by
        have := dgw_mod k (n / 10 ^ k) (n % 10 ^ k)
        rw [Nat.mul_comm, hn] at this; exact this
      rw [e1, e2, ih _ _ u v (by omega) (Nat.mod_lt _ hpk)]
      simp
    · have : UInt8.ofNat (48 + m / 10 ^ k) < UInt8.ofNat (48 + n / 10 ^ k) := by
        rw [UInt8.lt_iff_toNat_lt, ofNat_d _ (by omega), ofNat_d _ hq]; omega
      rw [decide_eq_true this]; rfl
theorem TabP.re {w : World} (h : TabP w) (d : Nat) (os : Array Obj) : TabP (grow (redrawn w d) os) := h.call (below_regrown w d os)

end Go.Proofs.YtjkfckkmofcpdaaDoor
