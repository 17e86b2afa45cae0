/- Brought from another layer. -/
import Derived.WalkKit
import Derived.ProofKit
import Derived.Outline
import Derived.BigQuiet
import Derived.Deep.QuietTactic
import Derived.IntWalk
import Derived.Lib.QuietBelow
import Derived.StillTailTactics
import Derived.Lib.SmallJoins
import Derived.Lib.ItoaLen
import Derived.Lib.AppendIntMem
import Derived.Lib.LaidTab
import Derived.Lib.ItoaNum
import Derived.Lib.IndexLaws
import Derived.Lib.ParseIntB
import Derived.Test.YtellajpjhhamhaaK
import Derived.Test.YtellajpjhhamhaaRows
set_option linter.unusedVariables false
set_option linter.unusedSimpArgs false
namespace Go.Proofs.Ytellajpjhhamhaa
open Go.Sort Go.ChangeShapes Go.WideShapes Go.ChangeAt Go.RowKit
/-- a decimal digit -/
def dgB (c : Nat) : Bool := decide (48 ≤ c) && decide (c ≤ 57)
def allD (l : List UInt8) : Bool := l.all fun c => dgB c.toNat
theorem isdigit_any (c : Nat) (w : World) : Calls Try.prog 42 #[.int .u8 c] w fun e w' => e = .returned (.bool (dgB c)) ∧ w' = w := by
  unfold dgB
  by_cases h1 : 48 ≤ c
  · by_cases h2 : c ≤ 57
    · rw [decide_eq_true h1, decide_eq_true h2]
      have g1 : decide ((48 : Int) ≤ (c : Int)) = true := decide_eq_true (by omega)
      have g2 : decide ((c : Int) ≤ 57) = true := decide_eq_true (by omega)
      clear h1 h2
      go_enter Try.func42, Try.ntmps42
      go_wp2_with fail
      go_ret
      exact ⟨rfl, rfl⟩
    · rw [decide_eq_true h1, decide_eq_false h2]
      have g1 : decide ((48 : Int) ≤ (c : Int)) = true := decide_eq_true (by omega)
      have g2 : decide ((c : Int) ≤ 57) = false := decide_eq_false (by omega)
      clear h1 h2
      go_enter Try.func42, Try.ntmps42
      go_wp2_with fail
      go_ret
      exact ⟨rfl, rfl⟩
  · rw [decide_eq_false h1, Bool.false_and]
    have g1 : decide ((48 : Int) ≤ (c : Int)) = false := decide_eq_false (by omega)
    clear h1
    go_enter Try.func42, Try.ntmps42
    go_wp2_with fail
    go_ret
    exact ⟨rfl, rfl⟩
theorem allD_take (s : ByteArray) (k : Nat) (h : k < s.size) : allD (s.data.toList.take (k + 1)) = (allD (s.data.toList.take k) && dgB s[k].toNat) := by
  have e : s.data.toList.take (k + 1) = s.data.toList.take k ++ [s[k]] := by
    rw [List.take_succ_eq_append_getElem (by simpa using h)]; rfl
  rw [e]
  simp [allD, List.all_append]
theorem allD_false (s : ByteArray) (k : Nat) (h : k < s.size) (hb : dgB s[k].toNat = false) : allD s.data.toList = false := by
  rw [← List.take_append_drop (k + 1) s.data.toList]
  unfold allD
  rw [List.all_append]
  have := allD_take s k h
  rw [hb, Bool.and_false] at this
  unfold allD at this
  rw [this, Bool.false_and]
def isD (s : ByteArray) : Bool := allD s.data.toList && !(s.toList == [])
theorem size_pos_list {s : ByteArray} (h : s.size ≠ 0) : (s.toList == []) = false := by
  rw [beq_eq_false_iff_ne, ByteArray.toList_eq]
  intro h2
  apply h
  have : s.data.toList.length = s.size := Array.length_toList
  rw [h2] at this
  exact this.symm
theorem size_zero_list {s : ByteArray} (h : s.size = 0) : (s.toList == []) = true := by
  rw [beq_iff_eq, ByteArray.toList_eq]
  exact List.eq_nil_of_length_eq_zero (Array.length_toList.trans h)
set_option maxHeartbeats 400000 in
theorem isdigits_any (s : ByteArray) (w : World) (hs : s.size ≤ maxLen) : Calls Try.prog 38 #[.string s] w fun e w' => e = .returned (.bool (isD s)) ∧ w' = w := by
  unfold maxLen at hs
  have hs' : (s.size : Int) ≤ 9223372036854775807 := by omega
  obtain ⟨B, hB⟩ : ∃ B, B = isD s := ⟨_, rfl⟩
  rw [← hB]
  have HB := Lib.hid hB
  clear hB
  go_enter Try.func38, Try.ntmps38
  go_wp2_with fail
  go_loop [6] (fun i => ∃ k : Nat, k ≤ s.size ∧ i = .int .i64 k ∧ Hid (allD (s.data.toList.take k) = true)) (fun i => s.size - (intOf i).toNat)
  case atStart => exact ⟨0, Nat.zero_le _, rfl, Lib.hid rfl⟩
  case round =>
    obtain ⟨k, hk, rfl, hA⟩ := hrel
    by_cases hlt : k < s.size
    · have ht := allD_take s k hlt
      have hf := allD_false s k hlt
      rw [hA.out, Bool.true_and] at ht
      have HD := Lib.hid (isdigit_any s[k].toNat)
      have hlt' : (k : Int) < (s.size : Int) := by omega
      have hge' : 0 ≤ (k : Int) := by omega
      have HT := Lib.hid ht
      have HFn := Lib.hid hf
      clear ht hf
      cases hd : dgB s[k].toNat
      · have HD0 := HD.out
        rw [hd] at HD0
        have HDD := Lib.hid HD0
        have HN := Lib.hid (HFn.out hd)
        clear HD0 HD hd
        go_wp2_with (go_at_call 42; refine (HDD.out _).mono ?_; rintro e w' ⟨rfl, rfl⟩)
        go_ret
        exact ⟨by rw [HB.out, isD, HN.out]; rfl, rfl⟩
      · have HD0 := HD.out
        rw [hd] at HD0
        have HDD := Lib.hid HD0
        have HY := Lib.hid (HT.out.trans hd)
        clear HD0 HD hd
        go_wp2_with (go_at_call 42; refine (HDD.out _).mono ?_; rintro e w' ⟨rfl, rfl⟩)
        go_round
        case rel => exact ⟨k + 1, by omega, by go_num, Lib.hid HY.out⟩
        case measure => simp [intOf]; omega
    · have hge : ¬ (k : Int) < (s.size : Int) := by omega
      have hall : allD s.data.toList = true := by have := hA.out; rwa [List.take_of_length_le (by simp; omega)] at this
      have HA := Lib.hid hall
      clear hall hA
      by_cases hz : s.size = 0
      · have e1 := size_zero_list hz
        have HE := Lib.hid e1
        have e0 : s.toList = [] := by simpa using e1
        have e2 : (s.toList != []) = false := by rw [e0]; rfl
        have e3 : (!s.toList.isEmpty) = false := by rw [e0]; rfl
        clear e1
        go_wp2_with fail
        go_ret
        exact ⟨by rw [HB.out, isD, HA.out, HE.out]; simp [e0], rfl⟩
      · have e1 := size_pos_list hz
        have HE := Lib.hid e1
        have e2 : (s.toList != []) = true := by rw [bne, e1]; rfl
        have e3 : (!s.toList.isEmpty) = true := by
          cases h : s.toList with
          | nil => rw [h] at e1; cases e1
          | cons => rfl
        clear e1
        go_wp2_with fail
        go_ret
        exact ⟨by rw [HB.out, isD, HA.out, HE.out]; simp_all, rfl⟩
def padL (n : Nat) (l : List UInt8) : List UInt8 := List.replicate (n - l.length) 48 ++ l
theorem itoa_nat (u : Nat) : Lib.itoa (u : Int) = Lib.decDigits u := by unfold Lib.itoa; rw [if_neg (by omega)]; simp
def valF (acc : Nat) (l : List UInt8) : Nat := l.foldl (fun a c => a * 10 + (c.toNat - 48)) acc
theorem valF_cons (acc : Nat) (c : UInt8) (r : List UInt8) : valF acc (c :: r) = valF (acc * 10 + (c.toNat - 48)) r := List.foldl_cons ..
theorem valF_nil (acc : Nat) : valF acc [] = acc := List.foldl_nil ..
theorem valF_ge (l : List UInt8) : ∀ acc, acc ≤ valF acc l := by
  induction l with
  | nil => intro acc; rw [valF_nil]; exact Nat.le_refl _
  | cons c r ih => intro acc; rw [valF_cons]; exact Nat.le_trans (by omega) (ih _)
theorem valF_app (l m : List UInt8) : ∀ acc, valF acc (l ++ m) = valF (valF acc l) m := by
  induction l with
  | nil => intro acc; rfl
  | cons c r ih => intro acc; rw [List.cons_append, valF_cons, valF_cons]; exact ih _
theorem dgB_iff (c : Nat) : dgB c = true ↔ 48 ≤ c ∧ c ≤ 57 := by unfold dgB; rw [Bool.and_eq_true, decide_eq_true_iff, decide_eq_true_iff]
theorem pm_cons (M acc : Nat) (c : UInt8) (r : List UInt8) (h : 48 ≤ c.toNat ∧ c.toNat ≤ 57) : Lib.parseUintM M acc (c :: r) = if 1844674407370955162 ≤ acc then .range else if M < acc * 10 + (c.toNat - 48) then .range else Lib.parseUintM M (acc * 10 + (c.toNat - 48)) r := if_pos h
theorem pum (M : Nat) (hM : M = 18446744073709551615) (l : List UInt8) : ∀ acc, allD l = true → acc ≤ M → Lib.parseUintM M acc l = if valF acc l ≤ M then .ok (valF acc l) else .range := by
  induction l with
  | nil => intro acc _ h; rw [valF_nil, if_pos h]; rfl
  | cons c r ih =>
    intro acc h ha
    have hc : dgB c.toNat = true ∧ allD r = true := by simpa [allD] using h
    have hg := valF_ge r (acc * 10 + (c.toNat - 48))
    rw [pm_cons M acc c r ((dgB_iff _).1 hc.1), valF_cons]
    generalize hG : valF (acc * 10 + (c.toNat - 48)) r = G at hg ⊢
    generalize hK : acc * 10 + (c.toNat - 48) = K at hG hg ⊢
    subst hG
    by_cases h1 : 1844674407370955162 ≤ acc
    · rw [if_pos h1, if_neg (by omega)]
    · rw [if_neg h1]
      by_cases h2 : M < K
      · rw [if_pos h2, if_neg (by omega)]
      · rw [if_neg h2]
        exact ih _ hc.2 (by omega)
theorem pib (l : List UInt8) (h : allD l = true) (h0 : l ≠ []) : Lib.parseIntB 64 l = if valF 0 l < 9223372036854775808 then .ok ((valF 0 l : Nat) : Int) else .range := by
  cases l with
  | nil => exact absurd rfl h0
  | cons c r =>
    have hc : dgB c.toNat = true := by have : dgB c.toNat = true ∧ allD r = true := by simpa [allD] using h
                                       exact this.1
    have hd := (dgB_iff _).1 hc
    have n1 : ¬ c.toNat = 45 := by omega
    have n2 : ¬ (c.toNat = 43 ∨ c.toNat = 45) := by omega
    have e1 : Lib.parseUintB 64 (c :: r) = if valF 0 (c :: r) ≤ 18446744073709551615 then .ok (valF 0 (c :: r)) else .range := by
      unfold Lib.parseUintB
      rw [if_neg (by simp)]
      exact pum _ rfl (c :: r) 0 h (Nat.zero_le _)
    unfold Lib.parseIntB
    simp only [n1, if_false, false_and, not_false_eq_true, true_and]
    rw [if_neg (show ¬ (c.toNat = 43 ∨ False) from fun h => h.elim (fun h => by omega) id), e1]
    generalize valF 0 (c :: r) = V
    by_cases h1 : V ≤ 18446744073709551615
    · rw [if_pos h1]
      by_cases h2 : V < 9223372036854775808
      · rw [if_pos h2]
        show (if 2 ^ (64 - 1) ≤ V then _ else _) = _
        rw [if_neg (show ¬ (2 ^ (64 - 1) ≤ V) by omega)]
      · rw [if_neg h2]
        show (if 2 ^ (64 - 1) ≤ V then _ else _) = _
        rw [if_pos (show (2 ^ (64 - 1) ≤ V) by omega)]
    · rw [if_neg h1, if_neg (by omega)]
theorem dec_big {u : Nat} (h : ¬ u < 10) : Lib.decDigits u = Lib.decDigits (u / 10) ++ [UInt8.ofNat (48 + u % 10)] := by rw [Lib.decDigits, dif_neg h]
theorem dec_small {u : Nat} (h : u < 10) : Lib.decDigits u = [UInt8.ofNat (48 + u)] := by rw [Lib.decDigits, dif_pos h]
theorem ofNat_d (k : Nat) (h : k < 10) : (UInt8.ofNat (48 + k)).toNat = 48 + k := by simp; omega
theorem dec_all (u : Nat) : allD (Lib.decDigits u) = true := by
  induction u using Nat.strongRecOn with
  | _ u ih =>
    by_cases h : u < 10
    · rw [dec_small h]; simp only [allD, List.all_cons, List.all_nil, Bool.and_true]; rw [ofNat_d u h, dgB_iff]; omega
    · rw [dec_big h]
      have := ih (u / 10) (by omega)
      simp only [allD, List.all_append, List.all_cons, List.all_nil, Bool.and_true] at this ⊢
      rw [this, ofNat_d _ (by omega)]
      simp only [Bool.true_and]
      rw [dgB_iff]; omega
theorem dec_val (u : Nat) : valF 0 (Lib.decDigits u) = u := by
  induction u using Nat.strongRecOn with
  | _ u ih =>
    by_cases h : u < 10
    · rw [dec_small h]; rw [valF_cons, valF_nil, ofNat_d u h]; omega
    · rw [dec_big h, valF_app, ih (u / 10) (by omega)]; rw [valF_cons, valF_nil, ofNat_d _ (by omega)]; omega
theorem dec_ne (u : Nat) : Lib.decDigits u ≠ [] := by
  by_cases h : u < 10
  · rw [dec_small h]; simp
  · rw [dec_big h]; simp
theorem dec_head (u : Nat) (h0 : 0 < u) : (Lib.decDigits u).head? ≠ some 48 := by
  induction u using Nat.strongRecOn with
  | _ u ih =>
    by_cases h : u < 10
    · rw [dec_small h]
      simp only [List.head?_cons, ne_eq, Option.some.injEq]
      intro e
      have := ofNat_d u h
      rw [e] at this
      have h48 : (48 : UInt8).toNat = 48 := rfl
      omega
    · rw [dec_big h]
      have := ih (u / 10) (by omega) (by omega)
      have hn := dec_ne (u / 10)
      cases hd : Lib.decDigits (u / 10) with
      | nil => exact absurd hd hn
      | cons c r => rw [hd] at this; simpa using this
theorem valF_zeros (k : Nat) (l : List UInt8) : valF 0 (List.replicate k 48 ++ l) = valF 0 l := by
  induction k with
  | zero => rfl
  | succ k ih => rw [List.replicate_succ, List.cons_append, valF_cons]; exact ih
/-- the digits of a number, split before its places -/
theorem core_split (v p : Nat) : ∃ x y : List UInt8, padL (p + 1) (Lib.decDigits v) = x ++ y ∧ y.length = p ∧ allD x = true ∧ allD y = true ∧ x ≠ [] ∧ (x = [48] ∨ x.head? ≠ some 48) ∧ valF 0 (x ++ y) = v := by
  have hl : p + 1 ≤ (padL (p + 1) (Lib.decDigits v)).length := by unfold padL; rw [List.length_append, List.length_replicate]; omega
  have ha : allD (padL (p + 1) (Lib.decDigits v)) = true := by
    unfold padL
    have := dec_all v
    simp only [allD, List.all_append] at this ⊢
    rw [this, Bool.and_true, List.all_eq_true]
    intro c hc
    rw [List.eq_of_mem_replicate hc]; decide
  have hv : valF 0 (padL (p + 1) (Lib.decDigits v)) = v := by unfold padL; rw [valF_zeros, dec_val]
  refine ⟨(padL (p + 1) (Lib.decDigits v)).take ((padL (p + 1) (Lib.decDigits v)).length - p), (padL (p + 1) (Lib.decDigits v)).drop ((padL (p + 1) (Lib.decDigits v)).length - p), (List.take_append_drop _ _).symm, by rw [List.length_drop]; omega, ?_, ?_, ?_, ?_, by rw [List.take_append_drop]; exact hv⟩
  · rw [allD, List.all_eq_true] at ha ⊢; exact fun c hc => ha c (List.mem_of_mem_take hc)
  · rw [allD, List.all_eq_true] at ha ⊢; exact fun c hc => ha c (List.mem_of_mem_drop hc)
  · intro e
    have := congrArg List.length e
    rw [List.length_take, List.length_nil] at this
    omega
  · by_cases h1 : (Lib.decDigits v).length ≤ p + 1
    · have hL : (padL (p + 1) (Lib.decDigits v)).length = p + 1 := by unfold padL; rw [List.length_append, List.length_replicate]; omega
      rw [hL, show p + 1 - p = 1 by omega]
      by_cases h2 : (padL (p + 1) (Lib.decDigits v)).head? = some 48
      · left
        cases hc : padL (p + 1) (Lib.decDigits v) with
        | nil => rw [hc] at h2; cases h2
        | cons c r => rw [hc] at h2; simp at h2; rw [h2]; rfl
      · right
        intro e
        apply h2
        rw [← e, List.head?_take]
        simp
    · right
      have hL : padL (p + 1) (Lib.decDigits v) = Lib.decDigits v := by unfold padL; rw [show p + 1 - (Lib.decDigits v).length = 0 by omega]; rfl
      rw [hL]
      intro e
      rw [List.head?_take] at e
      split at e
      · cases e
      · refine dec_head v ?_ e
        rcases Nat.eq_zero_or_pos v with h0 | h0
        · rw [h0, dec_small (by omega)] at h1; simp at h1
        · exact h0
abbrev ls (s : ByteArray) : List UInt8 := s.data.toList
theorem ls_ext {a b : ByteArray} (h : ls a = ls b) : a = b := ByteArray.ext (Array.toList_inj.1 h)
theorem ls_size (s : ByteArray) : s.size = (ls s).length := rfl
theorem ls_app (a b : ByteArray) : ls (a ++ b) = ls a ++ ls b := by simp [ls]
theorem ls_ex (s : ByteArray) (i j : Nat) : ls (s.extract i j) = ((ls s).drop i).take (j - i) := by simp [ls, ByteArray.data_extract, Array.toList_extract, List.extract]
theorem ls_tl (s : ByteArray) : s.toList = ls s := ByteArray.toList_eq ..
theorem not_dig {l : List UInt8} (h : allD l = true) {c : UInt8} (hc : dgB c.toNat = false) : c ∉ l := by
  intro hm
  rw [allD, List.all_eq_true] at h
  rw [h c hm] at hc
  cases hc

end Go.Proofs.Ytellajpjhhamhaa
