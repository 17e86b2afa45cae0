/- Brought from another layer. -/
import Derived.WalkKit
import Derived.ProofKit
import Derived.Outline
import Derived.BigQuiet
import Derived.Deep.QuietTactic
import Derived.IntWalk
import Derived.Lib.QuietBelow
import Derived.StillTailTactics
import Derived.Lib.SmallJoins
import Derived.Lib.ItoaLen
import Derived.Lib.AppendIntMem
import Derived.Lib.LaidTab
import Derived.Laws.BitsAllLaws
import Derived.Laws.Bits64b
import Derived.Lib.ItoaNum
import Derived.Lib.Mul64
import Derived.Lib.IndexLaws
import Derived.Test.YtpabgmdgoghahaaDoorN
import Derived.Test.YtpabgmdgoghahaaDoorShelfC
set_option linter.unusedVariables false
set_option linter.unusedSimpArgs false
namespace Go.Proofs.YtpabgmdgoghahaaDoor
open Go.Sort Go.ChangeShapes Go.WideShapes Go.ChangeAt Go.RowKit
/-- a decimal digit -/
def dgB (c : Nat) : Bool := decide (48 ≤ c) && decide (c ≤ 57)
def allD (l : List UInt8) : Bool := l.all fun c => dgB c.toNat
theorem size_pos_list {s : ByteArray} (h : s.size ≠ 0) : (s.toList == []) = false := by
  rw [beq_eq_false_iff_ne, ByteArray.toList_eq]
  intro h2
  apply h
  have : s.data.toList.length = s.size := Array.length_toList
  rw [h2] at this
  exact this.symm
theorem size_zero_list {s : ByteArray} (h : s.size = 0) : (s.toList == []) = true := by
  rw [beq_iff_eq, ByteArray.toList_eq]
  exact List.eq_nil_of_length_eq_zero (Array.length_toList.trans h)
theorem idx_in (l : List UInt8) (c : UInt8) : -1 ≤ Lib.indexByte l c ∧ Lib.indexByte l c < l.length := by
  induction l with
  | nil => exact ⟨by unfold Lib.indexByte; omega, by unfold Lib.indexByte; simp⟩
  | cons b l ih =>
    unfold Lib.indexByte
    split
    · simp
    · split
      · simp; try omega
      · rename_i h1 h2
        have : Lib.indexByte l c ≠ -1 := by simpa using h2
        simp
        omega
/-- Cut at one byte -/
theorem index1 (s : ByteArray) (c : UInt8) (w : World) : Calls Tryd.prog 64 #[.string s, .string ⟨#[c]⟩] w fun e w' => e = .returned (.int .i64 (Lib.indexByte s.data.toList c)) ∧ w' = w := by
  have HI := Lib.hid (Tryd.stringslite_IndexByte s (c.toNat : Nat) w)
  have e : ((c.toNat : Nat) : Int).toNat.toUInt8 = c := by simp
  rw [e] at HI
  by_cases hs : s.toList = [c]
  · have hb : ([c] == s.toList) = true := by rw [hs]; exact beq_self_eq_true _
    have hr : Lib.indexByte s.data.toList c = 0 := by
      rw [← ByteArray.toList_eq, hs]; simp [Lib.indexByte]
    rw [hr]
    clear e hr hs HI
    go_enter Tryd.func64, Tryd.ntmps64
    go_wp2_with fail
    go_ret
    exact ⟨rfl, rfl⟩
  · have hb : ([c] == s.toList) = false := by rw [beq_eq_false_iff_ne]; exact fun h => hs h.symm
    generalize Lib.indexByte s.data.toList c = r at *
    clear e hs
    go_enter Tryd.func64, Tryd.ntmps64
    go_wp2_with (go_at_call 72; refine (HI.out).mono ?_; rintro e w' ⟨rfl, rfl⟩)
    go_ret
    exact ⟨rfl, rfl⟩
/-- what is before, and what is behind -/
def ctA (s : ByteArray) (c : UInt8) : ByteArray := if 0 ≤ Lib.indexByte s.data.toList c then s.extract 0 (Lib.indexByte s.data.toList c).toNat else s
def ctB (s : ByteArray) (c : UInt8) : ByteArray := if 0 ≤ Lib.indexByte s.data.toList c then s.extract ((Lib.indexByte s.data.toList c).toNat + 1) s.size else ⟨#[]⟩
def ctF (s : ByteArray) (c : UInt8) : Bool := decide (0 ≤ Lib.indexByte s.data.toList c)
theorem cut1 (s : ByteArray) (c : UInt8) (hs : s.size ≤ maxLen) (w : World) : Calls Tryd.prog 56 #[.string s, .string ⟨#[c]⟩] w fun e w' => e = .returned (.tuple #[.string (ctA s c), .string (ctB s c), .bool (ctF s c)]) ∧ ∃ n, w' = w.drewN n := by
  have HI := Lib.hid (index1 s c w)
  have hx := idx_in s.data.toList c
  have hl : s.data.toList.length = s.size := Array.length_toList
  rw [hl] at hx
  have hsm : (s.size : Int) ≤ 9223372036854775807 := by unfold maxLen at hs; omega
  unfold ctA ctB ctF
  generalize Lib.indexByte s.data.toList c = r at *
  by_cases h : 0 ≤ r
  · obtain ⟨k, rfl⟩ : ∃ k : Nat, r = k := ⟨r.toNat, by omega⟩
    rw [if_pos h, if_pos h, decide_eq_true h]
    have h1 : (k : Int) + 1 ≤ (s.size : Int) := by omega
    have h2 : (k : Int) ≤ (s.size : Int) := by omega
    have h3 : 0 ≤ (k : Int) := by omega
    have h4 : IntKind.i64.wrap ((k : Int) + 1) = (k : Int) + 1 := by rw [IntKind.wrap_i64]; omega
    have h5 : 0 ≤ (k : Int) + 1 := by omega
    have h6 : ((k : Int) + 1).toNat = k + 1 := by omega
    have h7 : ((k : Int)).toNat = k := by omega
    rw [h7]
    have h8 : k ≤ s.size := by omega
    have h9 : k + 1 ≤ s.size := by omega
    clear hx hl hs h
    go_enter Tryd.func56, Tryd.ntmps56
    go_wp2_with (go_at_call 64; refine (HI.out).mono ?_; rintro e w' ⟨rfl, rfl⟩)
    go_quiet (fail)
    go_wp2_with fail
    go_ret3
    exact ⟨rfl, _, rfl⟩
  · rw [if_neg h, if_neg h, decide_eq_false h]
    have h1 : r < 0 := by omega
    clear hx hl hs h
    go_enter Tryd.func56, Tryd.ntmps56
    go_wp2_with (go_at_call 64; refine (HI.out).mono ?_; rintro e w' ⟨rfl, rfl⟩)
    go_ret3
    exact ⟨rfl, 0, rfl⟩
theorem bdn {B : Nat} {a w : World} (h : Below B a w) (n : Nat) : Below B a (w.drewN n) := h.trans ⟨rfl, rfl, rfl, Nat.le_refl _, fun _ _ => rfl⟩
theorem scut1 (s : ByteArray) (c : UInt8) (hs : s.size ≤ maxLen) (w : World) : Calls Tryd.prog 42 #[.string s, .string ⟨#[c]⟩] w fun e w' => e = .returned (.tuple #[.string (ctA s c), .string (ctB s c), .bool (ctF s c)]) ∧ Below w.heap.size w w' := by
  have HI := Lib.hid (cut1 s c hs w)
  generalize ctA s c = a at *
  generalize ctB s c = b at *
  generalize ctF s c = f at *
  clear hs
  go_enter Tryd.func42, Tryd.ntmps42
  go_wp2_with fail
  refine HI.out.mono ?_
  rintro e w1 ⟨rfl, n, rfl⟩
  go_wp2_with fail
  go_ret3
  exact ⟨rfl, bdn (Below.refl _ _) _⟩
theorem itoa_nat (u : Nat) : Lib.itoa (u : Int) = Lib.decDigits u := by unfold Lib.itoa; rw [if_neg (by omega)]; simp
def valF (acc : Nat) (l : List UInt8) : Nat := l.foldl (fun a c => a * 10 + (c.toNat - 48)) acc
theorem valF_cons (acc : Nat) (c : UInt8) (r : List UInt8) : valF acc (c :: r) = valF (acc * 10 + (c.toNat - 48)) r := List.foldl_cons ..
theorem valF_nil (acc : Nat) : valF acc [] = acc := List.foldl_nil ..
theorem valF_ge (l : List UInt8) : ∀ acc, acc ≤ valF acc l := by
  induction l with
  | nil => intro acc; rw [valF_nil]; exact Nat.le_refl _
  | cons c r ih => intro acc; rw [valF_cons]; exact Nat.le_trans (by omega) (ih _)
theorem valF_app (l m : List UInt8) : ∀ acc, valF acc (l ++ m) = valF (valF acc l) m := by
  induction l with
  | nil => intro acc; rfl
  | cons c r ih => intro acc; rw [List.cons_append, valF_cons, valF_cons]; exact ih _
theorem dgB_iff (c : Nat) : dgB c = true ↔ 48 ≤ c ∧ c ≤ 57 := by unfold dgB; rw [Bool.and_eq_true, decide_eq_true_iff, decide_eq_true_iff]
theorem pm_cons (M acc : Nat) (c : UInt8) (r : List UInt8) (h : 48 ≤ c.toNat ∧ c.toNat ≤ 57) : Lib.parseUintM M acc (c :: r) = if 1844674407370955162 ≤ acc then .range else if M < acc * 10 + (c.toNat - 48) then .range else Lib.parseUintM M (acc * 10 + (c.toNat - 48)) r := if_pos h
theorem pum (M : Nat) (hM : M = 18446744073709551615) (l : List UInt8) : ∀ acc, allD l = true → acc ≤ M → Lib.parseUintM M acc l = if valF acc l ≤ M then .ok (valF acc l) else .range := by
  induction l with
  | nil => intro acc _ h; rw [valF_nil, if_pos h]; rfl
  | cons c r ih =>
    intro acc h ha
    have hc : dgB c.toNat = true ∧ allD r = true := by simpa [allD] using h
    have hg := valF_ge r (acc * 10 + (c.toNat - 48))
    rw [pm_cons M acc c r ((dgB_iff _).1 hc.1), valF_cons]
    generalize hG : valF (acc * 10 + (c.toNat - 48)) r = G at hg ⊢
    generalize hK : acc * 10 + (c.toNat - 48) = K at hG hg ⊢
    subst hG
    by_cases h1 : 1844674407370955162 ≤ acc
    · rw [if_pos h1, if_neg (by omega)]
    · rw [if_neg h1]
      by_cases h2 : M < K
      · rw [if_pos h2, if_neg (by omega)]
      · rw [if_neg h2]
        exact ih _ hc.2 (by omega)
theorem pib (l : List UInt8) (h : allD l = true) (h0 : l ≠ []) : Lib.parseIntB 64 l = if valF 0 l < 9223372036854775808 then .ok ((valF 0 l : Nat) : Int) else .range := by
  cases l with
  | nil => exact absurd rfl h0
  | cons c r =>
    have hc : dgB c.toNat = true := by have : dgB c.toNat = true ∧ allD r = true := by simpa [allD] using h
                                       exact this.1
    have hd := (dgB_iff _).1 hc
    have n1 : ¬ c.toNat = 45 := by omega
    have n2 : ¬ (c.toNat = 43 ∨ c.toNat = 45) := by omega
    have e1 : Lib.parseUintB 64 (c :: r) = if valF 0 (c :: r) ≤ 18446744073709551615 then .ok (valF 0 (c :: r)) else .range := by
      unfold Lib.parseUintB
      rw [if_neg (by simp)]
      exact pum _ rfl (c :: r) 0 h (Nat.zero_le _)
    unfold Lib.parseIntB
    simp only [n1, if_false, false_and, not_false_eq_true, true_and]
    rw [if_neg (show ¬ (c.toNat = 43 ∨ False) from fun h => h.elim (fun h => by omega) id), e1]
    generalize valF 0 (c :: r) = V
    by_cases h1 : V ≤ 18446744073709551615
    · rw [if_pos h1]
      by_cases h2 : V < 9223372036854775808
      · rw [if_pos h2]
        show (if 2 ^ (64 - 1) ≤ V then _ else _) = _
        rw [if_neg (show ¬ (2 ^ (64 - 1) ≤ V) by omega)]
      · rw [if_neg h2]
        show (if 2 ^ (64 - 1) ≤ V then _ else _) = _
        rw [if_pos (show (2 ^ (64 - 1) ≤ V) by omega)]
    · rw [if_neg h1, if_neg (by omega)]
theorem dec_big {u : Nat} (h : ¬ u < 10) : Lib.decDigits u = Lib.decDigits (u / 10) ++ [UInt8.ofNat (48 + u % 10)] := by rw [Lib.decDigits, dif_neg h]
theorem dec_small {u : Nat} (h : u < 10) : Lib.decDigits u = [UInt8.ofNat (48 + u)] := by rw [Lib.decDigits, dif_pos h]
theorem ofNat_d (k : Nat) (h : k < 10) : (UInt8.ofNat (48 + k)).toNat = 48 + k := by simp; omega
theorem dec_all (u : Nat) : allD (Lib.decDigits u) = true := by
  induction u using Nat.strongRecOn with
  | _ u ih =>
    by_cases h : u < 10
    · rw [dec_small h]; simp only [allD, List.all_cons, List.all_nil, Bool.and_true]; rw [ofNat_d u h, dgB_iff]; omega
    · rw [dec_big h]
      have := ih (u / 10) (by omega)
      simp only [allD, List.all_append, List.all_cons, List.all_nil, Bool.and_true] at this ⊢
      rw [this, ofNat_d _ (by omega)]
      simp only [Bool.true_and]
      rw [dgB_iff]; omega
theorem dec_val (u : Nat) : valF 0 (Lib.decDigits u) = u := by
  induction u using Nat.strongRecOn with
  | _ u ih =>
    by_cases h : u < 10
    · rw [dec_small h]; rw [valF_cons, valF_nil, ofNat_d u h]; omega
    · rw [dec_big h, valF_app, ih (u / 10) (by omega)]; rw [valF_cons, valF_nil, ofNat_d _ (by omega)]; omega
theorem dec_ne (u : Nat) : Lib.decDigits u ≠ [] := by
  by_cases h : u < 10
  · rw [dec_small h]; simp
  · rw [dec_big h]; simp
abbrev ls (s : ByteArray) : List UInt8 := s.data.toList
theorem ls_ext {a b : ByteArray} (h : ls a = ls b) : a = b := ByteArray.ext (Array.toList_inj.1 h)
theorem ls_size (s : ByteArray) : s.size = (ls s).length := rfl
theorem ls_app (a b : ByteArray) : ls (a ++ b) = ls a ++ ls b := by simp [ls]
theorem ls_ex (s : ByteArray) (i j : Nat) : ls (s.extract i j) = ((ls s).drop i).take (j - i) := by simp [ls, ByteArray.data_extract, Array.toList_extract, List.extract]
theorem ls_tl (s : ByteArray) : s.toList = ls s := ByteArray.toList_eq ..
theorem ctA_size (s : ByteArray) (c : UInt8) : (ctA s c).size ≤ s.size := by
  unfold ctA; split
  · rw [ls_size, ls_ex, ls_size s, List.length_take, List.length_drop]; omega
  · exact Nat.le_refl _
theorem ctB_size (s : ByteArray) (c : UInt8) : (ctB s c).size ≤ s.size := by
  unfold ctB; split
  · rw [ls_size, ls_ex, ls_size s, List.length_take, List.length_drop]; omega
  · exact Nat.zero_le _
theorem cut_spec {s : ByteArray} {c : UInt8} (h : ctF s c = true) : ls s = ls (ctA s c) ++ c :: ls (ctB s c) ∧ c ∉ ls (ctA s c) := by
  have h0 : 0 ≤ Lib.indexByte s.data.toList c := by simpa [ctF] using h
  obtain ⟨k, hk⟩ : ∃ k : Nat, Lib.indexByte s.data.toList c = k := ⟨(Lib.indexByte s.data.toList c).toNat, by omega⟩
  obtain ⟨g1, g2⟩ := Lib.indexByte_some hk
  have hlt : k < (ls s).length := by
    rcases Nat.lt_or_ge k (ls s).length with h | h
    · exact h
    · rw [show s.data.toList[k]? = none from List.getElem?_eq_none h] at g1; cases g1
  have ea : ls (ctA s c) = (ls s).take k := by unfold ctA; rw [if_pos h0, ls_ex, hk]; simp
  have eb : ls (ctB s c) = (ls s).drop (k + 1) := by
    unfold ctB; rw [if_pos h0, ls_ex, hk, ls_size]
    exact List.take_of_length_le (by rw [List.length_drop, Int.toNat_natCast]; omega)
  have hc : (ls s)[k] = c := by
    have : (ls s)[k]? = some c := g1
    rw [List.getElem?_eq_getElem hlt] at this
    exact Option.some.inj this
  constructor
  · rw [ea, eb]
    conv => lhs; rw [← List.take_append_drop k (ls s), List.drop_eq_getElem_cons hlt, hc]
  · rw [ea]
    intro hm
    obtain ⟨j, hj, he⟩ := List.mem_iff_getElem.1 hm
    rw [List.length_take] at hj
    rw [List.getElem_take] at he
    refine g2 j (by omega) ?_
    show (ls s)[j]? = some c
    rw [List.getElem?_eq_getElem (by omega), he]
theorem cut_of {s : ByteArray} {c : UInt8} {x y : List UInt8} (hx : c ∉ x) (h : ls s = x ++ c :: y) : ls (ctA s c) = x ∧ ls (ctB s c) = y ∧ ctF s c = true := by
  have hi := idx_in s.data.toList c
  have hlt : x.length < (ls s).length := by rw [h, List.length_append, List.length_cons]; omega
  have hat : (ls s)[x.length]? = some c := by rw [h, List.getElem?_append_right (Nat.le_refl _), Nat.sub_self]; rfl
  have hk : Lib.indexByte s.data.toList c = x.length := by
    by_cases hneg : Lib.indexByte s.data.toList c = -1
    · exact absurd hat (Lib.indexByte_none hneg x.length)
    · obtain ⟨k, hk⟩ : ∃ k : Nat, Lib.indexByte s.data.toList c = k := ⟨(Lib.indexByte s.data.toList c).toNat, by omega⟩
      obtain ⟨g1, g2⟩ := Lib.indexByte_some hk
      rw [hk]
      rcases Nat.lt_trichotomy k x.length with h1 | h1 | h1
      · exfalso
        have g3 : (ls s)[k]? = some c := g1
        rw [h, List.getElem?_append_left h1, List.getElem?_eq_getElem h1] at g3
        exact hx (Option.some.inj g3 ▸ List.getElem_mem h1)
      · rw [h1]
      · exact absurd hat (g2 x.length h1)
  have h0 : 0 ≤ Lib.indexByte s.data.toList c := by omega
  refine ⟨?_, ?_, ?_⟩
  · unfold ctA; rw [if_pos h0, ls_ex, hk, h]; simp
  · unfold ctB; rw [if_pos h0, ls_ex, hk, ls_size, h]
    rw [Int.toNat_natCast, show x ++ c :: y = (x ++ [c]) ++ y by simp, show x.length + 1 = (x ++ [c]).length by simp, List.drop_left]
    exact List.take_of_length_le (by simp; omega)
  · unfold ctF; exact decide_eq_true h0
structure Ps where
  a : Int
  c : ByteArray
  e : Int
theorem not_dig {l : List UInt8} (h : allD l = true) {c : UInt8} (hc : dgB c.toNat = false) : c ∉ l := by
  intro hm
  rw [allD, List.all_eq_true] at h
  rw [h c hm] at hc
  cases hc

end Go.Proofs.YtpabgmdgoghahaaDoor
