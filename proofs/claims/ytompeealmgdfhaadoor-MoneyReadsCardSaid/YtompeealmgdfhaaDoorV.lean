/- Digits in a text; Cut at one byte; Digits; the example's Parse and Format. -/
import Derived.Test.YtompeealmgdfhaaDoorU
import Derived.Test.YtompeealmgdfhaaDoorShelfB
import Derived.Lib.ItoaLen
import Derived.Lib.SmallJoins
import Derived.Lib.LaidTab
import Derived.Lib.AppendIntMem
set_option linter.unusedVariables false
set_option linter.unusedSimpArgs false
namespace Go.Proofs.YtompeealmgdfhaaDoor
open Go.Sort Go.ChangeShapes Go.WideShapes Go.ChangeAt Go.RowKit
open div
/-- a decimal digit -/
def dgB (c : Nat) : Bool := decide (48 ≤ c) && decide (c ≤ 57)
def allD (l : List UInt8) : Bool := l.all fun c => dgB c.toNat
theorem isdigit_any (c : Nat) (w : World) : Calls Tryd.prog 61 #[.int .u8 c] w fun e w' => e = .returned (.bool (dgB c)) ∧ w' = w := by
  unfold dgB
  by_cases h1 : 48 ≤ c
  · by_cases h2 : c ≤ 57
    · rw [decide_eq_true h1, decide_eq_true h2]
      have g1 : decide ((48 : Int) ≤ (c : Int)) = true := decide_eq_true (by omega)
      have g2 : decide ((c : Int) ≤ 57) = true := decide_eq_true (by omega)
      clear h1 h2
      go_enter Tryd.func61, Tryd.ntmps61
      go_wp2_with fail
      go_ret
      exact ⟨rfl, rfl⟩
    · rw [decide_eq_true h1, decide_eq_false h2]
      have g1 : decide ((48 : Int) ≤ (c : Int)) = true := decide_eq_true (by omega)
      have g2 : decide ((c : Int) ≤ 57) = false := decide_eq_false (by omega)
      clear h1 h2
      go_enter Tryd.func61, Tryd.ntmps61
      go_wp2_with fail
      go_ret
      exact ⟨rfl, rfl⟩
  · rw [decide_eq_false h1, Bool.false_and]
    have g1 : decide ((48 : Int) ≤ (c : Int)) = false := decide_eq_false (by omega)
    clear h1
    go_enter Tryd.func61, Tryd.ntmps61
    go_wp2_with fail
    go_ret
    exact ⟨rfl, rfl⟩
theorem allD_take (s : ByteArray) (k : Nat) (h : k < s.size) : allD (s.data.toList.take (k + 1)) = (allD (s.data.toList.take k) && dgB s[k].toNat) := by
  have e : s.data.toList.take (k + 1) = s.data.toList.take k ++ [s[k]] := by
    rw [List.take_succ_eq_append_getElem (by simpa using h)]; rfl
  rw [e]
  simp [allD, List.all_append]
theorem allD_false (s : ByteArray) (k : Nat) (h : k < s.size) (hb : dgB s[k].toNat = false) : allD s.data.toList = false := by
  rw [← List.take_append_drop (k + 1) s.data.toList]
  unfold allD
  rw [List.all_append]
  have := allD_take s k h
  rw [hb, Bool.and_false] at this
  unfold allD at this
  rw [this, Bool.false_and]
def isD (s : ByteArray) : Bool := allD s.data.toList && !(s.toList == [])
theorem size_pos_list {s : ByteArray} (h : s.size ≠ 0) : (s.toList == []) = false := by
  rw [beq_eq_false_iff_ne, ByteArray.toList_eq]
  intro h2
  apply h
  have : s.data.toList.length = s.size := Array.length_toList
  rw [h2] at this
  exact this.symm
theorem size_zero_list {s : ByteArray} (h : s.size = 0) : (s.toList == []) = true := by
  rw [beq_iff_eq, ByteArray.toList_eq]
  exact List.eq_nil_of_length_eq_zero (Array.length_toList.trans h)
set_option maxHeartbeats 400000 in
theorem isdigits_any (s : ByteArray) (w : World) (hs : s.size ≤ maxLen) : Calls Tryd.prog 51 #[.string s] w fun e w' => e = .returned (.bool (isD s)) ∧ w' = w := by
  unfold maxLen at hs
  have hs' : (s.size : Int) ≤ 9223372036854775807 := by omega
  obtain ⟨B, hB⟩ : ∃ B, B = isD s := ⟨_, rfl⟩
  rw [← hB]
  have HB := Lib.hid hB
  clear hB
  go_enter Tryd.func51, Tryd.ntmps51
  go_wp2_with fail
  go_loop [6] (fun i => ∃ k : Nat, k ≤ s.size ∧ i = .int .i64 k ∧ Hid (allD (s.data.toList.take k) = true)) (fun i => s.size - (intOf i).toNat)
  case atStart => exact ⟨0, Nat.zero_le _, rfl, Lib.hid rfl⟩
  case round =>
    obtain ⟨k, hk, rfl, hA⟩ := hrel
    by_cases hlt : k < s.size
    · have ht := allD_take s k hlt
      have hf := allD_false s k hlt
      rw [hA.out, Bool.true_and] at ht
      have HD := Lib.hid (isdigit_any s[k].toNat)
      have hlt' : (k : Int) < (s.size : Int) := by omega
      have hge' : 0 ≤ (k : Int) := by omega
      have HT := Lib.hid ht
      have HFn := Lib.hid hf
      clear ht hf
      cases hd : dgB s[k].toNat
      · have HD0 := HD.out
        rw [hd] at HD0
        have HDD := Lib.hid HD0
        have HN := Lib.hid (HFn.out hd)
        clear HD0 HD hd
        go_wp2_with (go_at_call 61; refine (HDD.out _).mono ?_; rintro e w' ⟨rfl, rfl⟩)
        go_ret
        exact ⟨by rw [HB.out, isD, HN.out]; rfl, rfl⟩
      · have HD0 := HD.out
        rw [hd] at HD0
        have HDD := Lib.hid HD0
        have HY := Lib.hid (HT.out.trans hd)
        clear HD0 HD hd
        go_wp2_with (go_at_call 61; refine (HDD.out _).mono ?_; rintro e w' ⟨rfl, rfl⟩)
        go_round
        case rel => exact ⟨k + 1, by omega, by go_num, Lib.hid HY.out⟩
        case measure => simp [intOf]; omega
    · have hge : ¬ (k : Int) < (s.size : Int) := by omega
      have hall : allD s.data.toList = true := by have := hA.out; rwa [List.take_of_length_le (by simp; omega)] at this
      have HA := Lib.hid hall
      clear hall hA
      by_cases hz : s.size = 0
      · have e1 := size_zero_list hz
        have HE := Lib.hid e1
        have e0 : s.toList = [] := by simpa using e1
        have e2 : (s.toList != []) = false := by rw [e0]; rfl
        have e3 : (!s.toList.isEmpty) = false := by rw [e0]; rfl
        clear e1
        go_wp2_with fail
        go_ret
        exact ⟨by rw [HB.out, isD, HA.out, HE.out]; simp [e0], rfl⟩
      · have e1 := size_pos_list hz
        have HE := Lib.hid e1
        have e2 : (s.toList != []) = true := by rw [bne, e1]; rfl
        have e3 : (!s.toList.isEmpty) = true := by
          cases h : s.toList with
          | nil => rw [h] at e1; cases e1
          | cons => rfl
        clear e1
        go_wp2_with fail
        go_ret
        exact ⟨by rw [HB.out, isD, HA.out, HE.out]; simp_all, rfl⟩
def TabP (w : World) : Prop := Lib.TabIs Tryd.prog w "internal/strconv.uint64pow10" .u64 Lib.pow10Tab
theorem gPow : ∃ g, Tryd.prog.globalNamed "internal/strconv.uint64pow10" = some g := by
  cases h : Tryd.prog.globalNamed "internal/strconv.uint64pow10" with
  | some g => exact ⟨g, rfl⟩
  | none =>
    have : (Tryd.prog.globalNamed "internal/strconv.uint64pow10").isSome = true := by kernel_rfl
    rw [h] at this; cases this
theorem TabP.call {w w1 : World} (h : TabP w) (hb : Below w.heap.size w w1) : TabP w1 := by
  obtain ⟨g, hg⟩ := gPow
  exact Go.Joins.tab_stays hg h hb (Nat.le_refl _)
theorem idx_in (l : List UInt8) (c : UInt8) : -1 ≤ Lib.indexByte l c ∧ Lib.indexByte l c < l.length := by
  induction l with
  | nil => exact ⟨by unfold Lib.indexByte; omega, by unfold Lib.indexByte; simp⟩
  | cons b l ih =>
    unfold Lib.indexByte
    split
    · simp
    · split
      · simp; try omega
      · rename_i h1 h2
        have : Lib.indexByte l c ≠ -1 := by simpa using h2
        simp
        omega
/-- Cut at one byte -/
theorem index1 (s : ByteArray) (c : UInt8) (w : World) : Calls Tryd.prog 68 #[.string s, .string ⟨#[c]⟩] w fun e w' => e = .returned (.int .i64 (Lib.indexByte s.data.toList c)) ∧ w' = w := by
  have HI := Lib.hid (Tryd.stringslite_IndexByte s (c.toNat : Nat) w)
  have e : ((c.toNat : Nat) : Int).toNat.toUInt8 = c := by simp
  rw [e] at HI
  by_cases hs : s.toList = [c]
  · have hb : ([c] == s.toList) = true := by rw [hs]; exact beq_self_eq_true _
    have hr : Lib.indexByte s.data.toList c = 0 := by
      rw [← ByteArray.toList_eq, hs]; simp [Lib.indexByte]
    rw [hr]
    clear e hr hs HI
    go_enter Tryd.func68, Tryd.ntmps68
    go_wp2_with fail
    go_ret
    exact ⟨rfl, rfl⟩
  · have hb : ([c] == s.toList) = false := by rw [beq_eq_false_iff_ne]; exact fun h => hs h.symm
    generalize Lib.indexByte s.data.toList c = r at *
    clear e hs
    go_enter Tryd.func68, Tryd.ntmps68
    go_wp2_with (go_at_call 80; refine (HI.out).mono ?_; rintro e w' ⟨rfl, rfl⟩)
    go_ret
    exact ⟨rfl, rfl⟩
/-- what is before, and what is behind -/
def ctA (s : ByteArray) (c : UInt8) : ByteArray := if 0 ≤ Lib.indexByte s.data.toList c then s.extract 0 (Lib.indexByte s.data.toList c).toNat else s
def ctB (s : ByteArray) (c : UInt8) : ByteArray := if 0 ≤ Lib.indexByte s.data.toList c then s.extract ((Lib.indexByte s.data.toList c).toNat + 1) s.size else ⟨#[]⟩
def ctF (s : ByteArray) (c : UInt8) : Bool := decide (0 ≤ Lib.indexByte s.data.toList c)
theorem cut1 (s : ByteArray) (c : UInt8) (hs : s.size ≤ maxLen) (w : World) : Calls Tryd.prog 59 #[.string s, .string ⟨#[c]⟩] w fun e w' => e = .returned (.tuple #[.string (ctA s c), .string (ctB s c), .bool (ctF s c)]) ∧ ∃ n, w' = w.drewN n := by
  have HI := Lib.hid (index1 s c w)
  have hx := idx_in s.data.toList c
  have hl : s.data.toList.length = s.size := Array.length_toList
  rw [hl] at hx
  have hsm : (s.size : Int) ≤ 9223372036854775807 := by unfold maxLen at hs; omega
  unfold ctA ctB ctF
  generalize Lib.indexByte s.data.toList c = r at *
  by_cases h : 0 ≤ r
  · obtain ⟨k, rfl⟩ : ∃ k : Nat, r = k := ⟨r.toNat, by omega⟩
    rw [if_pos h, if_pos h, decide_eq_true h]
    have h1 : (k : Int) + 1 ≤ (s.size : Int) := by omega
    have h2 : (k : Int) ≤ (s.size : Int) := by omega
    have h3 : 0 ≤ (k : Int) := by omega
    have h4 : IntKind.i64.wrap ((k : Int) + 1) = (k : Int) + 1 := by rw [IntKind.wrap_i64]; omega
    have h5 : 0 ≤ (k : Int) + 1 := by omega
    have h6 : ((k : Int) + 1).toNat = k + 1 := by omega
    have h7 : ((k : Int)).toNat = k := by omega
    rw [h7]
    have h8 : k ≤ s.size := by omega
    have h9 : k + 1 ≤ s.size := by omega
    clear hx hl hs h
    go_enter Tryd.func59, Tryd.ntmps59
    go_wp2_with (go_at_call 68; refine (HI.out).mono ?_; rintro e w' ⟨rfl, rfl⟩)
    go_quiet (fail)
    go_wp2_with fail
    go_ret3
    exact ⟨rfl, _, rfl⟩
  · rw [if_neg h, if_neg h, decide_eq_false h]
    have h1 : r < 0 := by omega
    clear hx hl hs h
    go_enter Tryd.func59, Tryd.ntmps59
    go_wp2_with (go_at_call 68; refine (HI.out).mono ?_; rintro e w' ⟨rfl, rfl⟩)
    go_ret3
    exact ⟨rfl, 0, rfl⟩
theorem scut1 (s : ByteArray) (c : UInt8) (hs : s.size ≤ maxLen) (w : World) : Calls Tryd.prog 49 #[.string s, .string ⟨#[c]⟩] w fun e w' => e = .returned (.tuple #[.string (ctA s c), .string (ctB s c), .bool (ctF s c)]) ∧ Below w.heap.size w w' := by
  have HI := Lib.hid (cut1 s c hs w)
  generalize ctA s c = a at *
  generalize ctB s c = b at *
  generalize ctF s c = f at *
  clear hs
  go_enter Tryd.func49, Tryd.ntmps49
  go_wp2_with fail
  refine HI.out.mono ?_
  rintro e w1 ⟨rfl, n, rfl⟩
  go_wp2_with fail
  go_ret3
  exact ⟨rfl, bdn (Below.refl _ _) _⟩
end Go.Proofs.YtompeealmgdfhaaDoor
