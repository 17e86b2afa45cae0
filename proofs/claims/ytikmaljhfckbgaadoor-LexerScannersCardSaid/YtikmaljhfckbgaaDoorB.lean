/- Characters: their classes. -/
import Derived.Test.YtikmaljhfckbgaaDoorA
set_option linter.unusedVariables false
set_option linter.unusedSimpArgs false
namespace Go.Proofs.YtikmaljhfckbgaaDoor
open Go.Sort Go.ChangeShapes Go.WideShapes Go.ChangeAt Go.RowKit
def isL (c : Int) : Bool := (decide (97 ≤ c) && decide (c ≤ 122)) || (decide (65 ≤ c) && decide (c ≤ 90))
def isG (c : Int) : Bool := decide (48 ≤ c) && decide (c ≤ 57)
def marks : ByteArray := ⟨#[40, 41, 123, 125, 44, 59, 58, 61, 60, 62, 43, 45, 42, 37, 46, 33]⟩
def isM (c : Int) : Bool := decide (c < 128) && decide (0 ≤ Lib.indexByte marks.data.toList c.toNat.toUInt8)
def cls (c : Int) : Int := if c = 32 ∨ c = 9 ∨ c = 10 then 1 else if c = 35 then 2 else if isL c = true then 3 else if isG c = true then 4 else if c = 34 then 5 else if isM c = true then 6 else 0
theorem zoneL (c : Int) : c < 65 ∨ (65 ≤ c ∧ c ≤ 90) ∨ (90 < c ∧ c < 97) ∨ (97 ≤ c ∧ c ≤ 122) ∨ 122 < c := by omega
set_option maxHeartbeats 1000000 in
theorem isletter_any (c : Int) (w : World) : Calls Tryd.prog 56 #[.int .u8 c] w fun e w' => e = .returned (.bool (isL c)) ∧ w' = w := by
  rcases zoneL c with h | h | h | h | h
  · have d0 : decide (97 ≤ c) = false := decide_eq_false (by omega)
    have d1 : decide (c ≤ 122) = true := decide_eq_true (by omega)
    have d2 : decide (65 ≤ c) = false := decide_eq_false (by omega)
    have d3 : decide (c ≤ 90) = true := decide_eq_true (by omega)
    have e : isL c = false := by unfold isL; rw [d0, d1, d2, d3]; rfl
    rw [e]
    clear h e
    go_enter Tryd.func56, Tryd.ntmps56
    go_wp2_with fail
    go_ret
    exact ⟨rfl, rfl⟩
  · have d0 : decide (97 ≤ c) = false := decide_eq_false (by omega)
    have d1 : decide (c ≤ 122) = true := decide_eq_true (by omega)
    have d2 : decide (65 ≤ c) = true := decide_eq_true (by omega)
    have d3 : decide (c ≤ 90) = true := decide_eq_true (by omega)
    have e : isL c = true := by unfold isL; rw [d0, d1, d2, d3]; rfl
    rw [e]
    clear h e
    go_enter Tryd.func56, Tryd.ntmps56
    go_wp2_with fail
    go_ret
    exact ⟨rfl, rfl⟩
  · have d0 : decide (97 ≤ c) = false := decide_eq_false (by omega)
    have d1 : decide (c ≤ 122) = true := decide_eq_true (by omega)
    have d2 : decide (65 ≤ c) = true := decide_eq_true (by omega)
    have d3 : decide (c ≤ 90) = false := decide_eq_false (by omega)
    have e : isL c = false := by unfold isL; rw [d0, d1, d2, d3]; rfl
    rw [e]
    clear h e
    go_enter Tryd.func56, Tryd.ntmps56
    go_wp2_with fail
    go_ret
    exact ⟨rfl, rfl⟩
  · have d0 : decide (97 ≤ c) = true := decide_eq_true (by omega)
    have d1 : decide (c ≤ 122) = true := decide_eq_true (by omega)
    have d2 : decide (65 ≤ c) = true := decide_eq_true (by omega)
    have d3 : decide (c ≤ 90) = false := decide_eq_false (by omega)
    have e : isL c = true := by unfold isL; rw [d0, d1, d2, d3]; rfl
    rw [e]
    clear h e
    go_enter Tryd.func56, Tryd.ntmps56
    go_wp2_with fail
    go_ret
    exact ⟨rfl, rfl⟩
  · have d0 : decide (97 ≤ c) = true := decide_eq_true (by omega)
    have d1 : decide (c ≤ 122) = false := decide_eq_false (by omega)
    have d2 : decide (65 ≤ c) = true := decide_eq_true (by omega)
    have d3 : decide (c ≤ 90) = false := decide_eq_false (by omega)
    have e : isL c = false := by unfold isL; rw [d0, d1, d2, d3]; rfl
    rw [e]
    clear h e
    go_enter Tryd.func56, Tryd.ntmps56
    go_wp2_with fail
    go_ret
    exact ⟨rfl, rfl⟩
set_option maxHeartbeats 1000000 in
theorem letter_any (c : Int) (w : World) : Calls Tryd.prog 35 #[.int .u8 c] w fun e w' => e = .returned (.bool (isL c)) ∧ w' = w := by
  rcases zoneL c with h | h | h | h | h
  · have d0 : decide (97 ≤ c) = false := decide_eq_false (by omega)
    have d1 : decide (c ≤ 122) = true := decide_eq_true (by omega)
    have d2 : decide (65 ≤ c) = false := decide_eq_false (by omega)
    have d3 : decide (c ≤ 90) = true := decide_eq_true (by omega)
    have e : isL c = false := by unfold isL; rw [d0, d1, d2, d3]; rfl
    rw [e]
    clear h e
    go_enter Tryd.func35, Tryd.ntmps35
    go_wp2_with fail
    go_ret
    exact ⟨rfl, rfl⟩
  · have d0 : decide (97 ≤ c) = false := decide_eq_false (by omega)
    have d1 : decide (c ≤ 122) = true := decide_eq_true (by omega)
    have d2 : decide (65 ≤ c) = true := decide_eq_true (by omega)
    have d3 : decide (c ≤ 90) = true := decide_eq_true (by omega)
    have e : isL c = true := by unfold isL; rw [d0, d1, d2, d3]; rfl
    rw [e]
    clear h e
    go_enter Tryd.func35, Tryd.ntmps35
    go_wp2_with fail
    go_ret
    exact ⟨rfl, rfl⟩
  · have d0 : decide (97 ≤ c) = false := decide_eq_false (by omega)
    have d1 : decide (c ≤ 122) = true := decide_eq_true (by omega)
    have d2 : decide (65 ≤ c) = true := decide_eq_true (by omega)
    have d3 : decide (c ≤ 90) = false := decide_eq_false (by omega)
    have e : isL c = false := by unfold isL; rw [d0, d1, d2, d3]; rfl
    rw [e]
    clear h e
    go_enter Tryd.func35, Tryd.ntmps35
    go_wp2_with fail
    go_ret
    exact ⟨rfl, rfl⟩
  · have d0 : decide (97 ≤ c) = true := decide_eq_true (by omega)
    have d1 : decide (c ≤ 122) = true := decide_eq_true (by omega)
    have d2 : decide (65 ≤ c) = true := decide_eq_true (by omega)
    have d3 : decide (c ≤ 90) = false := decide_eq_false (by omega)
    have e : isL c = true := by unfold isL; rw [d0, d1, d2, d3]; rfl
    rw [e]
    clear h e
    go_enter Tryd.func35, Tryd.ntmps35
    go_wp2_with fail
    go_ret
    exact ⟨rfl, rfl⟩
  · have d0 : decide (97 ≤ c) = true := decide_eq_true (by omega)
    have d1 : decide (c ≤ 122) = false := decide_eq_false (by omega)
    have d2 : decide (65 ≤ c) = true := decide_eq_true (by omega)
    have d3 : decide (c ≤ 90) = false := decide_eq_false (by omega)
    have e : isL c = false := by unfold isL; rw [d0, d1, d2, d3]; rfl
    rw [e]
    clear h e
    go_enter Tryd.func35, Tryd.ntmps35
    go_wp2_with fail
    go_ret
    exact ⟨rfl, rfl⟩
set_option maxHeartbeats 1000000 in
theorem digit_any (c : Int) (w : World) : Calls Tryd.prog 52 #[.int .u8 c] w fun e w' => e = .returned (.bool (isG c)) ∧ w' = w := by
  rcases (by omega : c < 48 ∨ (48 ≤ c ∧ c ≤ 57) ∨ 57 < c) with h | h | h
  · have d0 : decide (48 ≤ c) = false := decide_eq_false (by omega)
    have d1 : decide (c ≤ 57) = true := decide_eq_true (by omega)
    have e : isG c = false := by unfold isG; rw [d0, d1]; rfl
    rw [e]
    clear h e
    go_enter Tryd.func52, Tryd.ntmps52
    go_wp2_with fail
    go_ret
    exact ⟨rfl, rfl⟩
  · have d0 : decide (48 ≤ c) = true := decide_eq_true (by omega)
    have d1 : decide (c ≤ 57) = true := decide_eq_true (by omega)
    have e : isG c = true := by unfold isG; rw [d0, d1]; rfl
    rw [e]
    clear h e
    go_enter Tryd.func52, Tryd.ntmps52
    go_wp2_with fail
    go_ret
    exact ⟨rfl, rfl⟩
  · have d0 : decide (48 ≤ c) = true := decide_eq_true (by omega)
    have d1 : decide (c ≤ 57) = false := decide_eq_false (by omega)
    have e : isG c = false := by unfold isG; rw [d0, d1]; rfl
    rw [e]
    clear h e
    go_enter Tryd.func52, Tryd.ntmps52
    go_wp2_with fail
    go_ret
    exact ⟨rfl, rfl⟩
theorem isG_nat (c : Nat) : dgB c = isG (c : Int) := by
  unfold dgB isG
  rw [Bool.eq_iff_iff, Bool.and_eq_true, Bool.and_eq_true, decide_eq_true_iff, decide_eq_true_iff, decide_eq_true_iff, decide_eq_true_iff]; omega
theorem pdigit_any (c : Nat) (w : World) : Calls Tryd.prog 57 #[.int .u8 (c : Int)] w fun e w' => e = .returned (.bool (isG (c : Int))) ∧ w' = w := by
  rw [← isG_nat]; exact isdigit_any c w
/- runes of two bytes and more -/
theorem utf_hi (r : Int) (h : 128 ≤ r) : ∃ x : ByteArray, Utf8.encode r = x ∧ ((∃ a b, x = ⟨#[a, b]⟩ ∧ 128 ≤ b.toNat) ∨ (∃ a b c, x = ⟨#[a, b, c]⟩ ∧ 128 ≤ c.toNat) ∨ (∃ a b c d, x = ⟨#[a, b, c, d]⟩ ∧ 128 ≤ d.toNat)) := by
  refine ⟨_, rfl, ?_⟩
  have hb : ∀ n : Nat, n < 64 → 128 ≤ (UInt8.ofNat (0x80 + n)).toNat := fun n hn => by simp; omega
  unfold Utf8.encode
  have hc : ∃ c : Nat, (if Utf8.valid r then r.toNat else Utf8.runeError) = c ∧ 128 ≤ c := by
    refine ⟨_, rfl, ?_⟩
    split
    · omega
    · decide
  obtain ⟨c, h1, h2⟩ := hc
  simp only [h1]
  rw [if_neg (by omega)]
  split
  · exact .inl ⟨_, _, rfl, hb _ (by omega)⟩
  · split
    · exact .inr (.inl ⟨_, _, _, rfl, hb _ (by omega)⟩)
    · exact .inr (.inr ⟨_, _, _, _, rfl, hb _ (by omega)⟩)
theorem ib_tw (l : List UInt8) (c : UInt8) : Lib.indexByte l c = if (l.takeWhile (fun x => x != c)).length < l.length then ((l.takeWhile (fun x => x != c)).length : Int) else -1 := by
  induction l with
  | nil => rfl
  | cons b r ih =>
    unfold Lib.indexByte
    by_cases h : b = c
    · subst h; simp
    · have h1 : (b == c) = false := beq_eq_false_iff_ne.2 h
      have h2 : (b != c) = true := by rw [bne, h1]; rfl
      rw [h1, if_neg (by simp), List.takeWhile_cons, if_pos h2, List.length_cons, List.length_cons]
      by_cases h3 : (r.takeWhile (fun x => x != c)).length < r.length
      · have e : Lib.indexByte r c = ((r.takeWhile (fun x => x != c)).length : Int) := by rw [ih, if_pos h3]
        have e2 : (((r.takeWhile (fun x => x != c)).length : Int) == -1) = false := by rw [beq_eq_false_iff_ne]; omega
        rw [e, e2, if_neg (by simp), if_pos (Nat.succ_lt_succ h3)]; omega
      · have e : Lib.indexByte r c = -1 := by rw [ih, if_neg h3]
        rw [e, if_pos (by rfl), if_neg (fun h => h3 (Nat.lt_of_succ_lt_succ h))]
theorem ib_none (l : List UInt8) (hl : l.all (fun x => decide (x.toNat < 128)) = true) (c : UInt8) (h : 128 ≤ c.toNat) : Lib.indexByte l c = -1 := by
  have e : l.takeWhile (fun x => x != c) = l := by
    induction l with
    | nil => rfl
    | cons a r ih =>
      rw [List.all_cons, Bool.and_eq_true, decide_eq_true_iff] at hl
      have : (a != c) = true := by rw [bne_iff_ne]; rintro rfl; omega
      rw [List.takeWhile_cons, if_pos this, ih hl.2]
  rw [ib_tw, e, if_neg (by omega)]
end Go.Proofs.YtikmaljhfckbgaaDoor
