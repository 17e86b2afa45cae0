/- The months' lengths. -/
import Derived.Test.YtbfmfnfndmfeeaaDoorA
set_option linter.unusedVariables false
set_option linter.unusedSimpArgs false
namespace Go.Proofs.YtbfmfnfndmfeeaaDoor
open Go.Sort Go.ChangeShapes Go.WideShapes Go.ChangeAt Go.RowKit
open cal
/-- the table of the lengths stands -/
def Tab (w : World) : Prop := ∀ m : Int, 1 ≤ m → m ≤ 12 → w.cell? ⟨0, m.toNat - 1, none⟩ = some (.int .i64 (len0 m))
theorem Tab.call {w w1 : World} (h : Tab w) (hb : Below w.heap.size w w1) : Tab w1 := fun m h0 h1 => (hb.cell (p := ⟨0, m.toNat - 1, none⟩) (block_lt_of_cell (h m h0 h1))).trans (h m h0 h1)
theorem Tab.alloc {w : World} (h : Tab w) (o : Obj) : Tab (w.alloc o) := h.call (al (Below.refl _ _))
theorem Tab.re {w : World} (h : Tab w) (d : Nat) (os : Array Obj) : Tab (grow (redrawn w d) os) := fun m h0 h1 => cell_regrown (h m h0 h1) d os
theorem monthLength_any (y m : Int) (h : 0 ≤ y) (h0 : 1 ≤ m) (h1 : m ≤ 12) (w : World) (hT : Tab w) : Calls Tryd.prog 31 #[.int .i64 y, .int .i64 m] w fun e w' => e = .returned (.int .i64 (ml y m)) ∧ Below w.heap.size w w' := by
  have HL : Hid (∀ w, _) := Lib.hid (fun w => leap_any y h w)
  have HT := Lib.hid hT
  unfold ml
  generalize lp y = b at *
  by_cases h2 : m = 2
  · subst h2
    cases b
    · have hT2 : w.cell? ⟨0, 1, none⟩ = some (.int .i64 28) := hT 2 (by decide) (by decide)
      clear hT
      go_enter Tryd.func31, Tryd.ntmps31
      go_wp2_with fail
      refine (HL.out _).mono ?_
      rintro e w1 ⟨rfl, hb⟩
      obtain ⟨d1, o1, rfl⟩ := regrow_of hb
      have := block_lt_of_cell hT2
      go_wp2_with fail
      go_ret
      exact ⟨by simp [len0], below_regrown _ _ _⟩
    · go_enter Tryd.func31, Tryd.ntmps31
      go_wp2_with fail
      refine (HL.out _).mono ?_
      rintro e w1 ⟨rfl, hb⟩
      obtain ⟨d1, o1, rfl⟩ := regrow_of hb
      go_wp2_with fail
      go_ret
      exact ⟨by simp, below_regrown _ _ _⟩
  · have hT2 := hT m h0 h1
    have hq : ((m : Int) == 2) = false := by simpa using h2
    go_enter Tryd.func31, Tryd.ntmps31
    go_wp2_with fail
    go_ret
    exact ⟨by simp [h2], Below.refl _ _⟩
set_option maxHeartbeats 4000000 in
theorem days_any (y m : Int) (h : 0 ≤ y) (h0 : 1 ≤ m) (h1 : m ≤ 12) (w : World) : Calls Tryd.prog 34 #[.int .i64 y, .int .i64 m] w fun e w' => e = .returned (.int .i64 (ml y m)) ∧ Below w.heap.size w w' := by
  have HL : Hid (∀ w, _) := Lib.hid (fun w => rleap_any y h w)
  unfold ml
  generalize lp y = b at *
  by_cases h2 : m = 2
  · subst h2
    cases b
    · go_enter Tryd.func34, Tryd.ntmps34
      go_wp2_with fail
      refine (HL.out _).mono ?_
      rintro e w1 ⟨rfl, hb⟩
      obtain ⟨d1, o1, rfl⟩ := regrow_of hb
      go_wp2_with fail
      go_ret
      exact ⟨by simp [len0], al (below_regrown _ _ _)⟩
    · go_enter Tryd.func34, Tryd.ntmps34
      go_wp2_with fail
      refine (HL.out _).mono ?_
      rintro e w1 ⟨rfl, hb⟩
      obtain ⟨d1, o1, rfl⟩ := regrow_of hb
      go_wp2_with fail
      go_ret
      exact ⟨by simp, below_regrown _ _ _⟩
  · have hm : m = 1 ∨ m = 3 ∨ m = 4 ∨ m = 5 ∨ m = 6 ∨ m = 7 ∨ m = 8 ∨ m = 9 ∨ m = 10 ∨ m = 11 ∨ m = 12 := by omega
    rcases hm with rfl | rfl | rfl | rfl | rfl | rfl | rfl | rfl | rfl | rfl | rfl
    all_goals go_enter Tryd.func34, Tryd.ntmps34
    all_goals go_wp2_with fail
    all_goals go_ret
    all_goals exact ⟨by cases b <;> kernel_rfl, al (Below.refl _ _)⟩
def wkV (d : Int) : Int := if bD d = true then (d + 3) % 7 else -1
theorem bD_true {d : Int} (h : bD d = true) : 0 ≤ d ∧ d ≤ 99999 := by simpa [bD] using h
theorem weekday_any (d : Int) (w : World) : Calls Tryd.prog 15 #[.int .i64 d] w fun e w' => e = .returned (.int .i64 (wkV d)) ∧ Below w.heap.size w w' := by
  have HL : Hid (∀ w, _) := Lib.hid (fun w => isDate_any d w)
  unfold wkV
  by_cases hd : bD d = true
  · obtain ⟨h0, h1⟩ := bD_true hd
    have e1 := Int.tmod_eq_emod_of_nonneg (b := 7) (show 0 ≤ d + 3 by omega)
    rw [hd] at HL ⊢
    go_enter Tryd.func15, Tryd.ntmps15
    go_wp2_with fail
    refine (HL.out _).mono ?_
    rintro e w1 ⟨rfl, hb⟩
    obtain ⟨d1, o1, rfl⟩ := regrow_of hb
    go_wp2_with fail
    go_ret
    exact ⟨by simp [e1], below_regrown _ _ _⟩
  · rw [Bool.not_eq_true] at hd
    rw [hd] at HL ⊢
    go_enter Tryd.func15, Tryd.ntmps15
    go_wp2_with fail
    refine (HL.out _).mono ?_
    rintro e w1 ⟨rfl, hb⟩
    obtain ⟨d1, o1, rfl⟩ := regrow_of hb
    go_wp2_with fail
    go_ret
    exact ⟨by simp, below_regrown _ _ _⟩
theorem rweekday_any (d : Int) (w : World) : Calls Tryd.prog 16 #[.int .i64 d] w fun e w' => e = .returned (.int .i64 (wkV d)) ∧ Below w.heap.size w w' := by
  have HL : Hid (∀ w, _) := Lib.hid (fun w => rIsDate_any d w)
  unfold wkV
  by_cases hd : bD d = true
  · obtain ⟨h0, h1⟩ := bD_true hd
    have e1 := Int.tmod_eq_emod_of_nonneg (b := 7) (show 0 ≤ d + 3 by omega)
    rw [hd] at HL ⊢
    go_enter Tryd.func16, Tryd.ntmps16
    go_wp2_with fail
    refine (HL.out _).mono ?_
    rintro e w1 ⟨rfl, hb⟩
    obtain ⟨d1, o1, rfl⟩ := regrow_of hb
    go_wp2_with fail
    go_ret
    exact ⟨by simp [e1], below_regrown _ _ _⟩
  · rw [Bool.not_eq_true] at hd
    rw [hd] at HL ⊢
    go_enter Tryd.func16, Tryd.ntmps16
    go_wp2_with fail
    refine (HL.out _).mono ?_
    rintro e w1 ⟨rfl, hb⟩
    obtain ⟨d1, o1, rfl⟩ := regrow_of hb
    go_wp2_with fail
    go_ret
    exact ⟨by simp, below_regrown _ _ _⟩
def stV (d : Int) : Int := if bD d = true then d * 86400 else 0
def stE (d : Int) : Int := if bD d = true then 0 else 4
theorem start_any (d : Int) (w : World) : Calls Tryd.prog 13 #[.int .i64 d] w fun e w' => e = .returned (.tuple #[.int .i64 (stV d), .int .i64 (stE d)]) ∧ Below w.heap.size w w' := by
  have HL : Hid (∀ w, _) := Lib.hid (fun w => isDate_any d w)
  unfold stV stE
  by_cases hd : bD d = true
  · obtain ⟨h0, h1⟩ := bD_true hd
    rw [hd] at HL ⊢
    go_enter Tryd.func13, Tryd.ntmps13
    go_wp2_with fail
    refine (HL.out _).mono ?_
    rintro e w1 ⟨rfl, hb⟩
    obtain ⟨d1, o1, rfl⟩ := regrow_of hb
    go_wp2_with fail
    exact bodyPost_ret (v := .tuple #[.int .i64 _, .int .i64 _]) (by simp [results, Tryd.results13, go_sem]; exact ⟨rfl, rfl⟩) rfl ⟨by simp, below_regrown _ _ _⟩
  · rw [Bool.not_eq_true] at hd
    rw [hd] at HL ⊢
    go_enter Tryd.func13, Tryd.ntmps13
    go_wp2_with fail
    refine (HL.out _).mono ?_
    rintro e w1 ⟨rfl, hb⟩
    obtain ⟨d1, o1, rfl⟩ := regrow_of hb
    go_wp2_with fail
    exact bodyPost_ret (v := .tuple #[.int .i64 _, .int .i64 _]) (by simp [results, Tryd.results13, go_sem]; exact ⟨rfl, rfl⟩) rfl ⟨by simp, below_regrown _ _ _⟩
def bT (t : Int) : Bool := decide (0 ≤ t) && decide (t ≤ 1099511627776)
theorem isTime_any (d : Int) (w : World) : Calls Tryd.prog 41 #[.int .i64 d] w fun e w' => e = .returned (.bool (bT d)) ∧ Below w.heap.size w w' := by
  unfold bT
  go_enter Tryd.func41, Tryd.ntmps41
  go_wp2_with fail
  all_goals go_ret
  all_goals exact ⟨by simp_all <;> omega, Below.refl _ _⟩
end Go.Proofs.YtbfmfnfndmfeeaaDoor
