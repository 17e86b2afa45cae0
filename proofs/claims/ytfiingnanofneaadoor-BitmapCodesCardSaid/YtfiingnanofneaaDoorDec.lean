/- read and Decode of the program. -/
import Derived.Test.YtfiingnanofneaaDoorPu
import Derived.Lib.Strings
set_option linter.unusedVariables false
set_option linter.unusedSimpArgs false
namespace Go.Proofs.YtfiingnanofneaaDoor
open Go.Sort Go.ChangeShapes Go.WideShapes Go.ChangeAt Go.RowKit
theorem pub_any (s : ByteArray) (w : World) (hs : s.size = 16) (hA : allH s.data.toList = true) :
    Calls Tryd.prog 40 #[.string s, .int .i64 16, .int .i64 64] w fun e w' => e = .returned (.tuple #[.int .u64 (valH s.data.toList : Nat), .nilIface]) ∧ Below w.heap.size w w' := by
  have HP : Hid (∀ w, _) := Lib.hid (fun w => pu_any s w hs hA)
  generalize valH s.data.toList = v at *
  clear hs hA
  go_enter Tryd.func40, Tryd.ntmps40
  go_wp2_with fail
  refine (HP.out _).mono ?_
  rintro e w1 ⟨rfl, hb⟩
  have HB := Lib.hid hb
  clear hb
  go_wp2_with fail
  go_ret2
  exact ⟨rfl, HB.out⟩
/-- the first sixteen bytes -/
def h16 (s : ByteArray) : List UInt8 := s.data.toList.take 16
/-- what read answers -/
def rdE (s : ByteArray) : Int := if s.size < 16 then 1 else if allH (h16 s) = false then 2 else 0
def rdV (s : ByteArray) : Nat := if rdE s = 0 then valH (h16 s) else 0
theorem ext16 (s : ByteArray) (h : 16 ≤ s.size) : (s.extract 0 16).data.toList = h16 s ∧ (s.extract 0 16).size = 16 := by
  constructor
  · simp [h16]
  · simp; omega
theorem read_any (s : ByteArray) (w : World) (hs : s.size ≤ maxLen) :
    Calls Tryd.prog 35 #[.string s] w fun e w' => e = .returned (.tuple #[.int .u64 (rdV s : Nat), .int .i64 (rdE s)]) ∧ Below w.heap.size w w' := by
  unfold maxLen at hs
  have hs' : (s.size : Int) ≤ 9223372036854775807 := by omega
  by_cases h : s.size < 16
  · have e1 : rdE s = 1 := if_pos h
    have e2 : rdV s = 0 := by unfold rdV; rw [e1]; rfl
    rw [e1, e2]
    have g : (s.size : Int) < 16 := by omega
    go_enter Tryd.func35, Tryd.ntmps35
    go_wp2_with fail
    go_ret2
    exact ⟨rfl, Below.refl _ _⟩
  · obtain ⟨x1, x2⟩ := ext16 s (by omega)
    have g : decide ((s.size : Int) < 16) = false := decide_eq_false (by omega)
    have g16 : (16 : Int) ≤ (s.size : Int) := by omega
    have g16n : 16 ≤ s.size := by omega
    have HI : Hid (∀ w, _) := Lib.hid (fun w => ishex_any (s.extract 0 16) w (by rw [x2]; decide))
    cases hA : allH (h16 s)
    · have e1 : rdE s = 2 := by unfold rdE; rw [if_neg h, if_pos hA]
      have e2 : rdV s = 0 := by unfold rdV; rw [e1]; rfl
      have hi := HI.out
      rw [x1, hA] at hi
      replace HI := Lib.hid hi
      rw [e1, e2]
      clear hi e1 e2 hA x1 x2 h
      go_enter Tryd.func35, Tryd.ntmps35
      go_wp2_with (go_at_call 39; refine (HI.out _).mono ?_; rintro e w' ⟨rfl, rfl⟩)
      go_ret2
      exact ⟨rfl, Below.refl _ _⟩
    · have e1 : rdE s = 0 := by unfold rdE; rw [if_neg h, if_neg (by rw [hA]; simp)]
      have e2 : rdV s = valH (h16 s) := by unfold rdV; rw [if_pos e1]
      have hi := HI.out
      rw [x1, hA] at hi
      replace HI := Lib.hid hi
      have hp := fun w => pub_any (s.extract 0 16) w x2 (by rw [x1]; exact hA)
      rw [x1] at hp
      have HP := Lib.hid hp
      rw [e1, e2]
      clear hi e1 e2 hA x1 x2 h hp
      go_enter Tryd.func35, Tryd.ntmps35
      go_wp2_with (first | (go_at_call 39; refine (HI.out _).mono ?_; rintro e w' ⟨rfl, rfl⟩) | (go_at_call 40; refine (HP.out _).mono ?_; rintro e w1 ⟨rfl, hb⟩; have HB := Lib.hid hb; clear hb))
      go_ret2
      exact ⟨rfl, HB.out⟩
end Go.Proofs.YtfiingnanofneaaDoor
