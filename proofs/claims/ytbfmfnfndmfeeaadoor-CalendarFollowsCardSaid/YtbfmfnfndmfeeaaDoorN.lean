/- The example. -/
import Derived.Test.YtbfmfnfndmfeeaaDoorL
set_option linter.unusedVariables false
set_option linter.unusedSimpArgs false
namespace Go.Proofs.YtbfmfnfndmfeeaaDoor
open Go.Sort Go.ChangeShapes Go.WideShapes Go.ChangeAt Go.RowKit
open cal
theorem split59 : IsSplit 59 1970 3 1 := ⟨by decide, by decide, by decide, by decide, by decide, by decide, by decide, by decide, by decide⟩
theorem fmt59 : fmt 1970 3 1 = ⟨#[49, 57, 55, 48, 45, 48, 51, 45, 48, 49]⟩ := by decide +kernel
theorem al2 {w W : World} {o : Obj} (h : Below w.heap.size w W) : Below w.heap.size w (W.alloc o) := h.alloc h.size o
/-- the example's holidays -/
def S4 : Int → Bool := inZ [4] 1
theorem ints4 (w : World) : Ints (w.alloc (.cells #[.int .i64 4] 3)) (some ⟨w.heap.size, 0, none⟩) 1 1 [4] := by
  refine ⟨rfl, Nat.le_refl _, by decide, fun i hi => ⟨w.heap.size, 0, rfl, (Blk.new w 3 #[.int .i64 4]).lt, ?_⟩⟩
  have : i = 0 := by omega
  subst this
  exact (Blk.new w 3 #[.int .i64 4]).cell 0
set_option maxHeartbeats 4000000 in
set_option maxRecDepth 20000 in
theorem awake_any (w : World) (hT : Tab w) (hP : TabP w) : Calls Tryd.prog 19 #[] w fun e w' => e = .returned (.bool true) ∧ Below w.heap.size w w' := by
  have O1 : Hid (∀ w, Tab w → _) := Lib.hid (fun w h => of_any 1970 3 1 w h)
  have O2 : Hid (∀ w, Tab w → _) := Lib.hid (fun w h => of_any 2100 2 29 w h)
  rw [show ofV 1970 3 1 = 59 from by decide, show ofE 1970 3 1 = 0 from by decide] at O1
  rw [show ofV 2100 2 29 = 0 from by decide, show ofE 2100 2 29 = 4 from by decide] at O2
  have NW : Hid (∀ w : World, _) := Lib.hid (fun w => new_ok (some ⟨w.heap.size, 0, none⟩) 1 1 [4] _ (ints4 w) (by decide) (fun i hi => by have : i = 0 := (by omega); subst this; decide))
  have W0 : Hid (∀ w, _) := Lib.hid (fun w => weekday_any 0 w)
  rw [show wkV 0 = 3 from by decide] at W0
  have F0 : Hid (∀ w, Tab w → TabP w → _) := Lib.hid (fun w h h2 => fmt_ok split59 (by decide) w h h2)
  rw [fmt59] at F0
  have N0 : Hid (∀ C w, CalAt w C S4 → _) := Lib.hid (fun C w h => next_hit C S4 2 5 (by decide) (by decide) (by decide) (by decide) (fun k h0 h1 => by have : k = 2 ∨ k = 3 ∨ k = 4 := (by omega); rcases this with rfl | rfl | rfl <;> decide) w h)
  have K0 : Hid (∀ C w, CalAt w C S4 → _) := Lib.hid (fun C w h => count_ok C S4 0 7 (by decide) (by decide) w h)
  rw [show cnt S4 0 7 = 4 from by decide] at K0
  have B0 : Hid (∀ C w, CalAt w C S4 → _) := Lib.hid (fun C w h => biz_any C S4 4 w h)
  rw [show bizB S4 4 = false from by decide] at B0
  have HT := Lib.hid hT
  have HP := Lib.hid hP
  clear hT hP
  go_enter Tryd.func19, Tryd.ntmps19
  go_wp2_with fail
  refine (O1.out _ HT.out).mono ?_
  rintro e w1 ⟨rfl, hb⟩
  have HB1 := Lib.hid hb
  clear hb
  go_wp2_with fail
  refine (O2.out _ (HT.out.call HB1.out)).mono ?_
  rintro e w2 ⟨rfl, hb⟩
  have HB2 := Lib.hid (beI HB1.out (Nat.le_refl _) hb)
  clear hb HB1
  go_wp2_with fail
  refine (NW.out w2).mono ?_
  rintro e w3 ⟨⟨C, rfl, hC⟩, hb⟩
  have HB3 := Lib.hid (beI (al2 HB2.out) (Nat.le_refl _) hb)
  have HC3 := Lib.hid hC
  clear hb HB2 hC
  go_wp2_with fail
  refine (W0.out _).mono ?_
  rintro e w4 ⟨rfl, hb⟩
  have HB4 := Lib.hid (beI HB3.out (Nat.le_refl _) hb)
  have HC4 := Lib.hid (HC3.out.call hb)
  clear hb HB3 HC3
  go_wp2_with fail
  refine (F0.out _ (HT.out.call HB4.out) (HP.out.call HB4.out)).mono ?_
  rintro e w5 ⟨rfl, hb⟩
  have HB5 := Lib.hid (beI HB4.out (Nat.le_refl _) hb)
  have HC5 := Lib.hid (HC4.out.call hb)
  clear hb HB4 HC4
  go_wp2_with fail
  refine (N0.out C _ HC5.out).mono ?_
  rintro e w6 ⟨rfl, hb⟩
  have HB6 := Lib.hid (beI HB5.out (Nat.le_refl _) hb)
  have HC6 := Lib.hid (HC5.out.call hb)
  clear hb HB5 HC5
  go_wp2_with fail
  refine (K0.out C _ HC6.out).mono ?_
  rintro e w7 ⟨rfl, hb⟩
  have HB7 := Lib.hid (beI HB6.out (Nat.le_refl _) hb)
  have HC7 := Lib.hid (HC6.out.call hb)
  clear hb HB6 HC6
  go_wp2_with fail
  refine (B0.out C _ HC7.out).mono ?_
  rintro e w8 ⟨rfl, hb⟩
  have HB8 := Lib.hid (beI HB7.out (Nat.le_refl _) hb)
  clear hb HB7 HC7
  go_wp2_with fail
  go_ret
  exact ⟨rfl, HB8.out⟩
end Go.Proofs.YtbfmfnfndmfeeaaDoor
