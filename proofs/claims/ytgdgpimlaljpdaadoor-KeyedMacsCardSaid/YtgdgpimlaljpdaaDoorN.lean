/- The example; the walks of the four. -/
import Derived.Test.YtgdgpimlaljpdaaDoorM
set_option linter.unusedVariables false
set_option linter.unusedSimpArgs false
namespace Go.Proofs.YtgdgpimlaljpdaaDoor
open Go.Sort Go.ChangeShapes Go.WideShapes Go.ChangeAt Go.RowKit
theorem cd1 : cdS 12345 3 = ⟨#[51, 52, 53]⟩ := by decide +kernel
theorem cd2 : cdS 7 4 = ⟨#[48, 48, 48, 55]⟩ := by decide +kernel
theorem cd3 : cdS 5 13 = ⟨#[]⟩ := by decide +kernel
def ff : ByteArray := ⟨#[48, 48, 48, 48, 48, 48, 48, 48, 48, 48, 48, 48, 48, 48, 102, 102]⟩
theorem nb1 : nbV ff = 255 := by decide +kernel
theorem nb2 : nbE ff = 0 := by decide +kernel
theorem tx1 : txt 255 = ff := by decide +kernel
theorem vf1 : vfB 1 ⟨#[97]⟩ ⟨#[]⟩ = false := by
  unfold vfB
  rw [show (cdE ((⟨#[]⟩ : ByteArray).size : Nat) == 0) = false from by decide +kernel]
  rfl
set_option maxHeartbeats 2000000 in
set_option maxRecDepth 20000 in
theorem awake_any (w : World) (hP : TabP w) (hT : TZ w) : Calls Tryd.prog 7 #[] w fun e w' => e = .returned (.bool true) ∧ Below w.heap.size w w' := by
  have C1 : Hid (∀ w, TabP w → _) := Lib.hid (fun w h => code_any 12345 (by decide) 3 w h)
  have C2 : Hid (∀ w, TabP w → _) := Lib.hid (fun w h => code_any 7 (by decide) 4 w h)
  have C3 : Hid (∀ w, TabP w → _) := Lib.hid (fun w h => code_any 5 (by decide) 13 w h)
  rw [cd1, show cdE 3 = 0 from by decide] at C1
  rw [cd2, show cdE 4 = 0 from by decide] at C2
  rw [cd3, show cdE 13 = 4 from by decide] at C3
  have N1 : Hid (∀ w, _) := Lib.hid (fun w => number_any ff w (by decide))
  rw [nb1, nb2] at N1
  have T1 : Hid (∀ w, TZ w → _) := Lib.hid (fun w h => text_any 255 (by decide) w h)
  rw [tx1] at T1
  unfold ff at *
  have V1 : Hid (∀ w, TabP w → _) := Lib.hid (fun w h => verify_any 1 (by decide) ⟨#[97]⟩ (by decide) ⟨#[]⟩ (by decide) w h)
  rw [vf1] at V1
  have HP := Lib.hid hP
  have HT := Lib.hid hT
  clear hP hT
  go_enter Tryd.func7, Tryd.ntmps7
  go_wp2_with fail
  refine (C1.out _ HP.out).mono ?_
  rintro e w1 ⟨rfl, hb⟩
  have HB1 := Lib.hid hb
  clear hb
  go_wp2_with fail
  refine (C2.out _ (HP.out.call HB1.out)).mono ?_
  rintro e w2 ⟨rfl, hb⟩
  have HB2 := Lib.hid (beI HB1.out (Nat.le_refl _) hb)
  clear hb
  go_wp2_with fail
  refine (C3.out _ (HP.out.call HB2.out)).mono ?_
  rintro e w3 ⟨rfl, hb⟩
  have HB3 := Lib.hid (beI HB2.out (Nat.le_refl _) hb)
  clear hb
  go_wp2_with fail
  refine (N1.out _).mono ?_
  rintro e w4 ⟨rfl, hb⟩
  have HB4 := Lib.hid (beI HB3.out (Nat.le_refl _) hb)
  clear hb
  go_wp2_with fail
  refine (T1.out _ (HT.out.call HB4.out)).mono ?_
  rintro e w5 ⟨rfl, hb⟩
  have HB5 := Lib.hid (beI HB4.out (Nat.le_refl _) hb)
  clear hb
  go_wp2_with fail
  refine (V1.out _ (HP.out.call HB5.out)).mono ?_
  rintro e w6 ⟨rfl, hb⟩
  have HB6 := Lib.hid (beI HB5.out (Nat.le_refl _) hb)
  clear hb
  go_wp2_with fail
  go_ret
  exact ⟨rfl, HB6.out⟩
end Go.Proofs.YtgdgpimlaljpdaaDoor
