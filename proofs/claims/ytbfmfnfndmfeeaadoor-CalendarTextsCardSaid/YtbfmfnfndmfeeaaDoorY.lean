/- CalendarTexts. -/
import Derived.Test.YtbfmfnfndmfeeaaDoorX
set_option linter.unusedVariables false
set_option linter.unusedSimpArgs false
namespace Go.Proofs.YtbfmfnfndmfeeaaDoor.calendarTexts
open Go.Sort Go.ChangeShapes Go.WideShapes Go.ChangeAt Go.RowKit
open cal
set_option maxHeartbeats 4000000 in
set_option maxRecDepth 20000 in
theorem walk (s : ByteArray) (w : World) (hs : s.size ≤ maxLen) (hT : Tab w) (hP : TabP w) :
    Calls Tryd.prog 7 #[.string s] w fun e w' => e = .returned (.bool true) ∧ Below w.heap.size w w' := by
  have HT := Lib.hid hT
  have HP := Lib.hid hP
  have AW : Hid (∀ w, Tab w → TabP w → _) := Lib.hid awake_any
  obtain ⟨a, E, P1, P2, F⟩ := parse_both s hs
  replace P1 := Lib.hid P1
  replace P2 := Lib.hid P2
  clear hT hP
  by_cases h100 : s.size ≤ 100
  · have hl : (s.size : Int) ≤ 100 := by omega
    by_cases hE : E = 0
    · subst hE
      replace F := Lib.hid (F rfl)
      clear hs
      go_enter Tryd.func7, Tryd.ntmps7
      go_wp2_with fail
      refine (P1.out _ HT.out).mono ?_
      rintro e v1 ⟨rfl, hb⟩
      have HB1 := Lib.hid (hb)
      clear hb
      go_wp2_with fail
      refine (P2.out _).mono ?_
      rintro e v2 ⟨rfl, hb⟩
      have HB2 := Lib.hid (beI HB1.out (Nat.le_refl _) hb)
      clear hb HB1
      go_wp2_with fail
      refine (F.out _ (HT.out.call HB2.out) (HP.out.call HB2.out)).mono ?_
      rintro e v3 ⟨rfl, hb⟩
      have HB3 := Lib.hid (beI HB2.out (Nat.le_refl _) hb)
      clear hb HB2
      go_wp2_with fail
      refine (AW.out _ (HT.out.call HB3.out) (HP.out.call HB3.out)).mono ?_
      rintro e v4 ⟨rfl, hb⟩
      have HB4 := Lib.hid (beI HB3.out (Nat.le_refl _) hb)
      clear hb HB3
      go_wp2_with fail
      go_ret
      exact ⟨rfl, HB4.out⟩
    · have hq : (E == 0) = false := beq_eq_false_iff_ne.2 hE
      have hq2 : (E != 0) = true := by simp only [bne, hq]; rfl
      clear hs F
      go_enter Tryd.func7, Tryd.ntmps7
      go_wp2_with fail
      refine (P1.out _ HT.out).mono ?_
      rintro e v1 ⟨rfl, hb⟩
      have HB1 := Lib.hid (hb)
      clear hb
      go_wp2_with fail
      refine (P2.out _).mono ?_
      rintro e v2 ⟨rfl, hb⟩
      have HB2 := Lib.hid (beI HB1.out (Nat.le_refl _) hb)
      clear hb HB1
      go_wp2_with fail
      refine (AW.out _ (HT.out.call HB2.out) (HP.out.call HB2.out)).mono ?_
      rintro e v4 ⟨rfl, hb⟩
      have HB4 := Lib.hid (beI HB2.out (Nat.le_refl _) hb)
      clear hb HB2
      go_wp2_with fail
      go_ret
      exact ⟨rfl, HB4.out⟩
  · have hl : 100 < (s.size : Int) := by omega
    clear hs F
    go_enter Tryd.func7, Tryd.ntmps7
    go_wp2_with fail
    refine (AW.out _ HT.out HP.out).mono ?_
    rintro e v4 ⟨rfl, hb⟩
    have HB4 := Lib.hid (hb)
    clear hb
    go_wp2_with fail
    go_ret
    exact ⟨rfl, HB4.out⟩
end Go.Proofs.YtbfmfnfndmfeeaaDoor.calendarTexts
