/- Format of both. -/
import Derived.Test.YtbfmfnfndmfeeaaDoorG
set_option linter.unusedVariables false
set_option linter.unusedSimpArgs false
namespace Go.Proofs.YtbfmfnfndmfeeaaDoor
open Go.Sort Go.ChangeShapes Go.WideShapes Go.ChangeAt Go.RowKit
open cal
def fmt (y m d : Int) : ByteArray := d4 y ++ ⟨#[45]⟩ ++ d2 m ++ ⟨#[45]⟩ ++ d2 d
set_option maxHeartbeats 1000000 in
theorem fmt_ok {date y m d : Int} (h : IsSplit date y m d) (hd : bD date = true) (w : World) (hT : Tab w) (hP : TabP w) :
    Calls Tryd.prog 17 #[.int .i64 date] w fun e w' => e = .returned (.string (fmt y m d)) ∧ Below w.heap.size w w' := by
  have HD : Hid (∀ w, _) := Lib.hid (fun w => isDate_any date w)
  have HS : Hid (∀ w, Tab w → _) := Lib.hid (fun w hT => split_ok h hd w hT)
  rw [hd] at HD
  have hd0 := h.d_in.1
  have hd1 : d ≤ 31 := Int.le_trans h.d_in.2 (ml_in y m).2
  have D1 : Hid (∀ w, TabP w → _) := Lib.hid (fun w hP => digits4 (n := y) (by have := h.y0; omega) (by have := h.y1; omega) w hP)
  have D2 : Hid (∀ w, TabP w → _) := Lib.hid (fun w hP => digits2 (n := m) (by have := h.m0; omega) (by have := h.m1; omega) w hP)
  have D3 : Hid (∀ w, TabP w → _) := Lib.hid (fun w hP => digits2 (n := d) (by omega) (by omega) w hP)
  have HT := Lib.hid hT
  have HP := Lib.hid hP
  unfold fmt
  have hs1 : (d4 y).size = 4 := rfl
  have hs2 : (d2 m).size = 2 := rfl
  have hs3 : (d2 d).size = 2 := rfl
  generalize d4 y = s1 at *
  generalize d2 m = s2 at *
  generalize d2 d = s3 at *
  clear hT hP h hd hd0 hd1
  go_enter Tryd.func17, Tryd.ntmps17
  go_wp2_with fail
  refine (HD.out _).mono ?_
  rintro e w1 ⟨rfl, hb⟩
  have HB1 := Lib.hid hb
  clear hb
  go_wp2_with fail
  refine (HS.out _ (HT.out.call HB1.out)).mono ?_
  rintro e w2 ⟨rfl, hb⟩
  have HB2 := Lib.hid (beI HB1.out (Nat.le_refl _) hb)
  clear hb HB1
  go_wp2_with fail
  refine (D1.out _ (HP.out.call HB2.out)).mono ?_
  rintro e w3 ⟨rfl, hb⟩
  have HB3 := Lib.hid (beI HB2.out (Nat.le_refl _) hb)
  clear hb HB2
  go_wp2_with fail
  refine (D2.out _ (HP.out.call HB3.out)).mono ?_
  rintro e w4 ⟨rfl, hb⟩
  have HB4 := Lib.hid (beI HB3.out (Nat.le_refl _) hb)
  clear hb HB3
  go_wp2_with fail
  refine (D3.out _ (HP.out.call HB4.out)).mono ?_
  rintro e w5 ⟨rfl, hb⟩
  have HB5 := Lib.hid (beI HB4.out (Nat.le_refl _) hb)
  clear hb HB4
  go_wp2_with fail
  go_ret
  exact ⟨rfl, HB5.out⟩
theorem fmt_no {date : Int} (hd : bD date = false) (w : World) :
    Calls Tryd.prog 17 #[.int .i64 date] w fun e w' => e = .returned (.string ⟨#[]⟩) ∧ Below w.heap.size w w' := by
  have HD : Hid (∀ w, _) := Lib.hid (fun w => isDate_any date w)
  rw [hd] at HD
  clear hd
  go_enter Tryd.func17, Tryd.ntmps17
  go_wp2_with fail
  refine (HD.out _).mono ?_
  rintro e w1 ⟨rfl, hb⟩
  have HB1 := Lib.hid hb
  clear hb
  go_wp2_with fail
  go_ret
  exact ⟨rfl, HB1.out⟩
set_option maxHeartbeats 1000000 in
theorem rfmt_ok {date y m d : Int} (h : IsSplit date y m d) (hd : bD date = true) (w : World) :
    Calls Tryd.prog 18 #[.int .i64 date] w fun e w' => e = .returned (.string (fmt y m d)) ∧ Below w.heap.size w w' := by
  have HS : Hid (∀ w, _) := Lib.hid (fun w => rsplit_ok h hd w)
  have hd0 := h.d_in.1
  have hd1 : d ≤ 31 := Int.le_trans h.d_in.2 (ml_in y m).2
  have D1 : Hid (∀ w, _) := Lib.hid (fun w => rdigits4 (n := y) (by have := h.y0; omega) (by have := h.y1; omega) w)
  have D2 : Hid (∀ w, _) := Lib.hid (fun w => rdigits2 (n := m) (by have := h.m0; omega) (by have := h.m1; omega) w)
  have D3 : Hid (∀ w, _) := Lib.hid (fun w => rdigits2 (n := d) (by omega) (by omega) w)
  have hy0 := h.y0
  have hyz : (y == 0) = false := by rw [beq_eq_false_iff_ne]; omega
  unfold fmt
  have hs1 : (d4 y).size = 4 := rfl
  have hs2 : (d2 m).size = 2 := rfl
  have hs3 : (d2 d).size = 2 := rfl
  generalize d4 y = s1 at *
  generalize d2 m = s2 at *
  generalize d2 d = s3 at *
  clear h hd hd0 hd1
  go_enter Tryd.func18, Tryd.ntmps18
  go_wp2_with fail
  refine (HS.out _).mono ?_
  rintro e w2 ⟨rfl, hb⟩
  have HB2 := Lib.hid hb
  clear hb
  go_wp2_with fail
  refine (D1.out _).mono ?_
  rintro e w3 ⟨rfl, hb⟩
  have HB3 := Lib.hid (beI HB2.out (Nat.le_refl _) hb)
  clear hb HB2
  go_wp2_with fail
  refine (D2.out _).mono ?_
  rintro e w4 ⟨rfl, hb⟩
  have HB4 := Lib.hid (beI HB3.out (Nat.le_refl _) hb)
  clear hb HB3
  go_wp2_with fail
  refine (D3.out _).mono ?_
  rintro e w5 ⟨rfl, hb⟩
  have HB5 := Lib.hid (beI HB4.out (Nat.le_refl _) hb)
  clear hb HB4
  go_wp2_with fail
  go_ret
  exact ⟨rfl, HB5.out⟩
theorem rfmt_no {date : Int} (hd : bD date = false) (w : World) :
    Calls Tryd.prog 18 #[.int .i64 date] w fun e w' => e = .returned (.string ⟨#[]⟩) ∧ Below w.heap.size w w' := by
  have HS : Hid (∀ w, _) := Lib.hid (fun w => rsplit_no hd w)
  clear hd
  go_enter Tryd.func18, Tryd.ntmps18
  go_wp2_with fail
  refine (HS.out _).mono ?_
  rintro e w1 ⟨rfl, hb⟩
  have HB1 := Lib.hid hb
  clear hb
  go_wp2_with fail
  go_ret
  exact ⟨rfl, HB1.out⟩
end Go.Proofs.YtbfmfnfndmfeeaaDoor
