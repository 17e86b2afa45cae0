/- CalendarTimes. -/
import Derived.Test.YtbfmfnfndmfeeaaDoorM
set_option linter.unusedVariables false
set_option linter.unusedSimpArgs false
namespace Go.Proofs.YtbfmfnfndmfeeaaDoor
open Go.Sort Go.ChangeShapes Go.WideShapes Go.ChangeAt Go.RowKit
open cal
theorem wf_i64 {a : Int} (h : (Lit.int .i64 a).wf = true) : -9223372036854775808 ≤ a ∧ a ≤ 9223372036854775807 := by simp [Lit.wf, IntKind.min, IntKind.max, IntKind.signed, IntKind.bits] at h; omega
namespace calendarTimes
set_option maxHeartbeats 2000000 in
theorem walk (t : Int) (w : World) (ht : (Lit.int .i64 t).wf = true) (hT : Tab w) (hP : TabP w) :
    Calls Tryd.prog 6 #[.int .i64 t] w fun e w' => e = .returned (.bool true) ∧ Below w.heap.size w w' := by
  have HT := Lib.hid hT
  have HP := Lib.hid hP
  have D1 : Hid (∀ w, _) := Lib.hid (fun w => day_any t w)
  have D2 : Hid (∀ w, _) := Lib.hid (fun w => rday_any t w)
  have AW : Hid (∀ w, Tab w → TabP w → _) := Lib.hid awake_any
  obtain ⟨t0, t1⟩ := wf_i64 ht
  clear hT hP ht
  unfold dyD dyS at D1 D2
  by_cases hk : dyOk t = true
  · have hk2 := hk
    unfold dyOk at hk2
    rw [Bool.and_eq_true] at hk2
    obtain ⟨k1, k2⟩ := hk2
    obtain ⟨q0, q1⟩ := bD_true k2
    have ST : Hid (∀ w, _) := Lib.hid (fun w => start_any (t / 86400) w)
    have hr0 : 0 ≤ t % 86400 := by omega
    have hr1 : t % 86400 < 86400 := by omega
    have hs : t / 86400 * 86400 + t % 86400 = t := by omega
    unfold stV stE at ST
    rw [k2, if_pos rfl, if_pos rfl] at ST
    rw [if_pos hk, if_pos hk] at D1 D2
    clear hk k1 k2
    generalize t / 86400 = Q at *
    generalize t % 86400 = R at *
    have hs2 : ((Q * 86400 + R : Int) == t) = true := by rw [hs]; exact beq_self_eq_true _
    clear hs
    go_enter Tryd.func6, Tryd.ntmps6
    go_wp2_with fail
    refine (D1.out _).mono ?_
    rintro e v1 ⟨rfl, hb⟩
    have HB1 := Lib.hid (hb)
    clear hb
    go_wp2_with fail
    refine (D2.out _).mono ?_
    rintro e v2 ⟨rfl, hb⟩
    have HB2 := Lib.hid (beI HB1.out (Nat.le_refl _) hb)
    clear hb HB1
    go_wp2_with fail
    refine (ST.out _).mono ?_
    rintro e v3 ⟨rfl, hb⟩
    have HB3 := Lib.hid (beI HB2.out (Nat.le_refl _) hb)
    clear hb HB2
    go_wp2_with fail
    refine (AW.out _ (HT.out.call HB3.out) (HP.out.call HB3.out)).mono ?_
    rintro e v4 ⟨rfl, hb⟩
    have HB4 := Lib.hid (beI HB3.out (Nat.le_refl _) hb)
    clear hb HB3
    go_wp2_with fail
    go_ret
    exact ⟨rfl, HB4.out⟩
  · rw [if_neg hk, if_neg hk] at D1 D2
    clear hk
    go_enter Tryd.func6, Tryd.ntmps6
    go_wp2_with fail
    refine (D1.out _).mono ?_
    rintro e v1 ⟨rfl, hb⟩
    have HB1 := Lib.hid (hb)
    clear hb
    go_wp2_with fail
    refine (D2.out _).mono ?_
    rintro e v2 ⟨rfl, hb⟩
    have HB2 := Lib.hid (beI HB1.out (Nat.le_refl _) hb)
    clear hb HB1
    go_wp2_with fail
    refine (AW.out _ (HT.out.call HB2.out) (HP.out.call HB2.out)).mono ?_
    rintro e v4 ⟨rfl, hb⟩
    have HB4 := Lib.hid (beI HB2.out (Nat.le_refl _) hb)
    clear hb HB2
    go_wp2_with fail
    go_ret
    exact ⟨rfl, HB4.out⟩
end calendarTimes
namespace calendarMonths
set_option maxHeartbeats 2000000 in
theorem walk (d n : Int) (w : World) (hd : (Lit.int .i64 d).wf = true) (hn : (Lit.int .i64 n).wf = true) (hT : Tab w) (hP : TabP w) :
    Calls Tryd.prog 5 #[.int .i64 d, .int .i64 n] w fun e w' => e = .returned (.bool true) ∧ Below w.heap.size w w' := by
  have HT := Lib.hid hT
  have HP := Lib.hid hP
  obtain ⟨V, E, D1, D2⟩ := add_both d n
  replace D1 := Lib.hid D1
  replace D2 := Lib.hid D2
  have AW : Hid (∀ w, Tab w → TabP w → _) := Lib.hid awake_any
  clear hT hP hd hn
  go_enter Tryd.func5, Tryd.ntmps5
  go_wp2_with fail
  refine (D1.out _ HT.out).mono ?_
  rintro e v1 ⟨rfl, hb⟩
  have HB1 := Lib.hid (hb)
  clear hb
  go_wp2_with fail
  refine (D2.out _).mono ?_
  rintro e v2 ⟨rfl, hb⟩
  have HB2 := Lib.hid (beI HB1.out (Nat.le_refl _) hb)
  clear hb HB1
  go_wp2_with fail
  refine (AW.out _ (HT.out.call HB2.out) (HP.out.call HB2.out)).mono ?_
  rintro e v4 ⟨rfl, hb⟩
  have HB4 := Lib.hid (beI HB2.out (Nat.le_refl _) hb)
  clear hb HB2
  go_wp2_with fail
  go_ret
  exact ⟨rfl, HB4.out⟩
end calendarMonths
theorem rstart_any (d : Int) (w : World) : Calls Tryd.prog 14 #[.int .i64 d] w fun e w' => e = .returned (.tuple #[.int .i64 (stV d), .int .i64 (stE d)]) ∧ Below w.heap.size w w' := by
  have HL : Hid (∀ w, _) := Lib.hid (fun w => rIsDate_any d w)
  unfold stV stE
  by_cases hd : bD d = true
  · obtain ⟨h0, h1⟩ := bD_true hd
    rw [hd] at HL ⊢
    go_enter Tryd.func14, Tryd.ntmps14
    go_wp2_with fail
    refine (HL.out _).mono ?_
    rintro e w1 ⟨rfl, hb⟩
    obtain ⟨d1, o1, rfl⟩ := regrow_of hb
    go_wp2_with fail
    exact bodyPost_ret (v := .tuple #[.int .i64 _, .int .i64 _]) (by simp [results, Tryd.results14, go_sem]; exact ⟨rfl, rfl⟩) rfl ⟨by simp, below_regrown _ _ _⟩
  · rw [Bool.not_eq_true] at hd
    rw [hd] at HL ⊢
    go_enter Tryd.func14, Tryd.ntmps14
    go_wp2_with fail
    refine (HL.out _).mono ?_
    rintro e w1 ⟨rfl, hb⟩
    obtain ⟨d1, o1, rfl⟩ := regrow_of hb
    go_wp2_with fail
    exact bodyPost_ret (v := .tuple #[.int .i64 _, .int .i64 _]) (by simp [results, Tryd.results14, go_sem]; exact ⟨rfl, rfl⟩) rfl ⟨by simp, below_regrown _ _ _⟩
theorem split_both (date : Int) : ∃ y m d : Int, (∀ w, Tab w → Calls Tryd.prog 11 #[.int .i64 date] w fun e w' => e = .returned (.tuple #[.int .i64 y, .int .i64 m, .int .i64 d]) ∧ Below w.heap.size w w') ∧
    (∀ w, Calls Tryd.prog 12 #[.int .i64 date] w fun e w' => e = .returned (.tuple #[.int .i64 y, .int .i64 m, .int .i64 d]) ∧ Below w.heap.size w w') := by
  by_cases hd : bD date = true
  · obtain ⟨y, m, d, h⟩ := bD_split hd
    exact ⟨y, m, d, fun w hT => split_ok h hd w hT, fun w => rsplit_ok h hd w⟩
  · rw [Bool.not_eq_true] at hd
    exact ⟨0, 0, 0, fun w _ => split_no hd w, fun w => rsplit_no hd w⟩
theorem fmt_both (date : Int) : ∃ s : ByteArray, (∀ w, Tab w → TabP w → Calls Tryd.prog 17 #[.int .i64 date] w fun e w' => e = .returned (.string s) ∧ Below w.heap.size w w') ∧
    (∀ w, Calls Tryd.prog 18 #[.int .i64 date] w fun e w' => e = .returned (.string s) ∧ Below w.heap.size w w') := by
  by_cases hd : bD date = true
  · obtain ⟨y, m, d, h⟩ := bD_split hd
    exact ⟨_, fun w hT hP => fmt_ok h hd w hT hP, fun w => rfmt_ok h hd w⟩
  · rw [Bool.not_eq_true] at hd
    exact ⟨_, fun w _ _ => fmt_no hd w, fun w => rfmt_no hd w⟩
namespace calendarParts
set_option maxHeartbeats 4000000 in
set_option maxRecDepth 100000 in
theorem walk (y m d x : Int) (w : World) (hy : (Lit.int .i64 y).wf = true) (hm : (Lit.int .i64 m).wf = true) (hd : (Lit.int .i64 d).wf = true) (hx : (Lit.int .i64 x).wf = true) (hT : Tab w) (hP : TabP w) :
    Calls Tryd.prog 3 #[.int .i64 y, .int .i64 m, .int .i64 d, .int .i64 x] w fun e w' => e = .returned (.bool true) ∧ Below w.heap.size w w' := by
  have HT := Lib.hid hT
  have HP := Lib.hid hP
  have O1 : Hid (∀ w, Tab w → _) := Lib.hid (fun w h => of_any y m d w h)
  have O2 : Hid (∀ w, _) := Lib.hid (fun w => rof_any y m d w)
  obtain ⟨p, q, r, S1, S2⟩ := split_both x
  replace S1 := Lib.hid S1
  replace S2 := Lib.hid S2
  obtain ⟨s, F1, F2⟩ := fmt_both x
  replace F1 := Lib.hid F1
  replace F2 := Lib.hid F2
  have A1 : Hid (∀ w, _) := Lib.hid (fun w => start_any x w)
  have A2 : Hid (∀ w, _) := Lib.hid (fun w => rstart_any x w)
  have W1 : Hid (∀ w, _) := Lib.hid (fun w => weekday_any x w)
  have W2 : Hid (∀ w, _) := Lib.hid (fun w => rweekday_any x w)
  have AW : Hid (∀ w, Tab w → TabP w → _) := Lib.hid awake_any
  generalize ofV y m d = V at *
  generalize ofE y m d = E at *
  generalize stV x = V2 at *
  generalize stE x = E2 at *
  generalize wkV x = k at *
  clear hT hP hd hy hm hx
  go_enter Tryd.func3, Tryd.ntmps3
  go_wp2_with fail
  refine (O1.out _ HT.out).mono ?_
  rintro e v1 ⟨rfl, hb⟩
  have HB1 := Lib.hid (hb)
  clear hb
  go_wp2_with fail
  refine (O2.out _).mono ?_
  rintro e v2 ⟨rfl, hb⟩
  have HB2 := Lib.hid (beI HB1.out (Nat.le_refl _) hb)
  clear hb HB1
  go_wp2_with fail
  refine (S1.out _ (HT.out.call HB2.out)).mono ?_
  rintro e v3 ⟨rfl, hb⟩
  have HB3 := Lib.hid (beI HB2.out (Nat.le_refl _) hb)
  clear hb HB2
  go_wp2_with fail
  refine (S2.out _).mono ?_
  rintro e v4 ⟨rfl, hb⟩
  have HB4 := Lib.hid (beI HB3.out (Nat.le_refl _) hb)
  clear hb HB3
  go_wp2_with fail
  refine (A1.out _).mono ?_
  rintro e v5 ⟨rfl, hb⟩
  have HB5 := Lib.hid (beI HB4.out (Nat.le_refl _) hb)
  clear hb HB4
  go_wp2_with fail
  refine (A2.out _).mono ?_
  rintro e v6 ⟨rfl, hb⟩
  have HB6 := Lib.hid (beI HB5.out (Nat.le_refl _) hb)
  clear hb HB5
  go_wp2_with fail
  refine (W1.out _).mono ?_
  rintro e v7 ⟨rfl, hb⟩
  have HB7 := Lib.hid (beI HB6.out (Nat.le_refl _) hb)
  clear hb HB6
  go_wp2_with fail
  refine (W2.out _).mono ?_
  rintro e v8 ⟨rfl, hb⟩
  have HB8 := Lib.hid (beI HB7.out (Nat.le_refl _) hb)
  clear hb HB7
  go_wp2_with fail
  refine (F1.out _ (HT.out.call HB8.out) (HP.out.call HB8.out)).mono ?_
  rintro e v9 ⟨rfl, hb⟩
  have HB9 := Lib.hid (beI HB8.out (Nat.le_refl _) hb)
  clear hb HB8
  go_wp2_with fail
  refine (F2.out _).mono ?_
  rintro e v10 ⟨rfl, hb⟩
  have HC1 := Lib.hid (beI HB9.out (Nat.le_refl _) hb)
  clear hb HB9
  go_wp2_with fail
  refine (AW.out _ (HT.out.call HC1.out) (HP.out.call HC1.out)).mono ?_
  rintro e v11 ⟨rfl, hb⟩
  have HC2 := Lib.hid (beI HC1.out (Nat.le_refl _) hb)
  clear hb HC1
  go_wp2_with fail
  go_ret
  exact ⟨rfl, HC2.out⟩
end calendarParts
end Go.Proofs.YtbfmfnfndmfeeaaDoor
