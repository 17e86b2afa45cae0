/- Split of both. -/
import Derived.Test.YtbfmfnfndmfeeaaDoorC
set_option linter.unusedVariables false
set_option linter.unusedSimpArgs false
namespace Go.Proofs.YtbfmfnfndmfeeaaDoor
open Go.Sort Go.ChangeShapes Go.WideShapes Go.ChangeAt Go.RowKit
open cal
theorem year_le {date k y : Int} (h : ys k ≤ date) (h2 : date < ys (y + 1)) : k ≤ y := by
  rcases Int.lt_or_le y k with g | g
  · have := ys_mono (show y + 1 ≤ k from g); omega
  · exact g

set_option maxHeartbeats 4000000 in
set_option maxRecDepth 20000 in
theorem split_ok {date y m d : Int} (h : IsSplit date y m d) (hd : bD date = true) (w : World) (hT : Tab w) :
    Calls Tryd.prog 11 #[.int .i64 date] w fun e w' => e = .returned (.tuple #[.int .i64 y, .int .i64 m, .int .i64 d]) ∧ Below w.heap.size w w' := by
  have HT := Lib.hid hT
  clear hT
  have HD : Hid (∀ w, _) := Lib.hid (fun w => isDate_any date w)
  obtain ⟨d0, d1⟩ := bD_true hd
  rw [hd] at HD
  clear hd
  obtain ⟨y0, y1, lo, hi, m0, m1, mlo, mhi, hday⟩ := h
  have HG := Lib.hid (ys_guess date d0)
  have HE := Lib.hid (Int.tdiv_eq_ediv_of_nonneg (b := 366) d0)
  have HLO := Lib.hid lo
  have HHI := Lib.hid hi
  have HML := Lib.hid mlo
  have HMH := Lib.hid mhi
  have HDAY := Lib.hid hday
  clear lo mlo mhi hday
  go_enter Tryd.func11, Tryd.ntmps11
  go_wp2_with fail
  refine (HD.out _).mono ?_
  rintro e w1 ⟨rfl, hb⟩
  have HB0 := Lib.hid hb
  clear hb
  go_wp2_with fail
  go_loopw [2] (fun s wr => ∃ k : Int, 1970 ≤ k ∧ k ≤ y ∧ s = .int .i64 k ∧ ys k ≤ date ∧ Below w.heap.size w wr) (fun s _ => (y - intOf s).toNat)
  case atStart => exact ⟨1970 + date / 366, by omega, year_le HG.out hi, rfl, HG.out, HB0.out⟩
  case round =>
    obtain ⟨k, hk0, hk1, rfl, hkd, hB⟩ := hrel
    have HB := Lib.hid hB
    have HKD := Lib.hid hkd
    clear hB hkd
    have HY : Hid (∀ w, _) := Lib.hid (fun w => yearStart_any (k + 1) (by omega) (by omega) w)
    obtain ⟨u0, u1⟩ := ys_in (show 1970 ≤ k + 1 by omega) (show k + 1 ≤ 2244 by omega)
    obtain ⟨U, hU⟩ : ∃ U, ys (k + 1) = U := ⟨_, rfl⟩
    rw [hU] at HY u0 u1
    have HU := Lib.hid hU
    clear hU hi
    by_cases hky : k < y
    · have hle : U ≤ date := by have a := ys_mono (show k + 1 ≤ y from hky); have b := HLO.out; have c := HU.out; omega
      go_wp2_with fail
      refine (HY.out _).mono ?_
      rintro e w1 ⟨rfl, hb⟩
      have HB1 := Lib.hid (beI HB.out (Nat.le_refl _) hb)
      clear hb
      go_wp2_with fail
      go_round
      case rel => exact ⟨k + 1, by omega, by omega, rfl, by rw [HU.out]; exact hle, HB1.out⟩
      case measure => simp [intOf]; omega
    · have hE : k = y := by omega
      subst hE
      have hgt : date < U := by have b := HHI.out; have c := HU.out; omega
      go_wp2_with fail
      refine (HY.out _).mono ?_
      rintro e w1 ⟨rfl, hb⟩
      have HB1 := Lib.hid (beI HB.out (Nat.le_refl _) hb)
      clear hb HB HY
      have HY : Hid (∀ w, _) := Lib.hid (fun w => yearStart_any k (by omega) (by omega) w)
      obtain ⟨v0, v1⟩ := ys_in (show 1970 ≤ k by omega) (show k ≤ 2244 by omega)
      obtain ⟨V, hV⟩ : ∃ V, ys k = V := ⟨_, rfl⟩
      have hv2 : V ≤ date := by have b := HLO.out; omega
      rw [hV] at HY v0 v1 HML HMH HDAY
      clear hV
      go_wp2_with fail
      refine (HY.out _).mono ?_
      rintro e w1 ⟨rfl, hb⟩
      have HB2 := Lib.hid (beI HB1.out (Nat.le_refl _) hb)
      clear hb HB1 HY HU hgt
      go_wp2_with fail
      go_loopw [3, 4] (fun s t wr => ∃ q R : Int, 1 ≤ q ∧ q ≤ m ∧ s = .int .i64 q ∧ t = .int .i64 (R + 1) ∧ R = date - V - cum k q ∧ 0 ≤ R ∧ Below w.heap.size w wr) (fun s _ _ => (m - intOf s).toNat)
      case atStart => exact ⟨1, date - V, by omega, m0, rfl, rfl, by rw [cum_first]; omega, by omega, HB2.out⟩
      case round =>
        obtain ⟨q, R, hq0, hq1, rfl, rfl, hR, hR0, hB⟩ := hrel
        have HB := Lib.hid hB
        have HR := Lib.hid hR
        clear hB hR
        have hR1 : R ≤ 99999 := by have a := HR.out; have b := (cum_in (y := k) hq0 (show q ≤ 13 by omega)).1; omega
        have HM : Hid (∀ w, Tab w → _) := Lib.hid (fun w hT => monthLength_any k q (by omega) hq0 (by omega) w hT)
        have HS := Lib.hid (cum_succ k q hq0)
        obtain ⟨l0, l1⟩ := ml_in k q
        obtain ⟨L, hL⟩ : ∃ L, ml k q = L := ⟨_, rfl⟩
        rw [hL] at HM HS l0 l1
        clear hL
        by_cases hqm : q < m
        · have hge : L ≤ R := by have a := cum_mono (y := k) (show 1 ≤ q + 1 by omega) (show q + 1 ≤ m from hqm); have b := HML.out; have c := HR.out; have e := HS.out; omega
          go_wp2_with fail
          refine (HM.out _ (HT.out.call HB.out)).mono ?_
          rintro e w1 ⟨rfl, hb⟩
          have HB3 := Lib.hid (beI HB.out (Nat.le_refl _) hb)
          clear hb HB
          go_wp2_with fail
          refine (HM.out _ (HT.out.call HB3.out)).mono ?_
          rintro e w1 ⟨rfl, hb⟩
          have HB4 := Lib.hid (beI HB3.out (Nat.le_refl _) hb)
          clear hb HB3
          go_wp2_with fail
          go_round
          case rel => exact ⟨q + 1, R - L, by omega, by omega, rfl, by congr 1; omega, by have c := HR.out; have e := HS.out; omega, by omega, HB4.out⟩
          case measure => simp [intOf]; omega
        · have hE : q = m := by omega
          subst hE
          have hlt : R < L := by have b := HMH.out; have c := HR.out; have e := HS.out; omega
          have hd9 : d = R + 1 := by have a := HDAY.out; have c := HR.out; omega
          subst hd9
          clear HDAY
          go_wp2_with fail
          refine (HM.out _ (HT.out.call HB.out)).mono ?_
          rintro e w1 ⟨rfl, hb⟩
          have HB9 := Lib.hid (beI HB.out (Nat.le_refl _) hb)
          clear hb HB
          go_wp2_with fail
          exact bodyPost_ret (v := .tuple #[.int .i64 _, .int .i64 _, .int .i64 _]) (by simp [results, Tryd.results11, go_sem]; exact ⟨rfl, rfl, rfl⟩) rfl ⟨by simp, HB9.out⟩
theorem split_no {date : Int} (hd : bD date = false) (w : World) :
    Calls Tryd.prog 11 #[.int .i64 date] w fun e w' => e = .returned (.tuple #[.int .i64 0, .int .i64 0, .int .i64 0]) ∧ Below w.heap.size w w' := by
  have HD : Hid (∀ w, _) := Lib.hid (fun w => isDate_any date w)
  rw [hd] at HD
  clear hd
  go_enter Tryd.func11, Tryd.ntmps11
  go_wp2_with fail
  refine (HD.out _).mono ?_
  rintro e w1 ⟨rfl, hb⟩
  have HB9 := Lib.hid hb
  clear hb
  go_wp2_with fail
  exact bodyPost_ret (v := .tuple #[.int .i64 0, .int .i64 0, .int .i64 0]) (by simp [results, Tryd.results11, go_sem]) rfl ⟨rfl, HB9.out⟩

set_option maxHeartbeats 4000000 in
set_option maxRecDepth 20000 in
theorem rsplit_ok {date y m d : Int} (h : IsSplit date y m d) (hd : bD date = true) (w : World) :
    Calls Tryd.prog 12 #[.int .i64 date] w fun e w' => e = .returned (.tuple #[.int .i64 y, .int .i64 m, .int .i64 d]) ∧ Below w.heap.size w w' := by
  have HD : Hid (∀ w, _) := Lib.hid (fun w => rIsDate_any date w)
  obtain ⟨d0, d1⟩ := bD_true hd
  rw [hd] at HD
  clear hd
  obtain ⟨y0, y1, lo, hi, m0, m1, mlo, mhi, hday⟩ := h
  have HG := Lib.hid (ys_guess date d0)
  have HE := Lib.hid (Int.tdiv_eq_ediv_of_nonneg (b := 366) d0)
  have HLO := Lib.hid lo
  have HHI := Lib.hid hi
  have HML := Lib.hid mlo
  have HMH := Lib.hid mhi
  have HDAY := Lib.hid hday
  clear lo mlo mhi hday
  go_enter Tryd.func12, Tryd.ntmps12
  go_wp2_with fail
  refine (HD.out _).mono ?_
  rintro e w1 ⟨rfl, hb⟩
  have HB0 := Lib.hid hb
  clear hb
  go_wp2_with fail
  go_loopw [5] (fun s wr => ∃ k : Int, 1970 ≤ k ∧ k ≤ y ∧ s = .int .i64 k ∧ ys k ≤ date ∧ Below w.heap.size w wr) (fun s _ => (y - intOf s).toNat)
  case atStart => exact ⟨1970, by omega, y0, rfl, by rw [ys_first]; exact d0, HB0.out⟩
  case round =>
    obtain ⟨k, hk0, hk1, rfl, hkd, hB⟩ := hrel
    have HB := Lib.hid hB
    have HKD := Lib.hid hkd
    clear hB hkd
    have HY : Hid (∀ w, _) := Lib.hid (fun w => before_any (k + 1) (by omega) (by omega) w)
    obtain ⟨u0, u1⟩ := ys_in (show 1970 ≤ k + 1 by omega) (show k + 1 ≤ 2244 by omega)
    obtain ⟨U, hU⟩ : ∃ U, ys (k + 1) = U := ⟨_, rfl⟩
    rw [hU] at HY u0 u1
    have HU := Lib.hid hU
    clear hU hi
    by_cases hky : k < y
    · have hle : U ≤ date := by have a := ys_mono (show k + 1 ≤ y from hky); have b := HLO.out; have c := HU.out; omega
      go_wp2_with fail
      refine (HY.out _).mono ?_
      rintro e w1 ⟨rfl, hb⟩
      have HB1 := Lib.hid (beI HB.out (Nat.le_refl _) hb)
      clear hb
      go_wp2_with fail
      go_round
      case rel => exact ⟨k + 1, by omega, by omega, rfl, by rw [HU.out]; exact hle, HB1.out⟩
      case measure => simp [intOf]; omega
    · have hE : k = y := by omega
      subst hE
      have hgt : date < U := by have b := HHI.out; have c := HU.out; omega
      go_wp2_with fail
      refine (HY.out _).mono ?_
      rintro e w1 ⟨rfl, hb⟩
      have HB1 := Lib.hid (beI HB.out (Nat.le_refl _) hb)
      clear hb HB HY
      have HY : Hid (∀ w, _) := Lib.hid (fun w => before_any k (by omega) (by omega) w)
      obtain ⟨v0, v1⟩ := ys_in (show 1970 ≤ k by omega) (show k ≤ 2244 by omega)
      obtain ⟨V, hV⟩ : ∃ V, ys k = V := ⟨_, rfl⟩
      have hv2 : V ≤ date := by have b := HLO.out; omega
      rw [hV] at HY v0 v1 HML HMH HDAY
      clear hV
      go_wp2_with fail
      refine (HY.out _).mono ?_
      rintro e w1 ⟨rfl, hb⟩
      have HB2 := Lib.hid (beI HB1.out (Nat.le_refl _) hb)
      clear hb HB1 HY HU hgt
      go_wp2_with fail
      go_loopw [6, 7] (fun t s wr => ∃ q R : Int, 1 ≤ q ∧ q ≤ m ∧ s = .int .i64 q ∧ t = .int .i64 R ∧ R = date - V - cum k q ∧ 0 ≤ R ∧ Below w.heap.size w wr) (fun _ s _ => (m - intOf s).toNat)
      case atStart => exact ⟨1, date - V, by omega, m0, rfl, rfl, by rw [cum_first]; omega, by omega, HB2.out⟩
      case round =>
        obtain ⟨q, R, hq0, hq1, rfl, rfl, hR, hR0, hB⟩ := hrel
        have HB := Lib.hid hB
        have HR := Lib.hid hR
        clear hB hR
        have hR1 : R ≤ 99999 := by have a := HR.out; have b := (cum_in (y := k) hq0 (show q ≤ 13 by omega)).1; omega
        have HM : Hid (∀ w, _) := Lib.hid (fun w => days_any k q (by omega) hq0 (by omega) w)
        have HS := Lib.hid (cum_succ k q hq0)
        obtain ⟨l0, l1⟩ := ml_in k q
        obtain ⟨L, hL⟩ : ∃ L, ml k q = L := ⟨_, rfl⟩
        rw [hL] at HM HS l0 l1
        clear hL
        by_cases hqm : q < m
        · have hge : L ≤ R := by have a := cum_mono (y := k) (show 1 ≤ q + 1 by omega) (show q + 1 ≤ m from hqm); have b := HML.out; have c := HR.out; have e := HS.out; omega
          go_wp2_with fail
          refine (HM.out _).mono ?_
          rintro e w1 ⟨rfl, hb⟩
          have HB3 := Lib.hid (beI HB.out (Nat.le_refl _) hb)
          clear hb HB
          go_wp2_with fail
          refine (HM.out _).mono ?_
          rintro e w1 ⟨rfl, hb⟩
          have HB4 := Lib.hid (beI HB3.out (Nat.le_refl _) hb)
          clear hb HB3
          go_wp2_with fail
          go_round
          case rel => exact ⟨q + 1, R - L, by omega, by omega, rfl, rfl, by have c := HR.out; have e := HS.out; omega, by omega, HB4.out⟩
          case measure => simp [intOf]; omega
        · have hE : q = m := by omega
          subst hE
          have hlt : R < L := by have b := HMH.out; have c := HR.out; have e := HS.out; omega
          have hd9 : d = R + 1 := by have a := HDAY.out; have c := HR.out; omega
          subst hd9
          clear HDAY
          go_wp2_with fail
          refine (HM.out _).mono ?_
          rintro e w1 ⟨rfl, hb⟩
          have HB9 := Lib.hid (beI HB.out (Nat.le_refl _) hb)
          clear hb HB
          go_wp2_with fail
          exact bodyPost_ret (v := .tuple #[.int .i64 _, .int .i64 _, .int .i64 _]) (by simp [results, Tryd.results12, go_sem]; exact ⟨rfl, rfl, rfl⟩) rfl ⟨by simp, HB9.out⟩
theorem rsplit_no {date : Int} (hd : bD date = false) (w : World) :
    Calls Tryd.prog 12 #[.int .i64 date] w fun e w' => e = .returned (.tuple #[.int .i64 0, .int .i64 0, .int .i64 0]) ∧ Below w.heap.size w w' := by
  have HD : Hid (∀ w, _) := Lib.hid (fun w => rIsDate_any date w)
  rw [hd] at HD
  clear hd
  go_enter Tryd.func12, Tryd.ntmps12
  go_wp2_with fail
  refine (HD.out _).mono ?_
  rintro e w1 ⟨rfl, hb⟩
  have HB9 := Lib.hid hb
  clear hb
  go_wp2_with fail
  exact bodyPost_ret (v := .tuple #[.int .i64 0, .int .i64 0, .int .i64 0]) (by simp [results, Tryd.results12, go_sem]) rfl ⟨rfl, HB9.out⟩
end Go.Proofs.YtbfmfnfndmfeeaaDoor
