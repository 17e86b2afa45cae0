/- CalendarDates. -/
import Derived.Test.YtbfmfnfndmfeeaaDoorT
import Derived.Test.YtbfmfnfndmfeeaaDoorR
set_option linter.unusedVariables false
set_option linter.unusedSimpArgs false
namespace Go.Proofs.YtbfmfnfndmfeeaaDoor
open Go.Sort Go.ChangeShapes Go.WideShapes Go.ChangeAt Go.RowKit
open cal
theorem cal.IsSplit.ok {date y m d : Int} (h : IsSplit date y m d) (h1 : date ≤ 99999) : ofV y m d = date ∧ ofE y m d = 0 := by
  have hk : ofOk y m d = true := by
    refine decide_eq_true ⟨h.y0, h.y1, h.m0, h.m1, h.d_in.1, h.d_in.2, ?_⟩
    have := h.day
    omega
  unfold ofV ofE
  rw [if_pos hk, if_pos hk]
  exact ⟨by have := h.day; omega, rfl⟩
/-- the date after it -/
theorem next_split {date y m d : Int} (h : IsSplit date y m d) (h1 : date < 99999) :
    ∃ p q r, IsSplit (date + 1) p q r ∧ ((p = y ∧ q = m ∧ r = d + 1) ∨ (p = y ∧ q = m + 1 ∧ r = 1 ∧ 28 ≤ d) ∨ (p = y + 1 ∧ q = 1 ∧ r = 1 ∧ m = 12 ∧ d = 31)) := by
  obtain ⟨y0, y1, lo, hi, m0, m1, mlo, mhi, hday⟩ := h
  have hs := ys_succ y
  have hc := cum_year y
  have hm := cum_succ y m m0
  have hl := ml_in y m
  by_cases a : date + 1 - ys y < cum y (m + 1)
  · have hlt : date + 1 < ys (y + 1) := by
      have := cum_mono (y := y) (show 1 ≤ m + 1 by omega) (show m + 1 ≤ 13 by omega)
      omega
    exact ⟨y, m, d + 1, ⟨y0, y1, by omega, hlt, m0, m1, by omega, a, by omega⟩, .inl ⟨rfl, rfl, rfl⟩⟩
  · by_cases b : m < 12
    · have h2 := cum_succ y (m + 1) (by omega)
      have h3 := ml_in y (m + 1)
      have hlt : date + 1 < ys (y + 1) := by
        have := cum_mono (y := y) (show 1 ≤ m + 1 + 1 by omega) (show m + 1 + 1 ≤ 13 by omega)
        omega
      exact ⟨y, m + 1, 1, ⟨y0, y1, by omega, hlt, by omega, by omega, by omega, by omega, by omega⟩, .inr (.inl ⟨rfl, rfl, rfl, by omega⟩)⟩
    · have hm12 : m = 12 := by omega
      subst hm12
      have he : date + 1 = ys (y + 1) := by
        have e13 : (12 : Int) + 1 = 13 := rfl
        rw [e13] at a mhi
        omega
      have hy : y + 1 ≤ 2243 := by
        rcases Int.lt_or_le (y + 1) 2244 with g | g
        · omega
        · have := ys_mono g; rw [ys_last] at this; omega
      have hs2 := ys_succ (y + 1)
      have hp := lp1_in (y + 1)
      have hc1 := cum_succ (y + 1) 1 (by decide)
      have hc0 := cum_first (y + 1)
      have hl1 := ml_in (y + 1) 1
      have hl12 : ml y 12 = 31 := by unfold ml len0; simp
      exact ⟨y + 1, 1, 1, ⟨by omega, hy, by omega, by omega, by decide, by decide, by omega, by omega, by omega⟩, .inr (.inr ⟨rfl, rfl, rfl, rfl, by
        have e13 : (12 : Int) + 1 = 13 := rfl
        rw [e13] at hm a
        omega⟩)⟩
theorem c1_dgt : ∀ r : Nat, r < 10 → dgt (c1 r) = true ∧ dv (c1 r) = r := by
  intro r h
  have : r = 0 ∨ r = 1 ∨ r = 2 ∨ r = 3 ∨ r = 4 ∨ r = 5 ∨ r = 6 ∨ r = 7 ∨ r = 8 ∨ r = 9 := by omega
  rcases this with rfl | rfl | rfl | rfl | rfl | rfl | rfl | rfl | rfl | rfl <;> decide
theorem parse_fmt {date y m d : Int} (h : IsSplit date y m d) (h1 : date ≤ 99999) (w : World) (hT : Tab w) :
    Calls Tryd.prog 20 #[.string (fmt y m d)] w fun e w' => e = .returned (.tuple #[.int .i64 date, .int .i64 0]) ∧ Below w.heap.size w w' := by
  have hd0 := h.d_in.1
  have hd1 : d ≤ 31 := Int.le_trans h.d_in.2 (ml_in y m).2
  have y0 := h.y0
  have y1 := h.y1
  have m0 := h.m0
  have m1 := h.m1
  obtain ⟨a0, e0⟩ := c1_dgt (y.toNat / 1000) (by omega)
  obtain ⟨a1, e1⟩ := c1_dgt (y.toNat / 100 % 10) (by omega)
  obtain ⟨a2, e2⟩ := c1_dgt (y.toNat / 10 % 10) (by omega)
  obtain ⟨a3, e3⟩ := c1_dgt (y.toNat % 10) (by omega)
  obtain ⟨a5, e5⟩ := c1_dgt (m.toNat / 10) (by omega)
  obtain ⟨a6, e6⟩ := c1_dgt (m.toNat % 10) (by omega)
  obtain ⟨a8, e8⟩ := c1_dgt (d.toNat / 10) (by omega)
  obtain ⟨a9, e9⟩ := c1_dgt (d.toNat % 10) (by omega)
  have hf := parse_ok _ _ _ _ 45 _ _ 45 _ _ rfl rfl a0 a1 a2 a3 a5 a6 a8 a9 w hT
  rw [e0, e1, e2, e3, e5, e6, e8, e9] at hf
  rw [show ((y.toNat / 1000 : Nat) : Int) * 1000 + ((y.toNat / 100 % 10 : Nat) : Int) * 100 + ((y.toNat / 10 % 10 : Nat) : Int) * 10 + ((y.toNat % 10 : Nat) : Int) = y by omega,
    show ((m.toNat / 10 : Nat) : Int) * 10 + ((m.toNat % 10 : Nat) : Int) = m by omega, show ((d.toNat / 10 : Nat) : Int) * 10 + ((d.toNat % 10 : Nat) : Int) = d by omega, (h.ok h1).1, (h.ok h1).2] at hf
  exact hf
namespace calendarDates
set_option maxHeartbeats 4000000 in
set_option maxRecDepth 100000 in
theorem walk (x : Int) (w : World) (hx : (Lit.int .i64 x).wf = true) (hT : Tab w) (hP : TabP w) :
    Calls Tryd.prog 4 #[.int .i64 x] w fun e w' => e = .returned (.bool true) ∧ Below w.heap.size w w' := by
  have HT := Lib.hid hT
  have HP := Lib.hid hP
  have AW : Hid (∀ w, Tab w → TabP w → _) := Lib.hid awake_any
  have W1 : Hid (∀ w, _) := Lib.hid (fun w => weekday_any x w)
  clear hT hP
  cases hb : bD x with
  | false =>
    have S1 : Hid (∀ w, _) := Lib.hid (fun w => split_no hb w)
    have F1 : Hid (∀ w, _) := Lib.hid (fun w => fmt_no hb w)
    unfold wkV at W1
    rw [hb, if_neg (by decide)] at W1
    have hcase : x < 0 ∨ (0 ≤ x ∧ 99999 < x) := by simp [bD] at hb; omega
    clear hb hx
    rcases hcase with g | ⟨g, g2⟩
    all_goals go_enter Tryd.func4, Tryd.ntmps4
    all_goals go_wp2_with fail
    all_goals refine (S1.out _).mono ?_
    all_goals rintro e v1 ⟨rfl, hb⟩
    all_goals have HB1 := Lib.hid (hb)
    all_goals clear hb
    all_goals go_wp2_with fail
    all_goals refine (F1.out _).mono ?_
    all_goals rintro e v2 ⟨rfl, hb⟩
    all_goals have HB2 := Lib.hid (beI HB1.out (Nat.le_refl _) hb)
    all_goals clear hb
    all_goals go_wp2_with fail
    all_goals refine (W1.out _).mono ?_
    all_goals rintro e v3 ⟨rfl, hb⟩
    all_goals have HB3 := Lib.hid (beI HB2.out (Nat.le_refl _) hb)
    all_goals clear hb
    all_goals go_wp2_with fail
    all_goals refine (AW.out _ (HT.out.call HB3.out) (HP.out.call HB3.out)).mono ?_
    all_goals rintro e v4 ⟨rfl, hb⟩
    all_goals have HB4 := Lib.hid (beI HB3.out (Nat.le_refl _) hb)
    all_goals clear hb
    all_goals go_wp2_with fail
    all_goals go_ret
    all_goals exact ⟨rfl, HB4.out⟩
  | true =>
    obtain ⟨x0, x1⟩ := bD_true hb
    obtain ⟨y, m, d, h⟩ := bD_split hb
    have S1 : Hid (∀ w, Tab w → _) := Lib.hid (fun w hT => split_ok h hb w hT)
    have F1 : Hid (∀ w, Tab w → TabP w → _) := Lib.hid (fun w hT hP => fmt_ok h hb w hT hP)
    have P1 : Hid (∀ w, Tab w → _) := Lib.hid (fun w hT => parse_fmt h x1 w hT)
    have O1 : Hid (∀ w, Tab w → _) := Lib.hid (fun w hT => of_any y m d w hT)
    rw [(h.ok x1).1, (h.ok x1).2] at O1
    unfold wkV at W1
    rw [hb, if_pos rfl] at W1
    generalize fmt y m d = s at *
    have y0 := h.y0
    have y1 := h.y1
    have m0 := h.m0
    have m1 := h.m1
    have d0 := h.d_in.1
    have d1 : d ≤ 31 := Int.le_trans h.d_in.2 (ml_in y m).2
    by_cases hlast : x = 99999
    · clear h hb hx
      subst hlast
      go_enter Tryd.func4, Tryd.ntmps4
      go_wp2_with fail
      refine (S1.out _ HT.out).mono ?_
      rintro e v1 ⟨rfl, hb⟩
      have HB1 := Lib.hid (hb)
      clear hb
      go_wp2_with fail
      refine (O1.out _ (HT.out.call HB1.out)).mono ?_
      rintro e v2 ⟨rfl, hb⟩
      have HB2 := Lib.hid (beI HB1.out (Nat.le_refl _) hb)
      clear hb HB1
      go_wp2_with fail
      refine (F1.out _ (HT.out.call HB2.out) (HP.out.call HB2.out)).mono ?_
      rintro e v3 ⟨rfl, hb⟩
      have HB3 := Lib.hid (beI HB2.out (Nat.le_refl _) hb)
      clear hb HB2
      go_wp2_with fail
      refine (P1.out _ (HT.out.call HB3.out)).mono ?_
      rintro e v4 ⟨rfl, hb⟩
      have HB4 := Lib.hid (beI HB3.out (Nat.le_refl _) hb)
      clear hb HB3
      go_wp2_with fail
      refine (AW.out _ (HT.out.call HB4.out) (HP.out.call HB4.out)).mono ?_
      rintro e v5 ⟨rfl, hb⟩
      have HB5 := Lib.hid (beI HB4.out (Nat.le_refl _) hb)
      clear hb HB4
      go_wp2_with fail
      go_ret
      exact ⟨rfl, HB5.out⟩
    · have hlt : x < 99999 := by omega
      have hne : (x == 99999) = false := beq_eq_false_iff_ne.2 hlast
      have hb2 : bD (x + 1) = true := by simp [bD]; omega
      obtain ⟨p, q, r, h2, hrel⟩ := next_split h hlt
      have S2 : Hid (∀ w, Tab w → _) := Lib.hid (fun w hT => split_ok h2 hb2 w hT)
      have W2 : Hid (∀ w, _) := Lib.hid (fun w => weekday_any (x + 1) w)
      unfold wkV at W2
      rw [hb2, if_pos rfl] at W2
      have ewk : (x + 1 + 3) % 7 = ((x + 3) % 7 + 1) % 7 := by omega
      rw [ewk] at W2
      have k0 : 0 ≤ (x + 3) % 7 := by omega
      have k1 : (x + 3) % 7 ≤ 6 := by omega
      generalize (x + 3) % 7 = k at *
      have e1 := Int.tmod_eq_emod_of_nonneg (b := 7) (show 0 ≤ k + 1 by omega)
      clear h h2 hb hb2 hx ewk hlast
      rcases hrel with ⟨rfl, rfl, rfl⟩ | ⟨rfl, rfl, rfl, h28⟩ | ⟨rfl, rfl, rfl, rfl, rfl⟩
      · have z1 : (q == q + 1) = false := by rw [beq_eq_false_iff_ne]; omega
        have z2 : (p == p + 1) = false := by rw [beq_eq_false_iff_ne]; omega
        go_enter Tryd.func4, Tryd.ntmps4
        go_wp2_with fail
        refine (S1.out _ HT.out).mono ?_
        rintro e v1 ⟨rfl, hb⟩
        have HB1 := Lib.hid (hb)
        clear hb
        go_wp2_with fail
        refine (O1.out _ (HT.out.call HB1.out)).mono ?_
        rintro e v2 ⟨rfl, hb⟩
        have HB2 := Lib.hid (beI HB1.out (Nat.le_refl _) hb)
        clear hb HB1
        go_wp2_with fail
        refine (F1.out _ (HT.out.call HB2.out) (HP.out.call HB2.out)).mono ?_
        rintro e v3 ⟨rfl, hb⟩
        have HB3 := Lib.hid (beI HB2.out (Nat.le_refl _) hb)
        clear hb HB2
        go_wp2_with fail
        refine (P1.out _ (HT.out.call HB3.out)).mono ?_
        rintro e v4 ⟨rfl, hb⟩
        have HB4 := Lib.hid (beI HB3.out (Nat.le_refl _) hb)
        clear hb HB3
        go_wp2_with fail
        refine (S2.out _ (HT.out.call HB4.out)).mono ?_
        rintro e v5 ⟨rfl, hb⟩
        have HB5 := Lib.hid (beI HB4.out (Nat.le_refl _) hb)
        clear hb HB4
        go_wp2_with fail
        refine (W2.out _).mono ?_
        rintro e v6 ⟨rfl, hb⟩
        have HB6 := Lib.hid (beI HB5.out (Nat.le_refl _) hb)
        clear hb HB5
        go_wp2_with fail
        refine (W1.out _).mono ?_
        rintro e v7 ⟨rfl, hb⟩
        have HB7 := Lib.hid (beI HB6.out (Nat.le_refl _) hb)
        clear hb HB6
        go_wp2_with fail
        refine (AW.out _ (HT.out.call HB7.out) (HP.out.call HB7.out)).mono ?_
        rintro e v8 ⟨rfl, hb⟩
        have HB8 := Lib.hid (beI HB7.out (Nat.le_refl _) hb)
        clear hb HB7
        go_wp2_with fail
        go_ret
        exact ⟨rfl, HB8.out⟩
      · have z1 : (m + 1 == m) = false := by rw [beq_eq_false_iff_ne]; omega
        have z2 : (p == p + 1) = false := by rw [beq_eq_false_iff_ne]; omega
        go_enter Tryd.func4, Tryd.ntmps4
        go_wp2_with fail
        refine (S1.out _ HT.out).mono ?_
        rintro e v1 ⟨rfl, hb⟩
        have HB1 := Lib.hid (hb)
        clear hb
        go_wp2_with fail
        refine (O1.out _ (HT.out.call HB1.out)).mono ?_
        rintro e v2 ⟨rfl, hb⟩
        have HB2 := Lib.hid (beI HB1.out (Nat.le_refl _) hb)
        clear hb HB1
        go_wp2_with fail
        refine (F1.out _ (HT.out.call HB2.out) (HP.out.call HB2.out)).mono ?_
        rintro e v3 ⟨rfl, hb⟩
        have HB3 := Lib.hid (beI HB2.out (Nat.le_refl _) hb)
        clear hb HB2
        go_wp2_with fail
        refine (P1.out _ (HT.out.call HB3.out)).mono ?_
        rintro e v4 ⟨rfl, hb⟩
        have HB4 := Lib.hid (beI HB3.out (Nat.le_refl _) hb)
        clear hb HB3
        go_wp2_with fail
        refine (S2.out _ (HT.out.call HB4.out)).mono ?_
        rintro e v5 ⟨rfl, hb⟩
        have HB5 := Lib.hid (beI HB4.out (Nat.le_refl _) hb)
        clear hb HB4
        go_wp2_with fail
        refine (W2.out _).mono ?_
        rintro e v6 ⟨rfl, hb⟩
        have HB6 := Lib.hid (beI HB5.out (Nat.le_refl _) hb)
        clear hb HB5
        go_wp2_with fail
        refine (W1.out _).mono ?_
        rintro e v7 ⟨rfl, hb⟩
        have HB7 := Lib.hid (beI HB6.out (Nat.le_refl _) hb)
        clear hb HB6
        go_wp2_with fail
        refine (AW.out _ (HT.out.call HB7.out) (HP.out.call HB7.out)).mono ?_
        rintro e v8 ⟨rfl, hb⟩
        have HB8 := Lib.hid (beI HB7.out (Nat.le_refl _) hb)
        clear hb HB7
        go_wp2_with fail
        go_ret
        exact ⟨rfl, HB8.out⟩
      · have z2 : (y + 1 == y) = false := by rw [beq_eq_false_iff_ne]; omega
        go_enter Tryd.func4, Tryd.ntmps4
        go_wp2_with fail
        refine (S1.out _ HT.out).mono ?_
        rintro e v1 ⟨rfl, hb⟩
        have HB1 := Lib.hid (hb)
        clear hb
        go_wp2_with fail
        refine (O1.out _ (HT.out.call HB1.out)).mono ?_
        rintro e v2 ⟨rfl, hb⟩
        have HB2 := Lib.hid (beI HB1.out (Nat.le_refl _) hb)
        clear hb HB1
        go_wp2_with fail
        refine (F1.out _ (HT.out.call HB2.out) (HP.out.call HB2.out)).mono ?_
        rintro e v3 ⟨rfl, hb⟩
        have HB3 := Lib.hid (beI HB2.out (Nat.le_refl _) hb)
        clear hb HB2
        go_wp2_with fail
        refine (P1.out _ (HT.out.call HB3.out)).mono ?_
        rintro e v4 ⟨rfl, hb⟩
        have HB4 := Lib.hid (beI HB3.out (Nat.le_refl _) hb)
        clear hb HB3
        go_wp2_with fail
        refine (S2.out _ (HT.out.call HB4.out)).mono ?_
        rintro e v5 ⟨rfl, hb⟩
        have HB5 := Lib.hid (beI HB4.out (Nat.le_refl _) hb)
        clear hb HB4
        go_wp2_with fail
        refine (W2.out _).mono ?_
        rintro e v6 ⟨rfl, hb⟩
        have HB6 := Lib.hid (beI HB5.out (Nat.le_refl _) hb)
        clear hb HB5
        go_wp2_with fail
        refine (W1.out _).mono ?_
        rintro e v7 ⟨rfl, hb⟩
        have HB7 := Lib.hid (beI HB6.out (Nat.le_refl _) hb)
        clear hb HB6
        go_wp2_with fail
        refine (AW.out _ (HT.out.call HB7.out) (HP.out.call HB7.out)).mono ?_
        rintro e v8 ⟨rfl, hb⟩
        have HB8 := Lib.hid (beI HB7.out (Nat.le_refl _) hb)
        clear hb HB7
        go_wp2_with fail
        go_ret
        exact ⟨rfl, HB8.out⟩
end calendarDates
end Go.Proofs.YtbfmfnfndmfeeaaDoor
