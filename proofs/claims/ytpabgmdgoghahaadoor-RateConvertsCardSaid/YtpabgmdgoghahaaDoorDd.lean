/- Long division: the walk. -/
import Derived.Test.YtpabgmdgoghahaaDoorDc
set_option linter.unusedVariables false
set_option linter.unusedSimpArgs false
namespace Go.Proofs.YtpabgmdgoghahaaDoor.div
open Go.Sort Go.ChangeShapes Go.WideShapes Go.ChangeAt Go.RowKit
set_option maxRecDepth 100000 in
set_option maxHeartbeats 8000000 in
theorem div_full (hi lo y : Nat) (w : World) (hhi : hi < y) (h0 : 1 ≤ hi) (hlo : lo < 18446744073709551616) (hy : y < 18446744073709551616) :
    Calls Tryd.prog 48 #[.int .u64 hi, .int .u64 lo, .int .u64 y] w fun e w' => e = .returned (.tuple #[.int .u64 (((hi * 18446744073709551616 + lo) / y : Nat) : Int), .int .u64 (((hi * 18446744073709551616 + lo) % y : Nat) : Int)]) ∧ Below w.heap.size w w' := by
  obtain ⟨QQ, hQ⟩ : ∃ QQ, (hi * 18446744073709551616 + lo) / y = QQ := ⟨_, rfl⟩
  obtain ⟨rr, hr⟩ : ∃ rr, (hi * 18446744073709551616 + lo) % y = rr := ⟨_, rfl⟩
  rw [hQ, hr]
  have HQ := Lib.hid (And.intro hQ hr)
  clear hQ hr
  obtain ⟨s, hs, es, hY0, hY1⟩ := shift_of y (by omega) hy
  have hlz := fun w => Tryd.bits_LeadingZeros64 (y : Int) w (by omega) (by omega)
  rw [show ((y : Nat) : Int).toNat = y from rfl, es] at hlz
  have HLZ := Lib.hid hlz
  have y1 : ((y : Int) == 0) = false := beq_eq_false_iff_ne.2 (by omega)
  have y2 : decide ((y : Int) ≤ (hi : Int)) = false := decide_eq_false (by omega)
  have y3 : ((hi : Int) == 0) = false := beq_eq_false_iff_ne.2 (by omega)
  have s0 : (0 : Int) ≤ (s : Int) := by omega
  have s1 : (s : Int) ≤ 63 := by omega
  obtain ⟨Y, d1, d0, Hs, Ls, H, X, u1, u0, e1, e2, e3, e4, e5, e6, e7, e8, e9, hYd, b1, b2, b3, b4, b5, hH, hX, hHs, hLs, hval0, hYs0⟩ := setup hi lo y s hs hlo hhi hY0 hY1
  have hval := Lib.hid hval0
  have hYs := Lib.hid hYs0
  have hYlt : Y < 18446744073709551616 := by rw [hYs0]; exact hY1
  have hHd : H < d1 * 4294967296 + d0 := by omega
  have dz : ((d1 : Int) == 0) = false := beq_eq_false_iff_ne.2 (by omega)
  have dz2 : 1 ≤ (d1 : Int) := by omega
  have dz3 : (d1 : Int) ≤ 4294967295 := by omega
  obtain ⟨qi, ri, pp, x1, x5, x2, x3, x4, x6, x7⟩ := try_all H u1 d1 d0 b1 b2 b3 b4 hHd (by omega)
  have x8 := x6.top
  have x9 : Hid (∃ q rh : Nat, (qi : Int) = q ∧ (ri : Int) = rh ∧ Dig H u1 d1 d0 q rh ∧ rh < 4294967296 ∧ q ≤ 4294967297) := Lib.hid ⟨qi, ri, rfl, rfl, x6, x7, x8⟩
  have hYd_ := Lib.hid hYd
  clear hlz hY0 hY1 es hval0 hYs0 hYd x6 x7 x8
  go_enter Tryd.func48, Tryd.ntmps48
  go_wp2_with fail
  refine (HLZ.out _).mono ?_
  rintro e w1 ⟨rfl, rfl⟩
  go_wp2_with fail
  go_loop [15, 16] (fun x z => ∃ qI rI : Int, x = .int .u64 qI ∧ z = .int .u64 rI ∧ Hid (∃ q rh : Nat, qI = q ∧ rI = rh ∧ Dig H u1 d1 d0 q rh ∧ rh < 4294967296 ∧ q ≤ 4294967297) ∧ 0 ≤ qI) (fun x _ => (intOf x).toNat)
  case atStart => exact ⟨qi, ri, rfl, rfl, x9, by omega⟩
  case round =>
    clear x1 x2 x3 x4 x5 x9 y1 y2 y3
    obtain ⟨qIa, rIa, rfl, rfl, hha, hIa⟩ := hrel
    obtain ⟨qa, rha, hqa, hra, hdiga, hna, hma⟩ := hha.out
    clear hha
    have i1a : qIa ≤ 4294967297 := by omega
    have i2a : 0 ≤ rIa := by omega
    have i3a : rIa ≤ 4294967295 := by omega
    by_cases c1 : 4294967296 ≤ qa
    · obtain ⟨t1, t2, t3⟩ := dig_next b1 hHd b4 hdiga (.inl c1)
      have c1' : 4294967296 ≤ qIa := by omega
      clear c1
      obtain ⟨rpa, hrpa⟩ : ∃ rp : Int, rp = rIa + (d1 : Int) := ⟨_, rfl⟩
      have p3a : rIa + (d1 : Int) = rpa := hrpa.symm
      have p4a : IntKind.u64.wrap (rIa + (d1 : Int)) = rpa := by rw [p3a, IntKind.wrap_u64]; omega
      have p5a : 0 ≤ rpa := by omega
      have p6a : rpa ≤ 8589934591 := by omega
      have eda : ((qa - 1 : Nat) : Int) = qIa - 1 := by omega
      have i4a : 1 ≤ qIa := by omega
      by_cases c2 : 4294967296 ≤ rha + d1
      · have c2' : 4294967296 ≤ rpa := by omega
        have hda := dig_leave b1 b3 t2 t3 c2
        clear t1 t2 t3 c2 hqa hra hdiga hna hma hrpa
        generalize qa - 1 = ma at *
        obtain ⟨v1, v2⟩ := dig_rest H u1 (d1 * 4294967296 + d0) ma (by omega) hda
        have mab0 : ma < 4294967296 := by
          rw [hda, Nat.div_lt_iff_lt_mul (by omega)]
          omega
        have mab := Lib.hid mab0
        rw [← hYd_.out] at v1 v2
        obtain ⟨HB, S, T, k1, k2, k3, k4, -, -, -⟩ := rest_wrap H u1 Y ma _ v1 (by omega) (by omega)
        obtain ⟨R, hR_⟩ : ∃ R, (H * 4294967296 + u1) % Y = R := ⟨_, rfl⟩
        rw [hR_] at v1 v2 k4
        have hRd : R < d1 * 4294967296 + d0 := by rw [← hYd_.out]; exact v2
        clear hR_
        obtain ⟨qj, rj, pj, x1, x5, x2, x3, x4, x6, x7⟩ := try_all R u0 d1 d0 b1 b2 b3 b5 hRd (by omega)
        have x8 := x6.top
        have x9 : Hid (∃ q rh : Nat, (qj : Int) = q ∧ (rj : Int) = rh ∧ Dig R u0 d1 d0 q rh ∧ rh < 4294967296 ∧ q ≤ 4294967297) := Lib.hid ⟨qj, rj, rfl, rfl, x6, x7, x8⟩
        have rest1 := Lib.hid v1
        have eda0 := Lib.hid eda
        rw [eda] at k3
        clear hda v1 mab0 eda x6 x7 x8
        have eda := eda0
        clear eda0
        go_wp2_with fail
        go_loop [18, 16] (fun x z => ∃ qI rI : Int, x = .int .u64 qI ∧ z = .int .u64 rI ∧ Hid (∃ q rh : Nat, qI = q ∧ rI = rh ∧ Dig R u0 d1 d0 q rh ∧ rh < 4294967296 ∧ q ≤ 4294967297) ∧ 0 ≤ qI) (fun x _ => (intOf x).toNat)
        case atStart => exact ⟨qj, rj, rfl, rfl, x9, by omega⟩
        case round =>
          clear x1 x2 x3 x4 x5 x9 k1 k2 k3 k4
          obtain ⟨qIb, rIb, rfl, rfl, hhb, hIb⟩ := hrel
          obtain ⟨qb, rhb, hqb, hrb, hdigb, hnb, hmb⟩ := hhb.out
          clear hhb
          have i1b : qIb ≤ 4294967297 := by omega
          have i2b : 0 ≤ rIb := by omega
          have i3b : rIb ≤ 4294967295 := by omega
          by_cases c1 : 4294967296 ≤ qb
          · obtain ⟨t1, t2, t3⟩ := dig_next b1 hRd b5 hdigb (.inl c1)
            have c1' : 4294967296 ≤ qIb := by omega
            clear c1
            obtain ⟨rpb, hrpb⟩ : ∃ rp : Int, rp = rIb + (d1 : Int) := ⟨_, rfl⟩
            have p3b : rIb + (d1 : Int) = rpb := hrpb.symm
            have p4b : IntKind.u64.wrap (rIb + (d1 : Int)) = rpb := by rw [p3b, IntKind.wrap_u64]; omega
            have p5b : 0 ≤ rpb := by omega
            have p6b : rpb ≤ 8589934591 := by omega
            have edb : ((qb - 1 : Nat) : Int) = qIb - 1 := by omega
            have i4b : 1 ≤ qIb := by omega
            by_cases c2 : 4294967296 ≤ rhb + d1
            · have c2' : 4294967296 ≤ rpb := by omega
              have hdb := dig_leave b1 b3 t2 t3 c2
              clear t1 t2 t3 c2 hqb hrb hdigb hnb hmb hrpb
              generalize qb - 1 = mb at *
              obtain ⟨v1, v2⟩ := dig_rest R u0 (d1 * 4294967296 + d0) mb (by omega) hdb
              have q0b : mb < 4294967296 := by
                rw [hdb, Nat.div_lt_iff_lt_mul (by omega)]
                omega
              rw [← hYd_.out] at v1 v2
              obtain ⟨RB, S2, T2, n1, n2, n3, n4, -, -, -⟩ := rest_wrap R u0 Y mb _ v1 (by omega) (by omega)
              have hfin := two_digits H u1 u0 Y ma R mb _ rest1.out v1 v2
              have hun := unshift (hi * 18446744073709551616 + lo) y s
              rw [← hval.out, ← hYs.out, hfin.1, hfin.2] at hun
              obtain ⟨f1, f2⟩ := hun
              obtain ⟨R0, hR0⟩ : ∃ R0, (R * 4294967296 + u0) % Y = R0 := ⟨_, rfl⟩
              rw [hR0] at n4 f2
              rw [HQ.out.1] at f1
              rw [HQ.out.2] at f2
              have n5 : (R0 : Int) / 2 ^ s = ((R0 / 2 ^ s : Nat) : Int) := by rw [pow_cast, ← Int.natCast_ediv]
              rw [f2] at n5
              have m1 : IntKind.u64.wrap ((ma : Int) * 4294967296) = ((ma * 4294967296 : Nat) : Int) := by rw [show (ma : Int) * 4294967296 = ((ma * 4294967296 : Nat) : Int) from by omega]; exact wrapS _ (by have := mab.out; omega)
              have m2 : IntKind.u64.wrap (((ma * 4294967296 : Nat) : Int) + (mb : Int)) = ((ma * 4294967296 + mb : Nat) : Int) := by rw [← Int.natCast_add]; exact wrapS _ (by have := mab.out; omega)
              rw [f1] at m2
              rw [eda.out] at m1
              rw [edb] at m2 n3
              clear f1 f2 v1 v2 hdb hfin hval hYs rest1 edb q0b hR0
              obtain ⟨qb, hqb⟩ : ∃ qb, ((ma * 4294967296 : Nat) : Int) = qb := ⟨_, rfl⟩
              rw [hqb] at m1 m2
              clear hqb HQ
              go_wp2_with fail
              go_ret2
              exact ⟨rfl, Below.refl _ _⟩
            · have c2' : rpb ≤ 4294967295 := by omega
              have T2 : Hid (∃ q rh : Nat, qIb - 1 = q ∧ rpb = rh ∧ Dig R u0 d1 d0 q rh ∧ rh < 4294967296 ∧ q ≤ 4294967297) := Lib.hid ⟨_, _, edb.symm, (by omega), t2, (by omega), (by omega)⟩
              clear t1 t2 t3 c2 hqb hrb hdigb hnb hmb hrpb edb
              go_wp2_with fail
              go_round
              case rel => exact ⟨qIb - 1, rpb, rfl, rfl, T2, by omega⟩
              case measure => simp [intOf]; omega

          · have c1' : qIb ≤ 4294967295 := by omega
            have fA0 : IntKind.u64.wrap (((qb : Nat) : Int) * (d0 : Int)) = ((qb * d0 : Nat) : Int) := by
              rw [← Int.natCast_mul]
              have : qb * d0 ≤ 4294967295 * 4294967295 := Nat.mul_le_mul (show qb ≤ 4294967295 by omega) (show d0 ≤ 4294967295 by omega)
              exact wrapS _ (by omega)
            rw [← hqb] at fA0
            obtain ⟨A, hA⟩ : ∃ A : Int, A = ((qb * d0 : Nat) : Int) := ⟨_, rfl⟩
            have fA : IntKind.u64.wrap (qIb * (d0 : Int)) = A := fA0.trans hA.symm
            obtain ⟨E, hE⟩ : ∃ E : Int, E = 4294967296 * rIb + (u0 : Int) := ⟨_, rfl⟩
            obtain ⟨E1, hE1⟩ : ∃ E1 : Int, E1 = 4294967296 * rIb := ⟨_, rfl⟩
            have fE1 : IntKind.u64.wrap (4294967296 * rIb) = E1 := by rw [IntKind.wrap_u64, hE1]; omega
            have fE1' : 4294967296 * rIb = E1 := hE1.symm
            have fE : IntKind.u64.wrap (E1 + (u0 : Int)) = E := by rw [IntKind.wrap_u64, hE1, hE]; omega
            have fE' : E1 + (u0 : Int) = E := by rw [hE1, hE]
            clear fA0
            by_cases c3 : 4294967296 * rhb + u0 < qb * d0
            · obtain ⟨t1, t2, t3⟩ := dig_next b1 hRd b5 hdigb (.inr c3)
              generalize qb * d0 = A0 at *
              have c3' : decide (E < A) = true := decide_eq_true (by omega)
              clear c1 c3 hA hE hE1
              obtain ⟨rpb, hrpb⟩ : ∃ rp : Int, rp = rIb + (d1 : Int) := ⟨_, rfl⟩
              have p3b : rIb + (d1 : Int) = rpb := hrpb.symm
              have p4b : IntKind.u64.wrap (rIb + (d1 : Int)) = rpb := by rw [p3b, IntKind.wrap_u64]; omega
              have p5b : 0 ≤ rpb := by omega
              have p6b : rpb ≤ 8589934591 := by omega
              have edb : ((qb - 1 : Nat) : Int) = qIb - 1 := by omega
              have i4b : 1 ≤ qIb := by omega
              by_cases c2 : 4294967296 ≤ rhb + d1
              · have c2' : 4294967296 ≤ rpb := by omega
                have hdb := dig_leave b1 b3 t2 t3 c2
                clear t1 t2 t3 c2 hqb hrb hdigb hnb hmb hrpb
                generalize qb - 1 = mb at *
                obtain ⟨v1, v2⟩ := dig_rest R u0 (d1 * 4294967296 + d0) mb (by omega) hdb
                have q0b : mb < 4294967296 := by
                  rw [hdb, Nat.div_lt_iff_lt_mul (by omega)]
                  omega
                rw [← hYd_.out] at v1 v2
                obtain ⟨RB, S2, T2, n1, n2, n3, n4, -, -, -⟩ := rest_wrap R u0 Y mb _ v1 (by omega) (by omega)
                have hfin := two_digits H u1 u0 Y ma R mb _ rest1.out v1 v2
                have hun := unshift (hi * 18446744073709551616 + lo) y s
                rw [← hval.out, ← hYs.out, hfin.1, hfin.2] at hun
                obtain ⟨f1, f2⟩ := hun
                obtain ⟨R0, hR0⟩ : ∃ R0, (R * 4294967296 + u0) % Y = R0 := ⟨_, rfl⟩
                rw [hR0] at n4 f2
                rw [HQ.out.1] at f1
                rw [HQ.out.2] at f2
                have n5 : (R0 : Int) / 2 ^ s = ((R0 / 2 ^ s : Nat) : Int) := by rw [pow_cast, ← Int.natCast_ediv]
                rw [f2] at n5
                have m1 : IntKind.u64.wrap ((ma : Int) * 4294967296) = ((ma * 4294967296 : Nat) : Int) := by rw [show (ma : Int) * 4294967296 = ((ma * 4294967296 : Nat) : Int) from by omega]; exact wrapS _ (by have := mab.out; omega)
                have m2 : IntKind.u64.wrap (((ma * 4294967296 : Nat) : Int) + (mb : Int)) = ((ma * 4294967296 + mb : Nat) : Int) := by rw [← Int.natCast_add]; exact wrapS _ (by have := mab.out; omega)
                rw [f1] at m2
                rw [eda.out] at m1
                rw [edb] at m2 n3
                clear f1 f2 v1 v2 hdb hfin hval hYs rest1 edb q0b hR0
                obtain ⟨qb, hqb⟩ : ∃ qb, ((ma * 4294967296 : Nat) : Int) = qb := ⟨_, rfl⟩
                rw [hqb] at m1 m2
                clear hqb HQ
                go_wp2_with fail
                go_ret2
                exact ⟨rfl, Below.refl _ _⟩
              · have c2' : rpb ≤ 4294967295 := by omega
                have T2 : Hid (∃ q rh : Nat, qIb - 1 = q ∧ rpb = rh ∧ Dig R u0 d1 d0 q rh ∧ rh < 4294967296 ∧ q ≤ 4294967297) := Lib.hid ⟨_, _, edb.symm, (by omega), t2, (by omega), (by omega)⟩
                clear t1 t2 t3 c2 hqb hrb hdigb hnb hmb hrpb edb
                go_wp2_with fail
                go_round
                case rel => exact ⟨qIb - 1, rpb, rfl, rfl, T2, by omega⟩
                case measure => simp [intOf]; omega

            · have hdb := dig_stop b1 hdigb (by omega)
              generalize qb * d0 = A0 at *
              have c3' : decide (E < A) = false := decide_eq_false (by omega)
              have edb : ((qb : Nat) : Int) = qIb := hqb.symm
              clear c1 c3 hA hE hE1 hqb hrb hdigb hnb hmb
              generalize qb = mb at *
              obtain ⟨v1, v2⟩ := dig_rest R u0 (d1 * 4294967296 + d0) mb (by omega) hdb
              have q0b : mb < 4294967296 := by
                rw [hdb, Nat.div_lt_iff_lt_mul (by omega)]
                omega
              rw [← hYd_.out] at v1 v2
              obtain ⟨RB, S2, T2, n1, n2, n3, n4, -, -, -⟩ := rest_wrap R u0 Y mb _ v1 (by omega) (by omega)
              have hfin := two_digits H u1 u0 Y ma R mb _ rest1.out v1 v2
              have hun := unshift (hi * 18446744073709551616 + lo) y s
              rw [← hval.out, ← hYs.out, hfin.1, hfin.2] at hun
              obtain ⟨f1, f2⟩ := hun
              obtain ⟨R0, hR0⟩ : ∃ R0, (R * 4294967296 + u0) % Y = R0 := ⟨_, rfl⟩
              rw [hR0] at n4 f2
              rw [HQ.out.1] at f1
              rw [HQ.out.2] at f2
              have n5 : (R0 : Int) / 2 ^ s = ((R0 / 2 ^ s : Nat) : Int) := by rw [pow_cast, ← Int.natCast_ediv]
              rw [f2] at n5
              have m1 : IntKind.u64.wrap ((ma : Int) * 4294967296) = ((ma * 4294967296 : Nat) : Int) := by rw [show (ma : Int) * 4294967296 = ((ma * 4294967296 : Nat) : Int) from by omega]; exact wrapS _ (by have := mab.out; omega)
              have m2 : IntKind.u64.wrap (((ma * 4294967296 : Nat) : Int) + (mb : Int)) = ((ma * 4294967296 + mb : Nat) : Int) := by rw [← Int.natCast_add]; exact wrapS _ (by have := mab.out; omega)
              rw [f1] at m2
              rw [eda.out] at m1
              rw [edb] at m2 n3
              clear f1 f2 v1 v2 hdb hfin hval hYs rest1 edb q0b hR0
              obtain ⟨qb, hqb⟩ : ∃ qb, ((ma * 4294967296 : Nat) : Int) = qb := ⟨_, rfl⟩
              rw [hqb] at m1 m2
              clear hqb HQ
              go_wp2_with fail
              go_ret2
              exact ⟨rfl, Below.refl _ _⟩
      · have c2' : rpa ≤ 4294967295 := by omega
        have T2 : Hid (∃ q rh : Nat, qIa - 1 = q ∧ rpa = rh ∧ Dig H u1 d1 d0 q rh ∧ rh < 4294967296 ∧ q ≤ 4294967297) := Lib.hid ⟨_, _, eda.symm, (by omega), t2, (by omega), (by omega)⟩
        clear t1 t2 t3 c2 hqa hra hdiga hna hma hrpa eda
        go_wp2_with fail
        go_round
        case rel => exact ⟨qIa - 1, rpa, rfl, rfl, T2, by omega⟩
        case measure => simp [intOf]; omega

    · have c1' : qIa ≤ 4294967295 := by omega
      have fA0 : IntKind.u64.wrap (((qa : Nat) : Int) * (d0 : Int)) = ((qa * d0 : Nat) : Int) := by
        rw [← Int.natCast_mul]
        have : qa * d0 ≤ 4294967295 * 4294967295 := Nat.mul_le_mul (show qa ≤ 4294967295 by omega) (show d0 ≤ 4294967295 by omega)
        exact wrapS _ (by omega)
      rw [← hqa] at fA0
      obtain ⟨A, hA⟩ : ∃ A : Int, A = ((qa * d0 : Nat) : Int) := ⟨_, rfl⟩
      have fA : IntKind.u64.wrap (qIa * (d0 : Int)) = A := fA0.trans hA.symm
      obtain ⟨E, hE⟩ : ∃ E : Int, E = 4294967296 * rIa + (u1 : Int) := ⟨_, rfl⟩
      obtain ⟨E1, hE1⟩ : ∃ E1 : Int, E1 = 4294967296 * rIa := ⟨_, rfl⟩
      have fE1 : IntKind.u64.wrap (4294967296 * rIa) = E1 := by rw [IntKind.wrap_u64, hE1]; omega
      have fE1' : 4294967296 * rIa = E1 := hE1.symm
      have fE : IntKind.u64.wrap (E1 + (u1 : Int)) = E := by rw [IntKind.wrap_u64, hE1, hE]; omega
      have fE' : E1 + (u1 : Int) = E := by rw [hE1, hE]
      clear fA0
      by_cases c3 : 4294967296 * rha + u1 < qa * d0
      · obtain ⟨t1, t2, t3⟩ := dig_next b1 hHd b4 hdiga (.inr c3)
        generalize qa * d0 = A0 at *
        have c3' : decide (E < A) = true := decide_eq_true (by omega)
        clear c1 c3 hA hE hE1
        obtain ⟨rpa, hrpa⟩ : ∃ rp : Int, rp = rIa + (d1 : Int) := ⟨_, rfl⟩
        have p3a : rIa + (d1 : Int) = rpa := hrpa.symm
        have p4a : IntKind.u64.wrap (rIa + (d1 : Int)) = rpa := by rw [p3a, IntKind.wrap_u64]; omega
        have p5a : 0 ≤ rpa := by omega
        have p6a : rpa ≤ 8589934591 := by omega
        have eda : ((qa - 1 : Nat) : Int) = qIa - 1 := by omega
        have i4a : 1 ≤ qIa := by omega
        by_cases c2 : 4294967296 ≤ rha + d1
        · have c2' : 4294967296 ≤ rpa := by omega
          have hda := dig_leave b1 b3 t2 t3 c2
          clear t1 t2 t3 c2 hqa hra hdiga hna hma hrpa
          generalize qa - 1 = ma at *
          obtain ⟨v1, v2⟩ := dig_rest H u1 (d1 * 4294967296 + d0) ma (by omega) hda
          have mab0 : ma < 4294967296 := by
            rw [hda, Nat.div_lt_iff_lt_mul (by omega)]
            omega
          have mab := Lib.hid mab0
          rw [← hYd_.out] at v1 v2
          obtain ⟨HB, S, T, k1, k2, k3, k4, -, -, -⟩ := rest_wrap H u1 Y ma _ v1 (by omega) (by omega)
          obtain ⟨R, hR_⟩ : ∃ R, (H * 4294967296 + u1) % Y = R := ⟨_, rfl⟩
          rw [hR_] at v1 v2 k4
          have hRd : R < d1 * 4294967296 + d0 := by rw [← hYd_.out]; exact v2
          clear hR_
          obtain ⟨qj, rj, pj, x1, x5, x2, x3, x4, x6, x7⟩ := try_all R u0 d1 d0 b1 b2 b3 b5 hRd (by omega)
          have x8 := x6.top
          have x9 : Hid (∃ q rh : Nat, (qj : Int) = q ∧ (rj : Int) = rh ∧ Dig R u0 d1 d0 q rh ∧ rh < 4294967296 ∧ q ≤ 4294967297) := Lib.hid ⟨qj, rj, rfl, rfl, x6, x7, x8⟩
          have rest1 := Lib.hid v1
          have eda0 := Lib.hid eda
          rw [eda] at k3
          clear hda v1 mab0 eda x6 x7 x8
          have eda := eda0
          clear eda0
          go_wp2_with fail
          go_loop [18, 16] (fun x z => ∃ qI rI : Int, x = .int .u64 qI ∧ z = .int .u64 rI ∧ Hid (∃ q rh : Nat, qI = q ∧ rI = rh ∧ Dig R u0 d1 d0 q rh ∧ rh < 4294967296 ∧ q ≤ 4294967297) ∧ 0 ≤ qI) (fun x _ => (intOf x).toNat)
          case atStart => exact ⟨qj, rj, rfl, rfl, x9, by omega⟩
          case round =>
            clear x1 x2 x3 x4 x5 x9 k1 k2 k3 k4
            obtain ⟨qIb, rIb, rfl, rfl, hhb, hIb⟩ := hrel
            obtain ⟨qb, rhb, hqb, hrb, hdigb, hnb, hmb⟩ := hhb.out
            clear hhb
            have i1b : qIb ≤ 4294967297 := by omega
            have i2b : 0 ≤ rIb := by omega
            have i3b : rIb ≤ 4294967295 := by omega
            by_cases c1 : 4294967296 ≤ qb
            · obtain ⟨t1, t2, t3⟩ := dig_next b1 hRd b5 hdigb (.inl c1)
              have c1' : 4294967296 ≤ qIb := by omega
              clear c1
              obtain ⟨rpb, hrpb⟩ : ∃ rp : Int, rp = rIb + (d1 : Int) := ⟨_, rfl⟩
              have p3b : rIb + (d1 : Int) = rpb := hrpb.symm
              have p4b : IntKind.u64.wrap (rIb + (d1 : Int)) = rpb := by rw [p3b, IntKind.wrap_u64]; omega
              have p5b : 0 ≤ rpb := by omega
              have p6b : rpb ≤ 8589934591 := by omega
              have edb : ((qb - 1 : Nat) : Int) = qIb - 1 := by omega
              have i4b : 1 ≤ qIb := by omega
              by_cases c2 : 4294967296 ≤ rhb + d1
              · have c2' : 4294967296 ≤ rpb := by omega
                have hdb := dig_leave b1 b3 t2 t3 c2
                clear t1 t2 t3 c2 hqb hrb hdigb hnb hmb hrpb
                generalize qb - 1 = mb at *
                obtain ⟨v1, v2⟩ := dig_rest R u0 (d1 * 4294967296 + d0) mb (by omega) hdb
                have q0b : mb < 4294967296 := by
                  rw [hdb, Nat.div_lt_iff_lt_mul (by omega)]
                  omega
                rw [← hYd_.out] at v1 v2
                obtain ⟨RB, S2, T2, n1, n2, n3, n4, -, -, -⟩ := rest_wrap R u0 Y mb _ v1 (by omega) (by omega)
                have hfin := two_digits H u1 u0 Y ma R mb _ rest1.out v1 v2
                have hun := unshift (hi * 18446744073709551616 + lo) y s
                rw [← hval.out, ← hYs.out, hfin.1, hfin.2] at hun
                obtain ⟨f1, f2⟩ := hun
                obtain ⟨R0, hR0⟩ : ∃ R0, (R * 4294967296 + u0) % Y = R0 := ⟨_, rfl⟩
                rw [hR0] at n4 f2
                rw [HQ.out.1] at f1
                rw [HQ.out.2] at f2
                have n5 : (R0 : Int) / 2 ^ s = ((R0 / 2 ^ s : Nat) : Int) := by rw [pow_cast, ← Int.natCast_ediv]
                rw [f2] at n5
                have m1 : IntKind.u64.wrap ((ma : Int) * 4294967296) = ((ma * 4294967296 : Nat) : Int) := by rw [show (ma : Int) * 4294967296 = ((ma * 4294967296 : Nat) : Int) from by omega]; exact wrapS _ (by have := mab.out; omega)
                have m2 : IntKind.u64.wrap (((ma * 4294967296 : Nat) : Int) + (mb : Int)) = ((ma * 4294967296 + mb : Nat) : Int) := by rw [← Int.natCast_add]; exact wrapS _ (by have := mab.out; omega)
                rw [f1] at m2
                rw [eda.out] at m1
                rw [edb] at m2 n3
                clear f1 f2 v1 v2 hdb hfin hval hYs rest1 edb q0b hR0
                obtain ⟨qb, hqb⟩ : ∃ qb, ((ma * 4294967296 : Nat) : Int) = qb := ⟨_, rfl⟩
                rw [hqb] at m1 m2
                clear hqb HQ
                go_wp2_with fail
                go_ret2
                exact ⟨rfl, Below.refl _ _⟩
              · have c2' : rpb ≤ 4294967295 := by omega
                have T2 : Hid (∃ q rh : Nat, qIb - 1 = q ∧ rpb = rh ∧ Dig R u0 d1 d0 q rh ∧ rh < 4294967296 ∧ q ≤ 4294967297) := Lib.hid ⟨_, _, edb.symm, (by omega), t2, (by omega), (by omega)⟩
                clear t1 t2 t3 c2 hqb hrb hdigb hnb hmb hrpb edb
                go_wp2_with fail
                go_round
                case rel => exact ⟨qIb - 1, rpb, rfl, rfl, T2, by omega⟩
                case measure => simp [intOf]; omega

            · have c1' : qIb ≤ 4294967295 := by omega
              have fA0 : IntKind.u64.wrap (((qb : Nat) : Int) * (d0 : Int)) = ((qb * d0 : Nat) : Int) := by
                rw [← Int.natCast_mul]
                have : qb * d0 ≤ 4294967295 * 4294967295 := Nat.mul_le_mul (show qb ≤ 4294967295 by omega) (show d0 ≤ 4294967295 by omega)
                exact wrapS _ (by omega)
              rw [← hqb] at fA0
              obtain ⟨A, hA⟩ : ∃ A : Int, A = ((qb * d0 : Nat) : Int) := ⟨_, rfl⟩
              have fA : IntKind.u64.wrap (qIb * (d0 : Int)) = A := fA0.trans hA.symm
              obtain ⟨E, hE⟩ : ∃ E : Int, E = 4294967296 * rIb + (u0 : Int) := ⟨_, rfl⟩
              obtain ⟨E1, hE1⟩ : ∃ E1 : Int, E1 = 4294967296 * rIb := ⟨_, rfl⟩
              have fE1 : IntKind.u64.wrap (4294967296 * rIb) = E1 := by rw [IntKind.wrap_u64, hE1]; omega
              have fE1' : 4294967296 * rIb = E1 := hE1.symm
              have fE : IntKind.u64.wrap (E1 + (u0 : Int)) = E := by rw [IntKind.wrap_u64, hE1, hE]; omega
              have fE' : E1 + (u0 : Int) = E := by rw [hE1, hE]
              clear fA0
              by_cases c3 : 4294967296 * rhb + u0 < qb * d0
              · obtain ⟨t1, t2, t3⟩ := dig_next b1 hRd b5 hdigb (.inr c3)
                generalize qb * d0 = A0 at *
                have c3' : decide (E < A) = true := decide_eq_true (by omega)
                clear c1 c3 hA hE hE1
                obtain ⟨rpb, hrpb⟩ : ∃ rp : Int, rp = rIb + (d1 : Int) := ⟨_, rfl⟩
                have p3b : rIb + (d1 : Int) = rpb := hrpb.symm
                have p4b : IntKind.u64.wrap (rIb + (d1 : Int)) = rpb := by rw [p3b, IntKind.wrap_u64]; omega
                have p5b : 0 ≤ rpb := by omega
                have p6b : rpb ≤ 8589934591 := by omega
                have edb : ((qb - 1 : Nat) : Int) = qIb - 1 := by omega
                have i4b : 1 ≤ qIb := by omega
                by_cases c2 : 4294967296 ≤ rhb + d1
                · have c2' : 4294967296 ≤ rpb := by omega
                  have hdb := dig_leave b1 b3 t2 t3 c2
                  clear t1 t2 t3 c2 hqb hrb hdigb hnb hmb hrpb
                  generalize qb - 1 = mb at *
                  obtain ⟨v1, v2⟩ := dig_rest R u0 (d1 * 4294967296 + d0) mb (by omega) hdb
                  have q0b : mb < 4294967296 := by
                    rw [hdb, Nat.div_lt_iff_lt_mul (by omega)]
                    omega
                  rw [← hYd_.out] at v1 v2
                  obtain ⟨RB, S2, T2, n1, n2, n3, n4, -, -, -⟩ := rest_wrap R u0 Y mb _ v1 (by omega) (by omega)
                  have hfin := two_digits H u1 u0 Y ma R mb _ rest1.out v1 v2
                  have hun := unshift (hi * 18446744073709551616 + lo) y s
                  rw [← hval.out, ← hYs.out, hfin.1, hfin.2] at hun
                  obtain ⟨f1, f2⟩ := hun
                  obtain ⟨R0, hR0⟩ : ∃ R0, (R * 4294967296 + u0) % Y = R0 := ⟨_, rfl⟩
                  rw [hR0] at n4 f2
                  rw [HQ.out.1] at f1
                  rw [HQ.out.2] at f2
                  have n5 : (R0 : Int) / 2 ^ s = ((R0 / 2 ^ s : Nat) : Int) := by rw [pow_cast, ← Int.natCast_ediv]
                  rw [f2] at n5
                  have m1 : IntKind.u64.wrap ((ma : Int) * 4294967296) = ((ma * 4294967296 : Nat) : Int) := by rw [show (ma : Int) * 4294967296 = ((ma * 4294967296 : Nat) : Int) from by omega]; exact wrapS _ (by have := mab.out; omega)
                  have m2 : IntKind.u64.wrap (((ma * 4294967296 : Nat) : Int) + (mb : Int)) = ((ma * 4294967296 + mb : Nat) : Int) := by rw [← Int.natCast_add]; exact wrapS _ (by have := mab.out; omega)
                  rw [f1] at m2
                  rw [eda.out] at m1
                  rw [edb] at m2 n3
                  clear f1 f2 v1 v2 hdb hfin hval hYs rest1 edb q0b hR0
                  obtain ⟨qb, hqb⟩ : ∃ qb, ((ma * 4294967296 : Nat) : Int) = qb := ⟨_, rfl⟩
                  rw [hqb] at m1 m2
                  clear hqb HQ
                  go_wp2_with fail
                  go_ret2
                  exact ⟨rfl, Below.refl _ _⟩
                · have c2' : rpb ≤ 4294967295 := by omega
                  have T2 : Hid (∃ q rh : Nat, qIb - 1 = q ∧ rpb = rh ∧ Dig R u0 d1 d0 q rh ∧ rh < 4294967296 ∧ q ≤ 4294967297) := Lib.hid ⟨_, _, edb.symm, (by omega), t2, (by omega), (by omega)⟩
                  clear t1 t2 t3 c2 hqb hrb hdigb hnb hmb hrpb edb
                  go_wp2_with fail
                  go_round
                  case rel => exact ⟨qIb - 1, rpb, rfl, rfl, T2, by omega⟩
                  case measure => simp [intOf]; omega

              · have hdb := dig_stop b1 hdigb (by omega)
                generalize qb * d0 = A0 at *
                have c3' : decide (E < A) = false := decide_eq_false (by omega)
                have edb : ((qb : Nat) : Int) = qIb := hqb.symm
                clear c1 c3 hA hE hE1 hqb hrb hdigb hnb hmb
                generalize qb = mb at *
                obtain ⟨v1, v2⟩ := dig_rest R u0 (d1 * 4294967296 + d0) mb (by omega) hdb
                have q0b : mb < 4294967296 := by
                  rw [hdb, Nat.div_lt_iff_lt_mul (by omega)]
                  omega
                rw [← hYd_.out] at v1 v2
                obtain ⟨RB, S2, T2, n1, n2, n3, n4, -, -, -⟩ := rest_wrap R u0 Y mb _ v1 (by omega) (by omega)
                have hfin := two_digits H u1 u0 Y ma R mb _ rest1.out v1 v2
                have hun := unshift (hi * 18446744073709551616 + lo) y s
                rw [← hval.out, ← hYs.out, hfin.1, hfin.2] at hun
                obtain ⟨f1, f2⟩ := hun
                obtain ⟨R0, hR0⟩ : ∃ R0, (R * 4294967296 + u0) % Y = R0 := ⟨_, rfl⟩
                rw [hR0] at n4 f2
                rw [HQ.out.1] at f1
                rw [HQ.out.2] at f2
                have n5 : (R0 : Int) / 2 ^ s = ((R0 / 2 ^ s : Nat) : Int) := by rw [pow_cast, ← Int.natCast_ediv]
                rw [f2] at n5
                have m1 : IntKind.u64.wrap ((ma : Int) * 4294967296) = ((ma * 4294967296 : Nat) : Int) := by rw [show (ma : Int) * 4294967296 = ((ma * 4294967296 : Nat) : Int) from by omega]; exact wrapS _ (by have := mab.out; omega)
                have m2 : IntKind.u64.wrap (((ma * 4294967296 : Nat) : Int) + (mb : Int)) = ((ma * 4294967296 + mb : Nat) : Int) := by rw [← Int.natCast_add]; exact wrapS _ (by have := mab.out; omega)
                rw [f1] at m2
                rw [eda.out] at m1
                rw [edb] at m2 n3
                clear f1 f2 v1 v2 hdb hfin hval hYs rest1 edb q0b hR0
                obtain ⟨qb, hqb⟩ : ∃ qb, ((ma * 4294967296 : Nat) : Int) = qb := ⟨_, rfl⟩
                rw [hqb] at m1 m2
                clear hqb HQ
                go_wp2_with fail
                go_ret2
                exact ⟨rfl, Below.refl _ _⟩
        · have c2' : rpa ≤ 4294967295 := by omega
          have T2 : Hid (∃ q rh : Nat, qIa - 1 = q ∧ rpa = rh ∧ Dig H u1 d1 d0 q rh ∧ rh < 4294967296 ∧ q ≤ 4294967297) := Lib.hid ⟨_, _, eda.symm, (by omega), t2, (by omega), (by omega)⟩
          clear t1 t2 t3 c2 hqa hra hdiga hna hma hrpa eda
          go_wp2_with fail
          go_round
          case rel => exact ⟨qIa - 1, rpa, rfl, rfl, T2, by omega⟩
          case measure => simp [intOf]; omega

      · have hda := dig_stop b1 hdiga (by omega)
        generalize qa * d0 = A0 at *
        have c3' : decide (E < A) = false := decide_eq_false (by omega)
        have eda : ((qa : Nat) : Int) = qIa := hqa.symm
        clear c1 c3 hA hE hE1 hqa hra hdiga hna hma
        generalize qa = ma at *
        obtain ⟨v1, v2⟩ := dig_rest H u1 (d1 * 4294967296 + d0) ma (by omega) hda
        have mab0 : ma < 4294967296 := by
          rw [hda, Nat.div_lt_iff_lt_mul (by omega)]
          omega
        have mab := Lib.hid mab0
        rw [← hYd_.out] at v1 v2
        obtain ⟨HB, S, T, k1, k2, k3, k4, -, -, -⟩ := rest_wrap H u1 Y ma _ v1 (by omega) (by omega)
        obtain ⟨R, hR_⟩ : ∃ R, (H * 4294967296 + u1) % Y = R := ⟨_, rfl⟩
        rw [hR_] at v1 v2 k4
        have hRd : R < d1 * 4294967296 + d0 := by rw [← hYd_.out]; exact v2
        clear hR_
        obtain ⟨qj, rj, pj, x1, x5, x2, x3, x4, x6, x7⟩ := try_all R u0 d1 d0 b1 b2 b3 b5 hRd (by omega)
        have x8 := x6.top
        have x9 : Hid (∃ q rh : Nat, (qj : Int) = q ∧ (rj : Int) = rh ∧ Dig R u0 d1 d0 q rh ∧ rh < 4294967296 ∧ q ≤ 4294967297) := Lib.hid ⟨qj, rj, rfl, rfl, x6, x7, x8⟩
        have rest1 := Lib.hid v1
        have eda0 := Lib.hid eda
        rw [eda] at k3
        clear hda v1 mab0 eda x6 x7 x8
        have eda := eda0
        clear eda0
        go_wp2_with fail
        go_loop [18, 16] (fun x z => ∃ qI rI : Int, x = .int .u64 qI ∧ z = .int .u64 rI ∧ Hid (∃ q rh : Nat, qI = q ∧ rI = rh ∧ Dig R u0 d1 d0 q rh ∧ rh < 4294967296 ∧ q ≤ 4294967297) ∧ 0 ≤ qI) (fun x _ => (intOf x).toNat)
        case atStart => exact ⟨qj, rj, rfl, rfl, x9, by omega⟩
        case round =>
          clear x1 x2 x3 x4 x5 x9 k1 k2 k3 k4
          obtain ⟨qIb, rIb, rfl, rfl, hhb, hIb⟩ := hrel
          obtain ⟨qb, rhb, hqb, hrb, hdigb, hnb, hmb⟩ := hhb.out
          clear hhb
          have i1b : qIb ≤ 4294967297 := by omega
          have i2b : 0 ≤ rIb := by omega
          have i3b : rIb ≤ 4294967295 := by omega
          by_cases c1 : 4294967296 ≤ qb
          · obtain ⟨t1, t2, t3⟩ := dig_next b1 hRd b5 hdigb (.inl c1)
            have c1' : 4294967296 ≤ qIb := by omega
            clear c1
            obtain ⟨rpb, hrpb⟩ : ∃ rp : Int, rp = rIb + (d1 : Int) := ⟨_, rfl⟩
            have p3b : rIb + (d1 : Int) = rpb := hrpb.symm
            have p4b : IntKind.u64.wrap (rIb + (d1 : Int)) = rpb := by rw [p3b, IntKind.wrap_u64]; omega
            have p5b : 0 ≤ rpb := by omega
            have p6b : rpb ≤ 8589934591 := by omega
            have edb : ((qb - 1 : Nat) : Int) = qIb - 1 := by omega
            have i4b : 1 ≤ qIb := by omega
            by_cases c2 : 4294967296 ≤ rhb + d1
            · have c2' : 4294967296 ≤ rpb := by omega
              have hdb := dig_leave b1 b3 t2 t3 c2
              clear t1 t2 t3 c2 hqb hrb hdigb hnb hmb hrpb
              generalize qb - 1 = mb at *
              obtain ⟨v1, v2⟩ := dig_rest R u0 (d1 * 4294967296 + d0) mb (by omega) hdb
              have q0b : mb < 4294967296 := by
                rw [hdb, Nat.div_lt_iff_lt_mul (by omega)]
                omega
              rw [← hYd_.out] at v1 v2
              obtain ⟨RB, S2, T2, n1, n2, n3, n4, -, -, -⟩ := rest_wrap R u0 Y mb _ v1 (by omega) (by omega)
              have hfin := two_digits H u1 u0 Y ma R mb _ rest1.out v1 v2
              have hun := unshift (hi * 18446744073709551616 + lo) y s
              rw [← hval.out, ← hYs.out, hfin.1, hfin.2] at hun
              obtain ⟨f1, f2⟩ := hun
              obtain ⟨R0, hR0⟩ : ∃ R0, (R * 4294967296 + u0) % Y = R0 := ⟨_, rfl⟩
              rw [hR0] at n4 f2
              rw [HQ.out.1] at f1
              rw [HQ.out.2] at f2
              have n5 : (R0 : Int) / 2 ^ s = ((R0 / 2 ^ s : Nat) : Int) := by rw [pow_cast, ← Int.natCast_ediv]
              rw [f2] at n5
              have m1 : IntKind.u64.wrap ((ma : Int) * 4294967296) = ((ma * 4294967296 : Nat) : Int) := by rw [show (ma : Int) * 4294967296 = ((ma * 4294967296 : Nat) : Int) from by omega]; exact wrapS _ (by have := mab.out; omega)
              have m2 : IntKind.u64.wrap (((ma * 4294967296 : Nat) : Int) + (mb : Int)) = ((ma * 4294967296 + mb : Nat) : Int) := by rw [← Int.natCast_add]; exact wrapS _ (by have := mab.out; omega)
              rw [f1] at m2
              rw [eda.out] at m1
              rw [edb] at m2 n3
              clear f1 f2 v1 v2 hdb hfin hval hYs rest1 edb q0b hR0
              obtain ⟨qb, hqb⟩ : ∃ qb, ((ma * 4294967296 : Nat) : Int) = qb := ⟨_, rfl⟩
              rw [hqb] at m1 m2
              clear hqb HQ
              go_wp2_with fail
              go_ret2
              exact ⟨rfl, Below.refl _ _⟩
            · have c2' : rpb ≤ 4294967295 := by omega
              have T2 : Hid (∃ q rh : Nat, qIb - 1 = q ∧ rpb = rh ∧ Dig R u0 d1 d0 q rh ∧ rh < 4294967296 ∧ q ≤ 4294967297) := Lib.hid ⟨_, _, edb.symm, (by omega), t2, (by omega), (by omega)⟩
              clear t1 t2 t3 c2 hqb hrb hdigb hnb hmb hrpb edb
              go_wp2_with fail
              go_round
              case rel => exact ⟨qIb - 1, rpb, rfl, rfl, T2, by omega⟩
              case measure => simp [intOf]; omega

          · have c1' : qIb ≤ 4294967295 := by omega
            have fA0 : IntKind.u64.wrap (((qb : Nat) : Int) * (d0 : Int)) = ((qb * d0 : Nat) : Int) := by
              rw [← Int.natCast_mul]
              have : qb * d0 ≤ 4294967295 * 4294967295 := Nat.mul_le_mul (show qb ≤ 4294967295 by omega) (show d0 ≤ 4294967295 by omega)
              exact wrapS _ (by omega)
            rw [← hqb] at fA0
            obtain ⟨A, hA⟩ : ∃ A : Int, A = ((qb * d0 : Nat) : Int) := ⟨_, rfl⟩
            have fA : IntKind.u64.wrap (qIb * (d0 : Int)) = A := fA0.trans hA.symm
            obtain ⟨E, hE⟩ : ∃ E : Int, E = 4294967296 * rIb + (u0 : Int) := ⟨_, rfl⟩
            obtain ⟨E1, hE1⟩ : ∃ E1 : Int, E1 = 4294967296 * rIb := ⟨_, rfl⟩
            have fE1 : IntKind.u64.wrap (4294967296 * rIb) = E1 := by rw [IntKind.wrap_u64, hE1]; omega
            have fE1' : 4294967296 * rIb = E1 := hE1.symm
            have fE : IntKind.u64.wrap (E1 + (u0 : Int)) = E := by rw [IntKind.wrap_u64, hE1, hE]; omega
            have fE' : E1 + (u0 : Int) = E := by rw [hE1, hE]
            clear fA0
            by_cases c3 : 4294967296 * rhb + u0 < qb * d0
            · obtain ⟨t1, t2, t3⟩ := dig_next b1 hRd b5 hdigb (.inr c3)
              generalize qb * d0 = A0 at *
              have c3' : decide (E < A) = true := decide_eq_true (by omega)
              clear c1 c3 hA hE hE1
              obtain ⟨rpb, hrpb⟩ : ∃ rp : Int, rp = rIb + (d1 : Int) := ⟨_, rfl⟩
              have p3b : rIb + (d1 : Int) = rpb := hrpb.symm
              have p4b : IntKind.u64.wrap (rIb + (d1 : Int)) = rpb := by rw [p3b, IntKind.wrap_u64]; omega
              have p5b : 0 ≤ rpb := by omega
              have p6b : rpb ≤ 8589934591 := by omega
              have edb : ((qb - 1 : Nat) : Int) = qIb - 1 := by omega
              have i4b : 1 ≤ qIb := by omega
              by_cases c2 : 4294967296 ≤ rhb + d1
              · have c2' : 4294967296 ≤ rpb := by omega
                have hdb := dig_leave b1 b3 t2 t3 c2
                clear t1 t2 t3 c2 hqb hrb hdigb hnb hmb hrpb
                generalize qb - 1 = mb at *
                obtain ⟨v1, v2⟩ := dig_rest R u0 (d1 * 4294967296 + d0) mb (by omega) hdb
                have q0b : mb < 4294967296 := by
                  rw [hdb, Nat.div_lt_iff_lt_mul (by omega)]
                  omega
                rw [← hYd_.out] at v1 v2
                obtain ⟨RB, S2, T2, n1, n2, n3, n4, -, -, -⟩ := rest_wrap R u0 Y mb _ v1 (by omega) (by omega)
                have hfin := two_digits H u1 u0 Y ma R mb _ rest1.out v1 v2
                have hun := unshift (hi * 18446744073709551616 + lo) y s
                rw [← hval.out, ← hYs.out, hfin.1, hfin.2] at hun
                obtain ⟨f1, f2⟩ := hun
                obtain ⟨R0, hR0⟩ : ∃ R0, (R * 4294967296 + u0) % Y = R0 := ⟨_, rfl⟩
                rw [hR0] at n4 f2
                rw [HQ.out.1] at f1
                rw [HQ.out.2] at f2
                have n5 : (R0 : Int) / 2 ^ s = ((R0 / 2 ^ s : Nat) : Int) := by rw [pow_cast, ← Int.natCast_ediv]
                rw [f2] at n5
                have m1 : IntKind.u64.wrap ((ma : Int) * 4294967296) = ((ma * 4294967296 : Nat) : Int) := by rw [show (ma : Int) * 4294967296 = ((ma * 4294967296 : Nat) : Int) from by omega]; exact wrapS _ (by have := mab.out; omega)
                have m2 : IntKind.u64.wrap (((ma * 4294967296 : Nat) : Int) + (mb : Int)) = ((ma * 4294967296 + mb : Nat) : Int) := by rw [← Int.natCast_add]; exact wrapS _ (by have := mab.out; omega)
                rw [f1] at m2
                rw [eda.out] at m1
                rw [edb] at m2 n3
                clear f1 f2 v1 v2 hdb hfin hval hYs rest1 edb q0b hR0
                obtain ⟨qb, hqb⟩ : ∃ qb, ((ma * 4294967296 : Nat) : Int) = qb := ⟨_, rfl⟩
                rw [hqb] at m1 m2
                clear hqb HQ
                go_wp2_with fail
                go_ret2
                exact ⟨rfl, Below.refl _ _⟩
              · have c2' : rpb ≤ 4294967295 := by omega
                have T2 : Hid (∃ q rh : Nat, qIb - 1 = q ∧ rpb = rh ∧ Dig R u0 d1 d0 q rh ∧ rh < 4294967296 ∧ q ≤ 4294967297) := Lib.hid ⟨_, _, edb.symm, (by omega), t2, (by omega), (by omega)⟩
                clear t1 t2 t3 c2 hqb hrb hdigb hnb hmb hrpb edb
                go_wp2_with fail
                go_round
                case rel => exact ⟨qIb - 1, rpb, rfl, rfl, T2, by omega⟩
                case measure => simp [intOf]; omega

            · have hdb := dig_stop b1 hdigb (by omega)
              generalize qb * d0 = A0 at *
              have c3' : decide (E < A) = false := decide_eq_false (by omega)
              have edb : ((qb : Nat) : Int) = qIb := hqb.symm
              clear c1 c3 hA hE hE1 hqb hrb hdigb hnb hmb
              generalize qb = mb at *
              obtain ⟨v1, v2⟩ := dig_rest R u0 (d1 * 4294967296 + d0) mb (by omega) hdb
              have q0b : mb < 4294967296 := by
                rw [hdb, Nat.div_lt_iff_lt_mul (by omega)]
                omega
              rw [← hYd_.out] at v1 v2
              obtain ⟨RB, S2, T2, n1, n2, n3, n4, -, -, -⟩ := rest_wrap R u0 Y mb _ v1 (by omega) (by omega)
              have hfin := two_digits H u1 u0 Y ma R mb _ rest1.out v1 v2
              have hun := unshift (hi * 18446744073709551616 + lo) y s
              rw [← hval.out, ← hYs.out, hfin.1, hfin.2] at hun
              obtain ⟨f1, f2⟩ := hun
              obtain ⟨R0, hR0⟩ : ∃ R0, (R * 4294967296 + u0) % Y = R0 := ⟨_, rfl⟩
              rw [hR0] at n4 f2
              rw [HQ.out.1] at f1
              rw [HQ.out.2] at f2
              have n5 : (R0 : Int) / 2 ^ s = ((R0 / 2 ^ s : Nat) : Int) := by rw [pow_cast, ← Int.natCast_ediv]
              rw [f2] at n5
              have m1 : IntKind.u64.wrap ((ma : Int) * 4294967296) = ((ma * 4294967296 : Nat) : Int) := by rw [show (ma : Int) * 4294967296 = ((ma * 4294967296 : Nat) : Int) from by omega]; exact wrapS _ (by have := mab.out; omega)
              have m2 : IntKind.u64.wrap (((ma * 4294967296 : Nat) : Int) + (mb : Int)) = ((ma * 4294967296 + mb : Nat) : Int) := by rw [← Int.natCast_add]; exact wrapS _ (by have := mab.out; omega)
              rw [f1] at m2
              rw [eda.out] at m1
              rw [edb] at m2 n3
              clear f1 f2 v1 v2 hdb hfin hval hYs rest1 edb q0b hR0
              obtain ⟨qb, hqb⟩ : ∃ qb, ((ma * 4294967296 : Nat) : Int) = qb := ⟨_, rfl⟩
              rw [hqb] at m1 m2
              clear hqb HQ
              go_wp2_with fail
              go_ret2
              exact ⟨rfl, Below.refl _ _⟩

end Go.Proofs.YtpabgmdgoghahaaDoor.div
