/- Divide of the reference: the walk. -/
import Derived.Test.YtpabgmdgoghahaaDoorDe
set_option linter.unusedVariables false
set_option linter.unusedSimpArgs false
namespace Go.Proofs.YtpabgmdgoghahaaDoor.div
open Go.Sort Go.ChangeShapes Go.WideShapes Go.ChangeAt Go.RowKit
theorem cap_next (Q c : Nat) : (4503599627370496 < 2 * capQ Q + (c : Int) → capQ (2 * Q + c) = 4503599627370497) ∧ (2 * capQ Q + (c : Int) ≤ 4503599627370496 → capQ (2 * Q + c) = 2 * capQ Q + (c : Int)) := by
  unfold capQ
  constructor
  · intro h
    split at h
    · rw [if_neg (by omega)]
    · rw [if_neg (by omega)]
  · intro h
    split at h
    · rename_i hq
      rw [if_pos (by omega), if_pos hq]; omega
    · omega
set_option maxRecDepth 20000 in
set_option maxHeartbeats 2000000 in
theorem divide_any (a n d : Nat) (w : World) (ha : a ≤ 4503599627370496) (hn : n ≤ 4503599627370496) (hd1 : 1 ≤ d) (hd : d ≤ 70368744177664) :
    Calls Tryd.prog 52 #[.int .i64 a, .int .i64 n, .int .i64 d, .int .i64 4503599627370496] w fun e w' => e = .returned (.tuple #[.int .i64 (capQ (n * a / d)), .int .i64 ((n * a % d : Nat) : Int)]) ∧ w = w' := by
  have dz : ((d : Int) == 0) = false := beq_eq_false_iff_ne.2 (by omega)
  have dz2 : 1 ≤ (d : Int) := by omega
  obtain ⟨QQ, hQ⟩ : ∃ QQ, capQ (n * a / d) = QQ := ⟨_, rfl⟩
  obtain ⟨rr, hr⟩ : ∃ rr : Int, ((n * a % d : Nat) : Int) = rr := ⟨_, rfl⟩
  rw [hQ, hr]
  have HQ := Lib.hid (And.intro hQ hr)
  clear hQ hr
  go_enter Tryd.func52, Tryd.ntmps52
  go_wp2_with fail
  go_loop [10, 11, 12] (fun x y z => ∃ (qI rI zI : Int), x = .int .i64 qI ∧ y = .int .i64 rI ∧ z = .int .i64 zI ∧ Hid (∃ k : Nat, k ≤ 53 ∧ zI = (k : Int) - 1 ∧ qI = capQ (n / 2 ^ k * a / d) ∧ rI = ((n / 2 ^ k * a % d : Nat) : Int)) ∧ -1 ≤ zI) (fun _ _ z => (intOf z + 1).toNat)
  case atStart =>
    have h53 : n / 2 ^ 53 = 0 := Nat.div_eq_of_lt (by omega)
    exact ⟨0, 0, 52, rfl, rfl, rfl, Lib.hid ⟨53, Nat.le_refl _, rfl, by rw [h53]; simp [capQ], by rw [h53]; simp⟩, by decide⟩
  case round =>
    obtain ⟨qI, rI, zI, rfl, rfl, rfl, hh, hz⟩ := hrel
    obtain ⟨k, hk, ez, eq_, er⟩ := hh.out
    clear hh
    by_cases hk0 : k = 0
    · subst hk0
      have z0 : zI = -1 := by omega
      subst z0
      have e1 : qI = QQ := by rw [eq_, ← HQ.out.1]; simp
      have e2 : rI = rr := by rw [er, ← HQ.out.2]; simp
      subst e1 e2
      clear eq_ er ez hk HQ
      go_wp2_with fail
      go_ret2
      exact ⟨rfl, rfl⟩
    · obtain ⟨j, rfl⟩ : ∃ j, k = j + 1 := ⟨k - 1, by omega⟩
      have zj : zI = (j : Int) := by omega
      obtain ⟨h0, h1, h2⟩ := bit_more a n d j hd1
      have hrd : n / 2 ^ (j + 1) * a % d < d := Nat.mod_lt _ (by omega)
      have hN : n / 2 ^ j ≤ n := Nat.div_le_self _ _
      have hsh : (n : Int) / 2 ^ zI.toNat = ((n / 2 ^ j : Nat) : Int) := by rw [zj, Int.toNat_natCast, pow_cast, ← Int.natCast_ediv]
      have hbit := and_one (n / 2 ^ j) (by omega)
      have hb2 : n / 2 ^ j % 2 = 0 ∨ n / 2 ^ j % 2 = 1 := by omega
      have qin := capQ_in (n / 2 ^ (j + 1) * a / d)
      rw [← eq_] at qin
      obtain ⟨N, hN'⟩ : ∃ N : Int, ((n / 2 ^ j : Nat) : Int) = N := ⟨_, rfl⟩
      rw [hN'] at hsh hbit
      have cn := cap_next (n / 2 ^ (j + 1) * a / d) ((2 * (n / 2 ^ (j + 1) * a % d) + n / 2 ^ j % 2 * a) / d)
      rw [← h1, ← eq_] at cn
      have hc := Nat.div_le_self (2 * (n / 2 ^ (j + 1) * a % d) + n / 2 ^ j % 2 * a) d
      have za : 0 ≤ zI := by omega
      have zb : zI ≤ 52 := by omega
      have ra : 0 ≤ rI := by omega
      have rb : rI ≤ 70368744177664 := by omega
      have q1 := qin.1
      have q2 := qin.2
      rcases hb2 with hb | hb
      · rw [hb, Nat.zero_mul, Nat.add_zero] at h2 cn hc
        rw [hb] at hbit
        generalize n / 2 ^ (j + 1) * a % d = r0 at *
        have c1 : (2 * rI) = ((2 * r0 : Nat) : Int) := by rw [er]; omega
        have t1 : (2 * rI).tdiv (d : Int) = ((2 * r0 / d : Nat) : Int) := by rw [c1, Int.tdiv_eq_ediv_of_nonneg (Int.natCast_nonneg _), Int.natCast_ediv]
        have t1' : (2 * rI) / (d : Int) = ((2 * r0 / d : Nat) : Int) := by rw [c1, Int.natCast_ediv]
        have t2 : (2 * rI).tmod (d : Int) = ((2 * r0 % d : Nat) : Int) := by rw [c1, Int.tmod_eq_emod_of_nonneg (Int.natCast_nonneg _), Int.natCast_emod]
        have t2' : (2 * rI) % (d : Int) = ((2 * r0 % d : Nat) : Int) := by rw [c1, Int.natCast_emod]
        obtain ⟨C0, hCC⟩ : ∃ C0, 2 * r0 / d = C0 := ⟨_, rfl⟩
        rw [hCC] at t1 t1' cn hc
        obtain ⟨C, hC⟩ : ∃ C : Int, (C0 : Int) = C := ⟨_, rfl⟩
        rw [hC] at t1 t1' cn
        have hC0 : 0 ≤ C := by omega
        have hC1 : C ≤ 140737488355328 := by omega
        obtain ⟨RR, hRR⟩ : ∃ RR : Int, ((2 * r0 % d : Nat) : Int) = RR := ⟨_, rfl⟩
        rw [hRR] at t2 t2'
        have tb : IntKind.i64.wrap RR = RR := by
          have : 2 * r0 % d < d := Nat.mod_lt _ (by omega)
          rw [IntKind.wrap_i64]; omega
        have tw : IntKind.i64.wrap C = C := by rw [IntKind.wrap_i64]; omega
        by_cases hov : 4503599627370496 < 2 * qI + C
        · have HR : Hid (∃ k : Nat, k ≤ 53 ∧ zI - 1 = (k : Int) - 1 ∧ 4503599627370497 = capQ (n / 2 ^ k * a / d) ∧ RR = ((n / 2 ^ k * a % d : Nat) : Int)) := Lib.hid ⟨j, by omega, by omega, (cn.1 hov).symm, by rw [h2]; exact hRR.symm⟩
          clear c1 hCC cn hc er eq_ ez h0 h1 h2 hrd hN hb hC hRR qin hN' zj hk hk0 HQ
          go_wp2_with fail
          go_round
          case rel => exact ⟨_, RR, zI - 1, rfl, rfl, rfl, HR, by omega⟩
          case measure => simp [intOf]; omega
        · have HR : Hid (∃ k : Nat, k ≤ 53 ∧ zI - 1 = (k : Int) - 1 ∧ 2 * qI + C = capQ (n / 2 ^ k * a / d) ∧ RR = ((n / 2 ^ k * a % d : Nat) : Int)) := Lib.hid ⟨j, by omega, by omega, (cn.2 (by omega)).symm, by rw [h2]; exact hRR.symm⟩
          clear c1 hCC cn hc er eq_ ez h0 h1 h2 hrd hN hb hC hRR qin hN' zj hk hk0 HQ
          go_wp2_with fail
          go_round
          case rel => exact ⟨_, RR, zI - 1, rfl, rfl, rfl, HR, by omega⟩
          case measure => simp [intOf]; omega
      · rw [hb, Nat.one_mul] at h2 cn hc
        rw [hb] at hbit
        generalize n / 2 ^ (j + 1) * a % d = r0 at *
        have c1 : (2 * rI + (a : Int)) = (((2 * r0 + a) : Nat) : Int) := by rw [er]; omega
        have t1 : (2 * rI + (a : Int)).tdiv (d : Int) = (((2 * r0 + a) / d : Nat) : Int) := by rw [c1, Int.tdiv_eq_ediv_of_nonneg (Int.natCast_nonneg _), Int.natCast_ediv]
        have t1' : (2 * rI + (a : Int)) / (d : Int) = (((2 * r0 + a) / d : Nat) : Int) := by rw [c1, Int.natCast_ediv]
        have t2 : (2 * rI + (a : Int)).tmod (d : Int) = (((2 * r0 + a) % d : Nat) : Int) := by rw [c1, Int.tmod_eq_emod_of_nonneg (Int.natCast_nonneg _), Int.natCast_emod]
        have t2' : (2 * rI + (a : Int)) % (d : Int) = (((2 * r0 + a) % d : Nat) : Int) := by rw [c1, Int.natCast_emod]
        obtain ⟨C0, hCC⟩ : ∃ C0, (2 * r0 + a) / d = C0 := ⟨_, rfl⟩
        rw [hCC] at t1 t1' cn hc
        obtain ⟨C, hC⟩ : ∃ C : Int, (C0 : Int) = C := ⟨_, rfl⟩
        rw [hC] at t1 t1' cn
        have hC0 : 0 ≤ C := by omega
        have hC1 : C ≤ 4644337115725824 := by omega
        obtain ⟨RR, hRR⟩ : ∃ RR : Int, (((2 * r0 + a) % d : Nat) : Int) = RR := ⟨_, rfl⟩
        rw [hRR] at t2 t2'
        have tb : IntKind.i64.wrap RR = RR := by
          have : (2 * r0 + a) % d < d := Nat.mod_lt _ (by omega)
          rw [IntKind.wrap_i64]; omega
        have tw : IntKind.i64.wrap C = C := by rw [IntKind.wrap_i64]; omega
        have aa : (a : Int) ≤ 4503599627370496 := by omega
        by_cases hov : 4503599627370496 < 2 * qI + C
        · have HR : Hid (∃ k : Nat, k ≤ 53 ∧ zI - 1 = (k : Int) - 1 ∧ 4503599627370497 = capQ (n / 2 ^ k * a / d) ∧ RR = ((n / 2 ^ k * a % d : Nat) : Int)) := Lib.hid ⟨j, by omega, by omega, (cn.1 hov).symm, by rw [h2]; exact hRR.symm⟩
          clear c1 hCC cn hc er eq_ ez h0 h1 h2 hrd hN hb hC hRR qin hN' zj hk hk0 HQ
          go_wp2_with fail
          go_round
          case rel => exact ⟨_, RR, zI - 1, rfl, rfl, rfl, HR, by omega⟩
          case measure => simp [intOf]; omega
        · have HR : Hid (∃ k : Nat, k ≤ 53 ∧ zI - 1 = (k : Int) - 1 ∧ 2 * qI + C = capQ (n / 2 ^ k * a / d) ∧ RR = ((n / 2 ^ k * a % d : Nat) : Int)) := Lib.hid ⟨j, by omega, by omega, (cn.2 (by omega)).symm, by rw [h2]; exact hRR.symm⟩
          clear c1 hCC cn hc er eq_ ez h0 h1 h2 hrd hN hb hC hRR qin hN' zj hk hk0 HQ
          go_wp2_with fail
          go_round
          case rel => exact ⟨_, RR, zI - 1, rfl, rfl, rfl, HR, by omega⟩
          case measure => simp [intOf]; omega
end Go.Proofs.YtpabgmdgoghahaaDoor.div
