/- The reference's Parse. -/
import Derived.Test.YtbfmfnfndmfeeaaDoorU
import Derived.StillTailTactics
import Derived.IntWalk
set_option linter.unusedVariables false
set_option linter.unusedSimpArgs false
namespace Go.Proofs.YtbfmfnfndmfeeaaDoor
open Go.Sort Go.ChangeShapes Go.WideShapes Go.ChangeAt Go.RowKit
open cal
def okAt (i : Nat) (z : Int) : Bool := if i = 4 ∨ i = 7 then z == 45 else decide (48 ≤ z ∧ z ≤ 57)
def pa (i : Nat) : Nat := if i ≤ 4 then 0 else if i ≤ 7 then 1 else 2
def stA (z : Nat → Int) : Nat → Int | 0 => 0 | i + 1 => if i < 4 then stA z i * 10 + (z i - 48) else stA z i
def stB (z : Nat → Int) : Nat → Int | 0 => 0 | i + 1 => if i = 5 ∨ i = 6 then stB z i * 10 + (z i - 48) else stB z i
def stC (z : Nat → Int) : Nat → Int | 0 => 0 | i + 1 => if 8 ≤ i then stC z i * 10 + (z i - 48) else stC z i
theorem cell3 {w : World} {g t : Nat} {x y z : Value} (h : Blk w g t #[x, y, z]) : w.cell? ⟨g, 0, none⟩ = some x ∧ w.cell? ⟨g, 1, none⟩ = some y ∧ w.cell? ⟨g, 2, none⟩ = some z ∧ g < w.heap.size :=
  ⟨h.cell 0, h.cell 1, h.cell 2, h.lt⟩
def upper (i k : Nat) : Int := if i ≤ k then 0 else if i = k + 1 then 9 else if i = k + 2 then 99 else if i = k + 3 then 999 else 9999
theorem upper_step (i k : Nat) (A z : Int) (h : A ≤ upper i k) (hk : k ≤ i) (hi : i < k + 4) (hz : z ≤ 9) : A * 10 + z ≤ upper (i + 1) k := by
  obtain ⟨j, rfl⟩ : ∃ j, i = k + j := ⟨i - k, by omega⟩
  have hj : j = 0 ∨ j = 1 ∨ j = 2 ∨ j = 3 := by omega
  rcases hj with rfl | rfl | rfl | rfl <;> simp [upper] at h ⊢ <;> omega
theorem upper_mono (i k : Nat) (A : Int) (h : A ≤ upper i k) : A ≤ upper (i + 1) k := by
  refine Int.le_trans h ?_
  by_cases h0 : i ≤ k
  · unfold upper; rw [if_pos h0]; (repeat' split) <;> omega
  · obtain ⟨j, rfl⟩ : ∃ j, i = k + (j + 1) := ⟨i - k - 1, by omega⟩
    have hj : j = 0 ∨ j = 1 ∨ j = 2 ∨ ∃ m, j = m + 3 := by rcases j with _ | _ | _ | m <;> simp
    rcases hj with rfl | rfl | rfl | ⟨m, rfl⟩ <;> simp [upper] <;> (repeat' split) <;> omega
set_option maxHeartbeats 4000000 in
set_option maxRecDepth 20000 in
theorem rparse_bad (s : ByteArray) (z : Nat → Int) (hs : s.size = 10) (hz : ∀ i (h : i < s.size), ((s[i]'h).toNat : Int) = z i) (k : Nat) (hk : k < 10) (hg : ∀ i, i < k → okAt i (z i) = true) (hbad : okAt k (z k) = false) (w : World) :
    Calls Tryd.prog 25 #[.string s] w fun e w' => e = .returned (.tuple #[.int .i64 0, .int .i64 2]) ∧ Below w.heap.size w w' := by
  have HZ := Lib.hid hz
  have HG := Lib.hid hg
  have hs2 : (s.size : Int) = 10 := by omega
  clear hz hg
  go_enter Tryd.func25, Tryd.ntmps25
  go_wp2_with fail
  go_loopw [5, 6] (fun t x wr => ∃ (i : Nat) (A B C : Int), i ≤ k ∧ x = .int .i64 i ∧ t = .int .i64 (pa i) ∧ Hid (stA z i = A ∧ stB z i = B ∧ stC z i = C) ∧ 0 ≤ A ∧ A ≤ upper i 0 ∧ 0 ≤ B ∧ B ≤ upper i 5 ∧ 0 ≤ C ∧ C ≤ upper i 8 ∧ Below w.heap.size w wr ∧ Blk wr w.heap.size 3 #[.int .i64 A, .int .i64 B, .int .i64 C]) (fun _ x _ => k - (intOf x).toNat)
  case atStart => exact ⟨0, 0, 0, 0, Nat.zero_le _, rfl, rfl, Lib.hid ⟨rfl, rfl, rfl⟩, by decide, by decide, by decide, by decide, by decide, by decide, al (Below.refl _ _), Blk.new _ _ _⟩
  case round =>
    obtain ⟨i, A, B, C, hi, rfl, rfl, HSt, a0, a1, b0, b1, c0, c1, hB, hK⟩ := hrel
    have HB := Lib.hid hB
    have HK := Lib.hid hK
    clear hB hK
    have hin2 : i < s.size := by omega
    have hin10 : i < 10 := by omega
    have hu : upper i 0 ≤ 9999 ∧ upper i 5 ≤ 9999 ∧ upper i 8 ≤ 9999 := by unfold upper; refine ⟨?_, ?_, ?_⟩ <;> (repeat' split) <;> omega
    by_cases hin : i < k
    · have hd := HG.out i hin
      by_cases h4 : i = 4
      · subst h4
        have z45 : z 4 = 45 := by have h := HG.out 4 hin; simpa [okAt] using h
        have ez : ((s[4]'hin2).toNat : Int) = 45 := (HZ.out 4 hin2).trans z45
        have HS2 := Lib.hid (show stA z 5 = A ∧ stB z 5 = B ∧ stC z 5 = C from HSt.out)
        clear z45 HSt
        go_wp2_with fail
        go_round
        case rel => exact ⟨5, A, B, C, hin, rfl, congrArg (Value.int .i64) (by decide +kernel), HS2, a0, upper_mono _ _ _ a1, b0, upper_mono _ _ _ b1, c0, upper_mono _ _ _ c1, HB.out, HK.out⟩
        case measure => simp [intOf]; omega
      · by_cases h7 : i = 7
        · subst h7
          have z45 : z 7 = 45 := by have h := HG.out 7 hin; simpa [okAt] using h
          have ez : ((s[7]'hin2).toNat : Int) = 45 := (HZ.out 7 hin2).trans z45
          have HS2 := Lib.hid (show stA z 8 = A ∧ stB z 8 = B ∧ stC z 8 = C from HSt.out)
          clear z45 HSt
          go_wp2_with fail
          go_round
          case rel => exact ⟨8, A, B, C, hin, rfl, congrArg (Value.int .i64) (by decide +kernel), HS2, a0, upper_mono _ _ _ a1, b0, upper_mono _ _ _ b1, c0, upper_mono _ _ _ c1, HB.out, HK.out⟩
          case measure => simp [intOf]; omega
        · unfold okAt at hd
          rw [if_neg (by omega), decide_eq_true_iff] at hd
          obtain ⟨y0, y1⟩ := hd
          obtain ⟨Z, hZ⟩ : ∃ Z, z i = Z := ⟨_, rfl⟩
          rw [hZ] at y0 y1
          have HZi := Lib.hid hZ
          have ez : ((s[i]'hin2).toNat : Int) = Z := (HZ.out i hin2).trans hZ
          have t4 : ((i : Int) == 4) = false := by rw [beq_eq_false_iff_ne]; omega
          have t7 : ((i : Int) == 7) = false := by rw [beq_eq_false_iff_ne]; omega
          have w1 : IntKind.u8.wrap (Z - 48) = Z - 48 := by rw [IntKind.wrap_u8]; omega
          have w2 : IntKind.i64.wrap (Z - 48) = Z - 48 := IntWalk.i64_in _ (by omega)
          have hlt : (i : Int) < 10 := by omega
          clear hZ hbad
          rcases (show i < 4 ∨ (5 ≤ i ∧ i ≤ 6) ∨ (8 ≤ i ∧ i ≤ 9) by omega) with g | g | g
          · have w3 : IntKind.i64.wrap (A * 10) = A * 10 := IntWalk.i64_in _ (by omega)
            have w4 : IntKind.i64.wrap (A * 10 + (Z - 48)) = A * 10 + (Z - 48) := IntWalk.i64_in _ (by omega)
            have hp : pa i = 0 := by unfold pa; split <;> (try split) <;> omega
            have hpn : pa (i + 1) = 0 := by unfold pa; split <;> (try split) <;> omega
            rw [hp]
            obtain ⟨q0, q1, q2, q3⟩ := cell3 HK.out
            go_wp2_with fail
            refine wp_region_still_tail 14 (by kernel_rfl) (by kernel_rfl) ?_
            change wpStill _ _ wr.drew _ _ _
            have r0 : wr.drew.cell? ⟨w.heap.size, 0, none⟩ = some (.int .i64 A) := q0
            have r1 : wr.drew.frozen? ⟨w.heap.size, 0, none⟩ = false := HK.out.frozen 0
            simp only [List.take_succ_cons, List.take_zero, List.drop_succ_cons, List.drop_zero]
            repeat (first | still_step)
            refine wpStill_nil ?_
            change wpList _ _ _ _ _ wr.drew
            go_wp2_with fail
            go_round
            case rel =>
              have hnew : Blk (wr.setCell ⟨w.heap.size, 0, none⟩ (.int .i64 (A * 10 + (Z - 48)))) w.heap.size 3 #[.int .i64 (A * 10 + (Z - 48)), .int .i64 B, .int .i64 C] := by simpa using HK.out.set_ 0 (.int .i64 (A * 10 + (Z - 48)))
              refine ⟨i + 1, (A * 10 + (Z - 48)), B, C, hin, rfl, by rw [hpn]; rfl, Lib.hid ⟨?_, ?_, ?_⟩, by omega, upper_step _ _ _ _ a1 (by omega) (by omega) (by omega), by omega, upper_mono _ _ _ b1, by omega, upper_mono _ _ _ c1, ?_, hnew⟩
              · show (if i < 4 then stA z i * 10 + (z i - 48) else stA z i) = _
                rw [if_pos g, HSt.out.1, HZi.out]
              · show (if i = 5 ∨ i = 6 then stB z i * 10 + (z i - 48) else stB z i) = _
                rw [if_neg (by omega), HSt.out.2.1]
              · show (if 8 ≤ i then stC z i * 10 + (z i - 48) else stC z i) = _
                rw [if_neg (by omega), HSt.out.2.2]
              · exact HB.out.drew.setCell (p := ⟨w.heap.size, 0, none⟩) (Nat.le_refl _) _
            case measure => simp [intOf]; omega

          · have w3 : IntKind.i64.wrap (B * 10) = B * 10 := IntWalk.i64_in _ (by omega)
            have w4 : IntKind.i64.wrap (B * 10 + (Z - 48)) = B * 10 + (Z - 48) := IntWalk.i64_in _ (by omega)
            have hp : pa i = 1 := by unfold pa; split <;> (try split) <;> omega
            have hpn : pa (i + 1) = 1 := by unfold pa; split <;> (try split) <;> omega
            rw [hp]
            obtain ⟨q0, q1, q2, q3⟩ := cell3 HK.out
            go_wp2_with fail
            refine wp_region_still_tail 14 (by kernel_rfl) (by kernel_rfl) ?_
            change wpStill _ _ wr.drew _ _ _
            have r0 : wr.drew.cell? ⟨w.heap.size, 1, none⟩ = some (.int .i64 B) := q1
            have r1 : wr.drew.frozen? ⟨w.heap.size, 1, none⟩ = false := HK.out.frozen 1
            simp only [List.take_succ_cons, List.take_zero, List.drop_succ_cons, List.drop_zero]
            repeat (first | still_step)
            refine wpStill_nil ?_
            change wpList _ _ _ _ _ wr.drew
            go_wp2_with fail
            go_round
            case rel =>
              have hnew : Blk (wr.setCell ⟨w.heap.size, 1, none⟩ (.int .i64 (B * 10 + (Z - 48)))) w.heap.size 3 #[.int .i64 A, .int .i64 (B * 10 + (Z - 48)), .int .i64 C] := by simpa using HK.out.set_ 1 (.int .i64 (B * 10 + (Z - 48)))
              refine ⟨i + 1, A, (B * 10 + (Z - 48)), C, hin, rfl, by rw [hpn]; rfl, Lib.hid ⟨?_, ?_, ?_⟩, by omega, upper_mono _ _ _ a1, by omega, upper_step _ _ _ _ b1 (by omega) (by omega) (by omega), by omega, upper_mono _ _ _ c1, ?_, hnew⟩
              · show (if i < 4 then stA z i * 10 + (z i - 48) else stA z i) = _
                rw [if_neg (by omega), HSt.out.1]
              · show (if i = 5 ∨ i = 6 then stB z i * 10 + (z i - 48) else stB z i) = _
                rw [if_pos (by omega), HSt.out.2.1, HZi.out]
              · show (if 8 ≤ i then stC z i * 10 + (z i - 48) else stC z i) = _
                rw [if_neg (by omega), HSt.out.2.2]
              · exact HB.out.drew.setCell (p := ⟨w.heap.size, 1, none⟩) (Nat.le_refl _) _
            case measure => simp [intOf]; omega

          · have w3 : IntKind.i64.wrap (C * 10) = C * 10 := IntWalk.i64_in _ (by omega)
            have w4 : IntKind.i64.wrap (C * 10 + (Z - 48)) = C * 10 + (Z - 48) := IntWalk.i64_in _ (by omega)
            have hp : pa i = 2 := by unfold pa; split <;> (try split) <;> omega
            have hpn : pa (i + 1) = 2 := by unfold pa; split <;> (try split) <;> omega
            rw [hp]
            obtain ⟨q0, q1, q2, q3⟩ := cell3 HK.out
            go_wp2_with fail
            refine wp_region_still_tail 14 (by kernel_rfl) (by kernel_rfl) ?_
            change wpStill _ _ wr.drew _ _ _
            have r0 : wr.drew.cell? ⟨w.heap.size, 2, none⟩ = some (.int .i64 C) := q2
            have r1 : wr.drew.frozen? ⟨w.heap.size, 2, none⟩ = false := HK.out.frozen 2
            simp only [List.take_succ_cons, List.take_zero, List.drop_succ_cons, List.drop_zero]
            repeat (first | still_step)
            refine wpStill_nil ?_
            change wpList _ _ _ _ _ wr.drew
            go_wp2_with fail
            go_round
            case rel =>
              have hnew : Blk (wr.setCell ⟨w.heap.size, 2, none⟩ (.int .i64 (C * 10 + (Z - 48)))) w.heap.size 3 #[.int .i64 A, .int .i64 B, .int .i64 (C * 10 + (Z - 48))] := by simpa using HK.out.set_ 2 (.int .i64 (C * 10 + (Z - 48)))
              refine ⟨i + 1, A, B, (C * 10 + (Z - 48)), hin, rfl, by rw [hpn]; rfl, Lib.hid ⟨?_, ?_, ?_⟩, by omega, upper_mono _ _ _ a1, by omega, upper_mono _ _ _ b1, by omega, upper_step _ _ _ _ c1 (by omega) (by omega) (by omega), ?_, hnew⟩
              · show (if i < 4 then stA z i * 10 + (z i - 48) else stA z i) = _
                rw [if_neg (by omega), HSt.out.1]
              · show (if i = 5 ∨ i = 6 then stB z i * 10 + (z i - 48) else stB z i) = _
                rw [if_neg (by omega), HSt.out.2.1]
              · show (if 8 ≤ i then stC z i * 10 + (z i - 48) else stC z i) = _
                rw [if_pos (by omega), HSt.out.2.2, HZi.out]
              · exact HB.out.drew.setCell (p := ⟨w.heap.size, 2, none⟩) (Nat.le_refl _) _
            case measure => simp [intOf]; omega

    · have hE : i = k := by omega
      subst hE
      obtain ⟨Z, hZ⟩ : ∃ Z, z i = Z := ⟨_, rfl⟩
      have ez : ((s[i]'hin2).toNat : Int) = Z := (HZ.out i hin2).trans hZ
      rw [hZ] at hbad
      have hlt : (i : Int) < 10 := by omega
      unfold okAt at hbad
      by_cases h4 : i = 4
      · subst h4
        have u1 : (Z == 45) = false := by simpa using hbad
        have u2 : (Z != 45) = true := by simp only [bne, u1]; rfl
        clear hZ hbad HSt
        go_wp2_with fail
        exact bodyPost_ret (v := .tuple #[.int .i64 0, .int .i64 2]) (by simp [results, Tryd.results25, go_sem]) rfl ⟨rfl, HB.out⟩
      · by_cases h7 : i = 7
        · subst h7
          have u1 : (Z == 45) = false := by simpa using hbad
          have u2 : (Z != 45) = true := by simp only [bne, u1]; rfl
          clear hZ hbad HSt
          go_wp2_with fail
          exact bodyPost_ret (v := .tuple #[.int .i64 0, .int .i64 2]) (by simp [results, Tryd.results25, go_sem]) rfl ⟨rfl, HB.out⟩
        · rw [if_neg (by omega), decide_eq_false_iff_not] at hbad
          have t4 : ((i : Int) == 4) = false := by rw [beq_eq_false_iff_ne]; omega
          have t7 : ((i : Int) == 7) = false := by rw [beq_eq_false_iff_ne]; omega
          clear hZ HSt
          rcases (show Z < 48 ∨ (48 ≤ Z ∧ 57 < Z) by omega) with v | ⟨v, v2⟩
          all_goals clear hbad
          all_goals go_wp2_with fail
          all_goals exact bodyPost_ret (v := .tuple #[.int .i64 0, .int .i64 2]) (by simp [results, Tryd.results25, go_sem]) rfl ⟨rfl, HB.out⟩
end Go.Proofs.YtbfmfnfndmfeeaaDoor
