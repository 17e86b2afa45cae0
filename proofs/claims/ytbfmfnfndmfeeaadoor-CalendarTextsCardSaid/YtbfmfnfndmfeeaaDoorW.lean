/- The reference's Parse. -/
import Derived.Test.YtbfmfnfndmfeeaaDoorV
import Derived.StillTailTactics
import Derived.Deep.RegionHeld3
import Derived.Deep.DeepCutAuto
import Derived.Tactics2
import Derived.IntWalk
set_option linter.unusedVariables false
set_option linter.unusedSimpArgs false
namespace Go.Proofs.YtbfmfnfndmfeeaaDoor
open Go.Sort Go.ChangeShapes Go.WideShapes Go.ChangeAt Go.RowKit
open cal
abbrev R3 (w : World) (A B C : Int) (w' : World) : Prop := w'.cell? ⟨w.heap.size, 0, none⟩ = some (.int .i64 A) ∧ w'.cell? ⟨w.heap.size, 1, none⟩ = some (.int .i64 B) ∧ w'.cell? ⟨w.heap.size, 2, none⟩ = some (.int .i64 C) ∧ Below w.heap.size w w'
theorem R3.call {w : World} {A B C : Int} {W w1 : World} (h : R3 w A B C W) (hb : Below W.heap.size W w1) : R3 w A B C w1 :=
  ⟨(hb.cell (block_lt_of_cell h.1)).trans h.1, (hb.cell (block_lt_of_cell h.2.1)).trans h.2.1, (hb.cell (block_lt_of_cell h.2.2.1)).trans h.2.2.1, beI h.2.2.2 (Nat.le_refl _) hb⟩
theorem R3.drew {w : World} {A B C : Int} {W : World} (h : R3 w A B C W) : R3 w A B C W.drew := ⟨h.1, h.2.1, h.2.2.1, h.2.2.2.drew⟩
theorem R3.bel {w : World} {A B C : Int} {W : World} (h : R3 w A B C W) : Below w.heap.size w W := h.2.2.2
set_option maxHeartbeats 4000000 in
set_option maxRecDepth 20000 in
theorem rparse_ok (s : ByteArray) (z : Nat → Int) (k : Nat) (hk : k = 10) (hs : s.size = 10) (hz : ∀ i (h : i < s.size), ((s[i]'h).toNat : Int) = z i) (hg : ∀ i, i < k → okAt i (z i) = true) (w : World) :
    Calls Tryd.prog 25 #[.string s] w fun e w' => e = .returned (.tuple #[.int .i64 (ofV (stA z 10) (stB z 10) (stC z 10)), .int .i64 (ofE (stA z 10) (stB z 10) (stC z 10))]) ∧ Below w.heap.size w w' := by
  obtain ⟨V, hV⟩ : ∃ V, ofV (stA z 10) (stB z 10) (stC z 10) = V := ⟨_, rfl⟩
  obtain ⟨E, hE⟩ : ∃ E, ofE (stA z 10) (stB z 10) (stC z 10) = E := ⟨_, rfl⟩
  have HV := Lib.hid hV
  have HE := Lib.hid hE
  rw [hV, hE]
  clear hV hE
  have HZ := Lib.hid hz
  have HG := Lib.hid hg
  have hs2 : (s.size : Int) = 10 := by omega
  clear hz hg
  go_enter Tryd.func25, Tryd.ntmps25
  go_wp2_with fail
  go_loopw [5, 6] (fun t x wr => ∃ (i : Nat) (A B C : Int), i ≤ k ∧ x = .int .i64 i ∧ t = .int .i64 (pa i) ∧ Hid (stA z i = A ∧ stB z i = B ∧ stC z i = C) ∧ 0 ≤ A ∧ A ≤ upper i 0 ∧ 0 ≤ B ∧ B ≤ upper i 5 ∧ 0 ≤ C ∧ C ≤ upper i 8 ∧ Below w.heap.size w wr ∧ Blk wr w.heap.size 3 #[.int .i64 A, .int .i64 B, .int .i64 C]) (fun _ x _ => k - (intOf x).toNat)
  case atStart => exact ⟨0, 0, 0, 0, Nat.zero_le _, rfl, rfl, Lib.hid ⟨rfl, rfl, rfl⟩, by decide, by decide, by decide, by decide, by decide, by decide, al (Below.refl _ _), Blk.new _ _ _⟩
  case round =>
    obtain ⟨i, A, B, C, hi, rfl, rfl, HSt, a0, a1, b0, b1, c0, c1, hB, hK⟩ := hrel
    have HB := Lib.hid hB
    have HK := Lib.hid hK
    clear hB hK
    have hu : upper i 0 ≤ 9999 ∧ upper i 5 ≤ 9999 ∧ upper i 8 ≤ 9999 := by unfold upper; refine ⟨?_, ?_, ?_⟩ <;> (repeat' split) <;> omega
    by_cases hin : i < k
    · have hin2 : i < s.size := by omega
      have hin10 : i < 10 := by omega
      have hd := HG.out i hin
      by_cases h4 : i = 4
      · subst h4
        have z45 : z 4 = 45 := by have h := HG.out 4 hin; simpa [okAt] using h
        have ez : ((s[4]'hin2).toNat : Int) = 45 := (HZ.out 4 hin2).trans z45
        have HS2 := Lib.hid (show stA z 5 = A ∧ stB z 5 = B ∧ stC z 5 = C from HSt.out)
        clear z45 HSt
        go_wp2_with fail
        go_round
        case rel => exact ⟨5, A, B, C, hin, rfl, congrArg (Value.int .i64) (by decide +kernel), HS2, a0, upper_mono _ _ _ a1, b0, upper_mono _ _ _ b1, c0, upper_mono _ _ _ c1, HB.out, HK.out⟩
        case measure => simp [intOf]; omega
      · by_cases h7 : i = 7
        · subst h7
          have z45 : z 7 = 45 := by have h := HG.out 7 hin; simpa [okAt] using h
          have ez : ((s[7]'hin2).toNat : Int) = 45 := (HZ.out 7 hin2).trans z45
          have HS2 := Lib.hid (show stA z 8 = A ∧ stB z 8 = B ∧ stC z 8 = C from HSt.out)
          clear z45 HSt
          go_wp2_with fail
          go_round
          case rel => exact ⟨8, A, B, C, hin, rfl, congrArg (Value.int .i64) (by decide +kernel), HS2, a0, upper_mono _ _ _ a1, b0, upper_mono _ _ _ b1, c0, upper_mono _ _ _ c1, HB.out, HK.out⟩
          case measure => simp [intOf]; omega
        · unfold okAt at hd
          rw [if_neg (by omega), decide_eq_true_iff] at hd
          obtain ⟨y0, y1⟩ := hd
          obtain ⟨Z, hZ⟩ : ∃ Z, z i = Z := ⟨_, rfl⟩
          rw [hZ] at y0 y1
          have HZi := Lib.hid hZ
          have ez : ((s[i]'hin2).toNat : Int) = Z := (HZ.out i hin2).trans hZ
          have t4 : ((i : Int) == 4) = false := by rw [beq_eq_false_iff_ne]; omega
          have t7 : ((i : Int) == 7) = false := by rw [beq_eq_false_iff_ne]; omega
          have w1 : IntKind.u8.wrap (Z - 48) = Z - 48 := by rw [IntKind.wrap_u8]; omega
          have w2 : IntKind.i64.wrap (Z - 48) = Z - 48 := IntWalk.i64_in _ (by omega)
          have hlt : (i : Int) < 10 := by omega
          clear hZ
          rcases (show i < 4 ∨ (5 ≤ i ∧ i ≤ 6) ∨ (8 ≤ i ∧ i ≤ 9) by omega) with g | g | g
          · have w3 : IntKind.i64.wrap (A * 10) = A * 10 := IntWalk.i64_in _ (by omega)
            have w4 : IntKind.i64.wrap (A * 10 + (Z - 48)) = A * 10 + (Z - 48) := IntWalk.i64_in _ (by omega)
            have hp : pa i = 0 := by unfold pa; split <;> (try split) <;> omega
            have hpn : pa (i + 1) = 0 := by unfold pa; split <;> (try split) <;> omega
            rw [hp]
            obtain ⟨q0, q1, q2, q3⟩ := cell3 HK.out
            go_wp2_with fail
            refine wp_region_still_tail 14 (by kernel_rfl) (by kernel_rfl) ?_
            change wpStill _ _ wr.drew _ _ _
            have r0 : wr.drew.cell? ⟨w.heap.size, 0, none⟩ = some (.int .i64 A) := q0
            have r1 : wr.drew.frozen? ⟨w.heap.size, 0, none⟩ = false := HK.out.frozen 0
            simp only [List.take_succ_cons, List.take_zero, List.drop_succ_cons, List.drop_zero]
            repeat (first | still_step)
            refine wpStill_nil ?_
            change wpList _ _ _ _ _ wr.drew
            go_wp2_with fail
            go_round
            case rel =>
              have hnew : Blk (wr.setCell ⟨w.heap.size, 0, none⟩ (.int .i64 (A * 10 + (Z - 48)))) w.heap.size 3 #[.int .i64 (A * 10 + (Z - 48)), .int .i64 B, .int .i64 C] := by simpa using HK.out.set_ 0 (.int .i64 (A * 10 + (Z - 48)))
              refine ⟨i + 1, (A * 10 + (Z - 48)), B, C, hin, rfl, by rw [hpn]; rfl, Lib.hid ⟨?_, ?_, ?_⟩, by omega, upper_step _ _ _ _ a1 (by omega) (by omega) (by omega), by omega, upper_mono _ _ _ b1, by omega, upper_mono _ _ _ c1, ?_, hnew⟩
              · show (if i < 4 then stA z i * 10 + (z i - 48) else stA z i) = _
                rw [if_pos g, HSt.out.1, HZi.out]
              · show (if i = 5 ∨ i = 6 then stB z i * 10 + (z i - 48) else stB z i) = _
                rw [if_neg (by omega), HSt.out.2.1]
              · show (if 8 ≤ i then stC z i * 10 + (z i - 48) else stC z i) = _
                rw [if_neg (by omega), HSt.out.2.2]
              · exact HB.out.drew.setCell (p := ⟨w.heap.size, 0, none⟩) (Nat.le_refl _) _
            case measure => simp [intOf]; omega

          · have w3 : IntKind.i64.wrap (B * 10) = B * 10 := IntWalk.i64_in _ (by omega)
            have w4 : IntKind.i64.wrap (B * 10 + (Z - 48)) = B * 10 + (Z - 48) := IntWalk.i64_in _ (by omega)
            have hp : pa i = 1 := by unfold pa; split <;> (try split) <;> omega
            have hpn : pa (i + 1) = 1 := by unfold pa; split <;> (try split) <;> omega
            rw [hp]
            obtain ⟨q0, q1, q2, q3⟩ := cell3 HK.out
            go_wp2_with fail
            refine wp_region_still_tail 14 (by kernel_rfl) (by kernel_rfl) ?_
            change wpStill _ _ wr.drew _ _ _
            have r0 : wr.drew.cell? ⟨w.heap.size, 1, none⟩ = some (.int .i64 B) := q1
            have r1 : wr.drew.frozen? ⟨w.heap.size, 1, none⟩ = false := HK.out.frozen 1
            simp only [List.take_succ_cons, List.take_zero, List.drop_succ_cons, List.drop_zero]
            repeat (first | still_step)
            refine wpStill_nil ?_
            change wpList _ _ _ _ _ wr.drew
            go_wp2_with fail
            go_round
            case rel =>
              have hnew : Blk (wr.setCell ⟨w.heap.size, 1, none⟩ (.int .i64 (B * 10 + (Z - 48)))) w.heap.size 3 #[.int .i64 A, .int .i64 (B * 10 + (Z - 48)), .int .i64 C] := by simpa using HK.out.set_ 1 (.int .i64 (B * 10 + (Z - 48)))
              refine ⟨i + 1, A, (B * 10 + (Z - 48)), C, hin, rfl, by rw [hpn]; rfl, Lib.hid ⟨?_, ?_, ?_⟩, by omega, upper_mono _ _ _ a1, by omega, upper_step _ _ _ _ b1 (by omega) (by omega) (by omega), by omega, upper_mono _ _ _ c1, ?_, hnew⟩
              · show (if i < 4 then stA z i * 10 + (z i - 48) else stA z i) = _
                rw [if_neg (by omega), HSt.out.1]
              · show (if i = 5 ∨ i = 6 then stB z i * 10 + (z i - 48) else stB z i) = _
                rw [if_pos (by omega), HSt.out.2.1, HZi.out]
              · show (if 8 ≤ i then stC z i * 10 + (z i - 48) else stC z i) = _
                rw [if_neg (by omega), HSt.out.2.2]
              · exact HB.out.drew.setCell (p := ⟨w.heap.size, 1, none⟩) (Nat.le_refl _) _
            case measure => simp [intOf]; omega

          · have w3 : IntKind.i64.wrap (C * 10) = C * 10 := IntWalk.i64_in _ (by omega)
            have w4 : IntKind.i64.wrap (C * 10 + (Z - 48)) = C * 10 + (Z - 48) := IntWalk.i64_in _ (by omega)
            have hp : pa i = 2 := by unfold pa; split <;> (try split) <;> omega
            have hpn : pa (i + 1) = 2 := by unfold pa; split <;> (try split) <;> omega
            rw [hp]
            obtain ⟨q0, q1, q2, q3⟩ := cell3 HK.out
            go_wp2_with fail
            refine wp_region_still_tail 14 (by kernel_rfl) (by kernel_rfl) ?_
            change wpStill _ _ wr.drew _ _ _
            have r0 : wr.drew.cell? ⟨w.heap.size, 2, none⟩ = some (.int .i64 C) := q2
            have r1 : wr.drew.frozen? ⟨w.heap.size, 2, none⟩ = false := HK.out.frozen 2
            simp only [List.take_succ_cons, List.take_zero, List.drop_succ_cons, List.drop_zero]
            repeat (first | still_step)
            refine wpStill_nil ?_
            change wpList _ _ _ _ _ wr.drew
            go_wp2_with fail
            go_round
            case rel =>
              have hnew : Blk (wr.setCell ⟨w.heap.size, 2, none⟩ (.int .i64 (C * 10 + (Z - 48)))) w.heap.size 3 #[.int .i64 A, .int .i64 B, .int .i64 (C * 10 + (Z - 48))] := by simpa using HK.out.set_ 2 (.int .i64 (C * 10 + (Z - 48)))
              refine ⟨i + 1, A, B, (C * 10 + (Z - 48)), hin, rfl, by rw [hpn]; rfl, Lib.hid ⟨?_, ?_, ?_⟩, by omega, upper_mono _ _ _ a1, by omega, upper_mono _ _ _ b1, by omega, upper_step _ _ _ _ c1 (by omega) (by omega) (by omega), ?_, hnew⟩
              · show (if i < 4 then stA z i * 10 + (z i - 48) else stA z i) = _
                rw [if_neg (by omega), HSt.out.1]
              · show (if i = 5 ∨ i = 6 then stB z i * 10 + (z i - 48) else stB z i) = _
                rw [if_neg (by omega), HSt.out.2.1]
              · show (if 8 ≤ i then stC z i * 10 + (z i - 48) else stC z i) = _
                rw [if_pos (by omega), HSt.out.2.2, HZi.out]
              · exact HB.out.drew.setCell (p := ⟨w.heap.size, 2, none⟩) (Nat.le_refl _) _
            case measure => simp [intOf]; omega

    · have hE : i = k := by omega
      subst hE
      subst hk
      have hge : ¬ ((10 : Nat) : Int) < 10 := by omega
      obtain ⟨e1, e2, e3⟩ := HSt.out
      have OF : Hid (∀ w, _) := Lib.hid (fun w => rof_any A B C w)
      have hv := HV.out
      have he := HE.out
      rw [e1, e2, e3] at hv he
      rw [hv, he] at OF
      clear HSt e1 e2 e3 HG HZ hin hv he HV HE
      obtain ⟨q0, q1, q2, q3⟩ := cell3 HK.out
      have hB0 := HB.out
      go_wp2_with fail
      have hS : R3 w A B C wr := ⟨q0, q1, q2, hB0⟩
      clear q0 q1 q2 hB0
      go_region_held3 (fun w' => w'.cell? ⟨w.heap.size, 0, none⟩ = some (.int .i64 A) ∧ w'.cell? ⟨w.heap.size, 1, none⟩ = some (.int .i64 B) ∧ w'.cell? ⟨w.heap.size, 2, none⟩ = some (.int .i64 C) ∧ Below w.heap.size w w')
        (first | (exact R3.drew (by assumption)) | (exact R3.call (by assumption) (by assumption)))
        (first | (go_at_call 10; refine (OF.out _).mono ?_; rintro e w1 ⟨rfl, hb1⟩))
      all_goals
        have hBel : Below w.heap.size w w1 := R3.bel (by assumption)
        have HBel := Lib.hid hBel
        clear hBel
        go_wp2_with fail
        exact bodyPost_ret (v := .tuple #[.int .i64 _, .int .i64 _]) (by simp [results, Tryd.results25, go_sem]) rfl ⟨rfl, HBel.out⟩
end Go.Proofs.YtbfmfnfndmfeeaaDoor
