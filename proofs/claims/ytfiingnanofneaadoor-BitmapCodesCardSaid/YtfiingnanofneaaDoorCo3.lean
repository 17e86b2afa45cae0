/- Decode of the reference. -/
import Derived.Test.YtfiingnanofneaaDoorCo2
set_option linter.unusedVariables false
set_option linter.unusedSimpArgs false
namespace Go.Proofs.YtfiingnanofneaaDoor
open Go.Sort Go.ChangeShapes Go.WideShapes Go.ChangeAt Go.RowKit
theorem ext32 (s : ByteArray) (h : 32 ≤ s.size) : (s.extract 16 32).data.toList = h16 (rest s) ∧ (s.extract 16 32).size = 16 := by
  constructor
  · unfold h16 rest
    simp
    rw [List.take_of_length_le (i := s.size - 16) (by rw [List.length_drop]; exact Nat.le_of_eq (by rw [show s.data.toList.length = s.size from Array.length_toList]))]
  · simp; omega
theorem rest_size (s : ByteArray) : (rest s).size = s.size - 16 := by unfold rest; simp
theorem sub63 (a : Nat) (h1 : B63 ≤ a) (h2 : a < B64) : IntKind.u64.wrap ((a : Int) - 9223372036854775808) = ((a % B63 : Nat) : Int) := by
  unfold B63 B64 at *
  rw [IntKind.wrap_u64]
  omega
set_option maxHeartbeats 2000000 in
theorem rdec_any (s : ByteArray) (w : World) (hs : s.size ≤ maxLen) :
    Calls Tryd.prog 28 #[.string s] w fun e w' => e = .returned (.tuple #[bm (decR s).1 (decR s).2.1, .int .i64 (decR s).2.2.1, .int .i64 (decR s).2.2.2]) ∧ Below w.heap.size w w' := by
  unfold maxLen at hs
  have hs' : (s.size : Int) ≤ 9223372036854775807 := by omega
  have B1 := Lib.hid bit_one
  by_cases h16s : s.size < 16
  · have e1 : rdE s = 1 := if_pos h16s
    have e2 : decR s = (0, 0, 0, 1) := by unfold decR; rw [e1]; rfl
    rw [e2]
    have g : (s.size : Int) < 16 := by omega
    unfold bm
    go_enter Tryd.func28, Tryd.ntmps28
    go_wp2_with fail
    exact bodyPost_ret (v := .tuple #[.agg #[.int .u64 (0 : Nat), .int .u64 (0 : Nat)], .int .i64 0, .int .i64 1]) (by simp [results, Tryd.results28, go_sem]) rfl ⟨rfl, al (Below.refl _ _)⟩
  · obtain ⟨x1, x2⟩ := ext16 s (by omega)
    have g16 : ¬ (s.size : Int) < 16 := by omega
    have g16' : (16 : Int) ≤ (s.size : Int) := by omega
    have r1 := fun w => rread_any (s.extract 0 16) w x2
    rw [x1] at r1
    cases hA : allH (h16 s)
    · have e1 : rdE s = 2 := by unfold rdE; rw [if_neg h16s, if_pos hA]
      have e2 : decR s = (0, 0, 0, 2) := by unfold decR; rw [e1]; rfl
      rw [e2]
      rw [hA, if_neg (by simp)] at r1
      have R1 := Lib.hid r1
      unfold bm
      clear r1 h16s x1 x2 hA e1 e2
      go_enter Tryd.func28, Tryd.ntmps28
      go_wp2_with fail
      refine (R1.out _).mono ?_
      rintro e w1 ⟨rfl, hb⟩
      obtain ⟨d1, o1, rfl⟩ := regrow_of hb
      clear hb
      go_wp2_with fail
      exact bodyPost_ret (v := .tuple #[.agg #[.int .u64 (0 : Nat), .int .u64 (0 : Nat)], .int .i64 0, .int .i64 2]) (by simp [results, Tryd.results28, go_sem]) rfl ⟨rfl, bre (al (Below.refl _ _)) _ _⟩
    · have e1 : rdE s = 0 := by unfold rdE; rw [if_neg h16s, if_neg (by rw [hA]; simp)]
      have e2 : rdV s = valH (h16 s) := by unfold rdV; rw [if_pos e1]
      rw [hA, if_pos rfl, ← e2] at r1
      have hl := rdV_lt s
      have ha := and63 (rdV s) hl
      have R1 := Lib.hid r1
      clear r1 hA
      by_cases c2 : rdV s < B63
      · have e3 : decR s = (rdV s, 0, 16, 0) := by unfold decR; rw [e1, if_neg (by simp), if_pos c2]
        rw [e3]
        rw [if_pos c2] at ha
        have ha' : bits .and .u64 (rdV s : Int) 9223372036854775808 = 0 := ha
        generalize rdV s = V at *
        unfold bm
        clear c2 ha h16s hl e1 e2 e3 x1 x2
        go_enter Tryd.func28, Tryd.ntmps28
        go_wp2_with fail
        refine (R1.out _).mono ?_
        rintro e w1 ⟨rfl, hb⟩
        obtain ⟨d1, o1, rfl⟩ := regrow_of hb
        clear hb
        go_wp2_with (go_at_call 32; refine (B1.out _).mono ?_; rintro e w2 ⟨rfl, rfl⟩)
        exact bodyPost_ret (v := .tuple #[.agg #[.int .u64 V, .int .u64 (0 : Nat)], .int .i64 16, .int .i64 0]) (by simp [results, Tryd.results28, go_sem]) rfl ⟨rfl, bre (al (Below.refl _ _)) _ _⟩
      · rw [if_neg c2] at ha
        have ha' : bits .and .u64 (rdV s : Int) 9223372036854775808 = 9223372036854775808 := ha
        by_cases h32 : s.size < 32
        · have e4 : rdE (rest s) = 1 := if_pos (by rw [rest_size]; omega)
          have e3 : decR s = (0, 0, 0, 1) := by unfold decR; rw [e1, if_neg (by simp), if_neg c2, e4]; rfl
          rw [e3]
          have g32 : (s.size : Int) < 32 := by omega
          generalize rdV s = V at *
          unfold bm
          clear c2 ha h16s hl e1 e2 e3 e4 x1 x2 h32
          go_enter Tryd.func28, Tryd.ntmps28
          go_wp2_with fail
          refine (R1.out _).mono ?_
          rintro e w1 ⟨rfl, hb⟩
          obtain ⟨d1, o1, rfl⟩ := regrow_of hb
          clear hb
          go_wp2_with (go_at_call 32; refine (B1.out _).mono ?_; rintro e w2 ⟨rfl, rfl⟩)
          exact bodyPost_ret (v := .tuple #[.agg #[.int .u64 (0 : Nat), .int .u64 (0 : Nat)], .int .i64 0, .int .i64 1]) (by simp [results, Tryd.results28, go_sem]) rfl ⟨rfl, bre (al (Below.refl _ _)) _ _⟩
        · obtain ⟨y1, y2⟩ := ext32 s (by omega)
          have g32 : ¬ (s.size : Int) < 32 := by omega
          have g32' : (32 : Int) ≤ (s.size : Int) := by omega
          have r2 := fun w => rread_any (s.extract 16 32) w y2
          rw [y1] at r2
          cases hB : allH (h16 (rest s))
          · have e4 : rdE (rest s) = 2 := by unfold rdE; rw [if_neg (by rw [rest_size]; omega), if_pos hB]
            have e3 : decR s = (0, 0, 0, 2) := by unfold decR; rw [e1, if_neg (by simp), if_neg c2, e4]; rfl
            rw [e3]
            rw [hB, if_neg (by simp)] at r2
            have R2 := Lib.hid r2
            generalize rdV s = V at *
            unfold bm
            clear c2 ha h16s hl e1 e2 e3 e4 x1 x2 y1 y2 r2 hB h32
            go_enter Tryd.func28, Tryd.ntmps28
            go_wp2_with fail
            refine (R1.out _).mono ?_
            rintro e w1 ⟨rfl, hb⟩
            obtain ⟨d1, o1, rfl⟩ := regrow_of hb
            clear hb
            go_wp2_with (go_at_call 32; refine (B1.out _).mono ?_; rintro e w2 ⟨rfl, rfl⟩)
            refine (R2.out _).mono ?_
            rintro e w1 ⟨rfl, hb⟩
            obtain ⟨d2, o2, rfl⟩ := regrow_of hb
            clear hb
            go_wp2_with fail
            exact bodyPost_ret (v := .tuple #[.agg #[.int .u64 (0 : Nat), .int .u64 (0 : Nat)], .int .i64 0, .int .i64 2]) (by simp [results, Tryd.results28, go_sem]) rfl ⟨rfl, bre (al (Below.refl _ _)) _ _⟩
          · have e4 : rdE (rest s) = 0 := by unfold rdE; rw [if_neg (by rw [rest_size]; omega), if_neg (by rw [hB]; simp)]
            have e5 : rdV (rest s) = valH (h16 (rest s)) := by unfold rdV; rw [if_pos e4]
            rw [hB, if_pos rfl, ← e5] at r2
            have R2 := Lib.hid r2
            have hsub := sub63 (rdV s) (by omega) hl
            by_cases c4 : rdV (rest s) = 0
            · have e3 : decR s = (0, 0, 0, 2) := by unfold decR; rw [e1, if_neg (by simp), if_neg c2, e4, if_neg (by simp), if_pos c4]
              rw [e3]
              rw [c4] at r2
              replace R2 := Lib.hid r2
              generalize rdV s = V at *
              unfold bm
              clear c2 ha h16s hl e1 e2 e3 e4 e5 x1 x2 y1 y2 r2 hB h32 c4 hsub
              go_enter Tryd.func28, Tryd.ntmps28
              go_wp2_with fail
              refine (R1.out _).mono ?_
              rintro e w1 ⟨rfl, hb⟩
              obtain ⟨d1, o1, rfl⟩ := regrow_of hb
              clear hb
              go_wp2_with (go_at_call 32; refine (B1.out _).mono ?_; rintro e w2 ⟨rfl, rfl⟩)
              refine (R2.out _).mono ?_
              rintro e w1 ⟨rfl, hb⟩
              obtain ⟨d2, o2, rfl⟩ := regrow_of hb
              clear hb
              go_wp2_with fail
              exact bodyPost_ret (v := .tuple #[.agg #[.int .u64 (0 : Nat), .int .u64 (0 : Nat)], .int .i64 0, .int .i64 2]) (by simp [results, Tryd.results28, go_sem]) rfl ⟨rfl, bre (al (Below.refl _ _)) _ _⟩
            · have e3 : decR s = (rdV s % B63, rdV (rest s), 32, 0) := by unfold decR; rw [e1, if_neg (by simp), if_neg c2, e4, if_neg (by simp), if_neg c4]
              rw [e3]
              have g4 : ((rdV (rest s) : Int) == 0) = false := beq_eq_false_iff_ne.2 (by omega)
              generalize rdV s % B63 = V3 at *
              generalize rdV s = V at *
              generalize rdV (rest s) = V2 at *
              unfold bm
              clear c2 ha h16s hl e1 e2 e3 e4 e5 x1 x2 y1 y2 r2 hB h32 c4
              go_enter Tryd.func28, Tryd.ntmps28
              go_wp2_with fail
              refine (R1.out _).mono ?_
              rintro e w1 ⟨rfl, hb⟩
              obtain ⟨d1, o1, rfl⟩ := regrow_of hb
              clear hb
              go_wp2_with (go_at_call 32; refine (B1.out _).mono ?_; rintro e w2 ⟨rfl, rfl⟩)
              refine (R2.out _).mono ?_
              rintro e w1 ⟨rfl, hb⟩
              obtain ⟨d2, o2, rfl⟩ := regrow_of hb
              clear hb
              go_wp2_with (go_at_call 32; refine (B1.out _).mono ?_; rintro e w2 ⟨rfl, rfl⟩)
              exact bodyPost_ret (v := .tuple #[.agg #[.int .u64 V3, .int .u64 V2], .int .i64 32, .int .i64 0]) (by simp [results, Tryd.results28, go_sem]) rfl ⟨rfl, bre (al (Below.refl _ _)) _ _⟩
end Go.Proofs.YtfiingnanofneaaDoor
