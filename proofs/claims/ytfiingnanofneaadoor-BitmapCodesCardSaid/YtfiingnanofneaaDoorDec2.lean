/- Decode of the program. -/
import Derived.Test.YtfiingnanofneaaDoorDec
set_option linter.unusedVariables false
set_option linter.unusedSimpArgs false
namespace Go.Proofs.YtfiingnanofneaaDoor
open Go.Sort Go.ChangeShapes Go.WideShapes Go.ChangeAt Go.RowKit
theorem rdV_lt (s : ByteArray) : rdV s < B64 := by
  unfold rdV
  split
  · rename_i h
    have hA : allH (h16 s) = true := by
      unfold rdE at h
      split at h
      · cases h
      · split at h
        · cases h
        · rename_i h2; simpa using h2
    have h1 : 16 ≤ s.size := by
      unfold rdE at h
      split at h
      · cases h
      · omega
    have hl : (h16 s).length = 16 := by simp [h16]; omega
    have := valH_lt (h16 s) hA 16 (by omega)
    rw [List.take_of_length_le (by omega)] at this
    exact this
  · decide
theorem and63 (a : Nat) (ha : a < B64) : bits .and .u64 (a : Int) 9223372036854775808 = ((if a < B63 then 0 else B63 : Nat) : Int) := by
  rw [show (9223372036854775808 : Int) = ((9223372036854775808 : Nat) : Int) from rfl, u64_and_nat a _ ha (by decide)]
  congr 1
  split
  · rename_i h
    apply Nat.eq_of_testBit_eq
    intro i
    rw [Nat.testBit_and, Nat.zero_testBit, show (9223372036854775808 : Nat) = 2 ^ 63 from rfl, Nat.testBit_two_pow]
    by_cases hi : 63 = i
    · subst hi
      rw [Nat.testBit_lt_two_pow h]; rfl
    · simp [hi]
  · rename_i h
    have hb : a.testBit 63 = true := by
      rw [Nat.testBit_eq_decide_div_mod_eq]
      apply decide_eq_true
      have : (2 ^ 63 : Nat) = 9223372036854775808 := by decide
      rw [this]
      unfold B63 at h
      unfold B64 at ha
      omega
    apply Nat.eq_of_testBit_eq
    intro i
    rw [Nat.testBit_and, show (9223372036854775808 : Nat) = 2 ^ 63 from rfl, show B63 = 2 ^ 63 from rfl, Nat.testBit_two_pow]
    by_cases hi : 63 = i
    · subst hi; rw [hb]; rfl
    · simp [hi]
/-- what Decode answers: the bitmap's parts, the bytes, the word -/
def rest (s : ByteArray) : ByteArray := s.extract 16 s.size
def decR (s : ByteArray) : Nat × Nat × Int × Int :=
  if rdE s ≠ 0 then (0, 0, 0, rdE s) else if rdV s < B63 then (rdV s, 0, 16, 0) else if rdE (rest s) ≠ 0 then (0, 0, 0, rdE (rest s)) else if rdV (rest s) = 0 then (0, 0, 0, 2) else (rdV s % B63, rdV (rest s), 32, 0)
set_option maxHeartbeats 1000000 in
theorem dec_any (s : ByteArray) (w : World) (hs : s.size ≤ maxLen) :
    Calls Tryd.prog 27 #[.string s] w fun e w' => e = .returned (.tuple #[bm (decR s).1 (decR s).2.1, .int .i64 (decR s).2.2.1, .int .i64 (decR s).2.2.2]) ∧ Below w.heap.size w w' := by
  have R1 : Hid (∀ w, _) := Lib.hid (fun w => read_any s w hs)
  have hrest : (rest s).size ≤ maxLen := by unfold rest; simp; omega
  have R2 : Hid (∀ w, _) := Lib.hid (fun w => read_any (rest s) w hrest)
  have h16s : rdE s = 0 → 16 ≤ s.size := fun h => by
    unfold rdE at h
    split at h
    · cases h
    · omega
  have ha := and63 (rdV s) (rdV_lt s)
  have hl := rdV_lt s
  have hl2 := rdV_lt (rest s)
  have hN : Hid (∀ w, _) := Lib.hid (fun w => numbers_any (rdV s) (rdV (rest s)) hl w)
  unfold maxLen at hs
  have hs' : (s.size : Int) ≤ 9223372036854775807 := by omega
  unfold decR
  unfold rest at *
  generalize rdE (s.extract 16 s.size) = E2 at *
  generalize rdV (s.extract 16 s.size) = V2 at *
  generalize rdE s = E1 at *
  generalize rdV s = V1 at *
  by_cases c1 : E1 = 0
  · have g16 := h16s c1
    have g16' : (16 : Int) ≤ (s.size : Int) := by omega
    subst c1
    rw [if_neg (by simp)]
    by_cases c2 : V1 < B63
    · rw [if_pos c2] at ha ⊢
      have HAA := Lib.hid ha
      have ha' : bits .and .u64 (V1 : Int) 9223372036854775808 = 0 := ha
      unfold bm
      clear c2 ha h16s hl hl2
      go_enter Tryd.func27, Tryd.ntmps27
      go_wp2_with fail
      refine (R1.out _).mono ?_
      rintro e w1 ⟨rfl, hb⟩
      obtain ⟨d1, o1, rfl⟩ := regrow_of hb
      clear hb
      go_wp2_with fail
      exact bodyPost_ret (v := .tuple #[.agg #[.int .u64 V1, .int .u64 (0 : Nat)], .int .i64 16, .int .i64 0]) (by simp [results, Tryd.results27, go_sem]) rfl ⟨rfl, bre (al (Below.refl _ _)) _ _⟩
    · rw [if_neg c2] at ha ⊢
      have ha' : bits .and .u64 (V1 : Int) 9223372036854775808 = 9223372036854775808 := ha
      by_cases c3 : E2 = 0
      · subst c3
        rw [if_neg (by simp)]
        by_cases c4 : V2 = 0
        · subst c4
          rw [if_pos rfl]
          unfold bm at *
          clear c2 ha h16s hl hl2
          go_enter Tryd.func27, Tryd.ntmps27
          go_wp2_with fail
          refine (R1.out _).mono ?_
          rintro e w1 ⟨rfl, hb⟩
          obtain ⟨d1, o1, rfl⟩ := regrow_of hb
          clear hb
          go_wp2_with fail
          refine (R2.out _).mono ?_
          rintro e w1 ⟨rfl, hb⟩
          obtain ⟨d2, o2, rfl⟩ := regrow_of hb
          clear hb
          go_wp2_with fail
          exact bodyPost_ret (v := .tuple #[.agg #[.int .u64 (0 : Nat), .int .u64 (0 : Nat)], .int .i64 0, .int .i64 2]) (by simp [results, Tryd.results27, go_sem]) rfl ⟨rfl, bre (al (Below.refl _ _)) _ _⟩
        · rw [if_neg c4]
          have g4 : ((V2 : Int) == 0) = false := beq_eq_false_iff_ne.2 (by omega)
          generalize V1 % B63 = V3 at *
          unfold bm at *
          clear c2 ha h16s hl hl2 c4
          go_enter Tryd.func27, Tryd.ntmps27
          go_wp2_with fail
          refine (R1.out _).mono ?_
          rintro e w1 ⟨rfl, hb⟩
          obtain ⟨d1, o1, rfl⟩ := regrow_of hb
          clear hb
          go_wp2_with fail
          refine (R2.out _).mono ?_
          rintro e w1 ⟨rfl, hb⟩
          obtain ⟨d2, o2, rfl⟩ := regrow_of hb
          clear hb
          go_wp2_with fail
          refine (hN.out _).mono ?_
          rintro e w1 ⟨rfl, hb⟩
          obtain ⟨d3, o3, rfl⟩ := regrow_of hb
          clear hb
          go_wp2_with fail
          exact bodyPost_ret (v := .tuple #[.agg #[.int .u64 V3, .int .u64 V2], .int .i64 32, .int .i64 0]) (by simp [results, Tryd.results27, go_sem]) rfl ⟨rfl, bre (al (Below.refl _ _)) _ _⟩
      · rw [if_pos c3]
        have g3 : (E2 != 0) = true := by rw [bne_iff_ne]; exact c3
        unfold bm at *
        clear c2 ha h16s hl hl2 c3
        go_enter Tryd.func27, Tryd.ntmps27
        go_wp2_with fail
        refine (R1.out _).mono ?_
        rintro e w1 ⟨rfl, hb⟩
        obtain ⟨d1, o1, rfl⟩ := regrow_of hb
        clear hb
        go_wp2_with fail
        refine (R2.out _).mono ?_
        rintro e w1 ⟨rfl, hb⟩
        obtain ⟨d2, o2, rfl⟩ := regrow_of hb
        clear hb
        go_wp2_with fail
        exact bodyPost_ret (v := .tuple #[.agg #[.int .u64 (0 : Nat), .int .u64 (0 : Nat)], .int .i64 0, .int .i64 E2]) (by simp [results, Tryd.results27, go_sem]) rfl ⟨rfl, bre (al (Below.refl _ _)) _ _⟩
  · rw [if_pos c1]
    have g1 : (E1 != 0) = true := by rw [bne_iff_ne]; exact c1
    unfold bm at *
    clear ha h16s hl hl2 c1
    go_enter Tryd.func27, Tryd.ntmps27
    go_wp2_with fail
    refine (R1.out _).mono ?_
    rintro e w1 ⟨rfl, hb⟩
    obtain ⟨d1, o1, rfl⟩ := regrow_of hb
    clear hb
    go_wp2_with fail
    exact bodyPost_ret (v := .tuple #[.agg #[.int .u64 (0 : Nat), .int .u64 (0 : Nat)], .int .i64 0, .int .i64 E1]) (by simp [results, Tryd.results27, go_sem]) rfl ⟨rfl, bre (al (Below.refl _ _)) _ _⟩
end Go.Proofs.YtfiingnanofneaaDoor
