/- The walk of PanDetects, further ways. -/
import Derived.Test.YtagfimemiggnlaaDoorDt
import Derived.Deep.RegionHeld
import Derived.Deep.DeepCutAuto
set_option linter.unusedVariables false
set_option linter.unusedSimpArgs false
namespace Go.Proofs.YtagfimemiggnlaaDoor
open Go.Sort Go.ChangeShapes Go.WideShapes Go.ChangeAt Go.RowKit
set_option maxHeartbeats 4000000 in
set_option maxRecDepth 20000 in
theorem detBe (s : ByteArray) (at_ dg : Int) (w : World) (c0 : decide ((100 : Int) < (s.size : Int)) = false) (hs : s.size ≤ 100) (hl : luhB s = true) (ha : (Lit.int .u8 at_).wf = true) (hd : (Lit.int .u8 dg).wf = true) (D : Int) (hD : 48 ≤ D ∧ D ≤ 57) (eD : Hid (48 + dg % 10 = D)) (j : Nat) (hi : j + 1 < s.size) (eI : Hid (at_ % (s.size : Int) = (j : Int) + 1)) (hq : D = (s[j + 1].toNat : Int)) (hx : (s[j].toNat : Int) ≠ (s[j + 1].toNat : Int)) (hc : ((s[j].toNat : Int) = 48 ∧ (s[j + 1].toNat : Int) ≠ 57)) (hT : TabP w) :
    Calls Tryd.prog 7 #[.string s, .int .u8 at_, .int .u8 dg] w fun e w' => e = .returned (.bool true) ∧ Below w.heap.size w w' := by
  have HT := Lib.hid hT
  have HAW := Lib.hid awake_any
  clear hT
  have hsz : s.size ≠ 0 := by
    intro h
    rw [luhB_L] at hl
    exact ((luhL_iff _).1 hl).1 (List.eq_nil_of_length_eq_zero h)
  have hsp : 0 < s.size := Nat.pos_of_ne_zero hsz
  obtain ⟨a0, a1⟩ := wf_u8d ha
  obtain ⟨g0, g1⟩ := wf_u8d hd
  have H13 := Lib.hid (luhn_any s (by omega))
  rw [hl] at H13
  have hz : ((s.size : Int) == 0) = false := by rw [beq_eq_false_iff_ne]; omega
  have t1 : (D == (s[j + 1].toNat : Int)) = true := by rw [beq_iff_eq]; exact hq
  have t2 : (D != (s[j + 1].toNat : Int)) = false := by rw [bne, t1]; rfl
  clear hq
  have q3 : ∀ w, (Instr.index 9 (.string s) (.int .i64 (j : Int))).run Tryd.prog w = .ok (.int .u8 (s[j]).toNat) w := idx_at s j (by omega)
  have t5 : ((s[j].toNat : Int) == (s[j + 1].toNat : Int)) = false := by rw [beq_eq_false_iff_ne]; exact hx
  have t6 : ((j : Int) + 1 == 0) = false := by rw [beq_eq_false_iff_ne]; omega
  have u48x : ((s[j].toNat : Int) == 48) = true := by rw [beq_iff_eq]; omega
  have u57y : ((s[j + 1].toNat : Int) == 57) = false := by rw [beq_eq_false_iff_ne]; omega
  have u57x : ((s[j].toNat : Int) == 57) = false := by rw [beq_eq_false_iff_ne]; omega
  obtain ⟨v1, v2⟩ := luh2 s hl j hi (by omega)
  have hb9 : b09 s[j] s[j + 1] = false := by
    cases hh : b09 s[j] s[j + 1]
    · rfl
    · exfalso; have := (b09_iff s[j] s[j + 1]).1 hh; omega
  have V13 := Lib.hid (luhn_any _ (Nat.le_trans v2 (by omega)))
  rw [v1, hb9] at V13
  have p1 := cut_h s j (by omega)
  have p2 : ∀ w, (Instr.slice 9 (.string s) (some (.int .i64 ((j : Int) + 1))) (some (.int .i64 ((j : Int) + 1 + 1))) none).run Tryd.prog w = .ok (.string (s.extract (j + 1) (j + 1 + 1))) w := fun w => by
    have := cut_lh s (j + 1) (j + 1 + 1) (by omega) (by omega) w
    rwa [show ((j + 1 + 1 : Nat) : Int) = (j : Int) + 1 + 1 by omega, show ((j + 1 : Nat) : Int) = (j : Int) + 1 by omega] at this
  have p3 : ∀ w, (Instr.slice 9 (.string s) (some (.int .i64 (j : Int))) (some (.int .i64 ((j : Int) + 1))) none).run Tryd.prog w = .ok (.string (s.extract j (j + 1))) w := fun w => by
    have := cut_lh s j (j + 1) (by omega) (by omega) w
    rwa [show ((j + 1 : Nat) : Int) = (j : Int) + 1 by omega] at this
  have p4 : ∀ w, (Instr.slice 9 (.string s) (some (.int .i64 ((j : Int) + 1 + 1))) none none).run Tryd.prog w = .ok (.string (s.extract (j + 1 + 1) s.size)) w := fun w => by
    have := cut_l s (j + 1 + 1) (by omega) w
    rwa [show ((j + 1 + 1 : Nat) : Int) = (j : Int) + 1 + 1 by omega] at this
  have m1 : (s.extract 0 j).size ≤ 100 := by rw [ls_size, ls_ex, List.length_take]; omega
  have m2 : (s.extract (j + 1) (j + 1 + 1)).size ≤ 100 := by rw [ls_size, ls_ex, List.length_take]; omega
  have m3 : (s.extract j (j + 1)).size ≤ 100 := by rw [ls_size, ls_ex, List.length_take]; omega
  have m4 : (s.extract (j + 1 + 1) s.size).size ≤ 100 := by rw [ls_size, ls_ex, List.length_take, List.length_drop]; omega
  have m5 : (s.extract 0 j ++ s.extract (j + 1) (j + 1 + 1)).size ≤ 200 := by rw [ByteArray.size_append]; omega
  have m6 : (s.extract 0 j ++ s.extract (j + 1) (j + 1 + 1) ++ s.extract j (j + 1)).size ≤ 300 := by rw [ByteArray.size_append]; omega
  clear hx hc v1 v2 hb9
  have q0 : ∀ w, (Instr.index 9 (.string s) (.int .i64 ((j : Int) + 1))).run Tryd.prog w = .ok (.int .u8 (s[j + 1]).toNat) w := fun w => by
    have := idx_at s (j + 1) hi w
    rwa [show (((j + 1) : Nat) : Int) = ((j : Int) + 1) by omega] at this
  have eI2 := eI.out
  have eD2 := eD.out
  have hw1 : IntKind.u8.wrap (48 + dg % 10) = D := by rw [IntKind.wrap_u8, eD2]; omega
  have hw2 : IntKind.i64.wrap ((j : Int) + 1 + 1) = (j : Int) + 1 + 1 := IntWalk.i64_in _ (by omega)
  have hw3 : IntKind.i64.wrap ((j : Int) + 1 - 1) = (j : Int) := by rw [show (j : Int) + 1 - 1 = j by omega]; exact IntWalk.i64_in _ (by omega)
  have hw4 : IntKind.i64.wrap (at_ % (s.size : Int) - 1) = (j : Int) := by rw [eI2]; exact hw3
  have hw5 : IntKind.i64.wrap (at_ % (s.size : Int) + 1) = (j : Int) + 1 + 1 := by rw [eI2]; exact hw2
  have hw6 : IntKind.i64.wrap (j : Int) = (j : Int) := IntWalk.i64_in _ (by omega)
  have hj1 : (j : Int) ≤ (s.size : Int) := by omega
  have hj2 : j ≤ s.size := by omega
  have hj3 : (j : Int) + 1 + 1 ≤ (s.size : Int) := by omega
  have hi1 : (j : Int) + 1 < (s.size : Int) := by omega
  have hj0 : (0 : Int) ≤ (j : Int) + 1 := by omega
  have hs1 : (s.size : Int) ≤ 100 := by omega
  have hs2 : (0 : Int) < (s.size : Int) := by omega
  clear hl ha hd eI eD hsz
  go_enter Tryd.func7, Tryd.ntmps7
  go_wp2_with fail
  refine (H13.out _).mono ?_
  rintro e w1 ⟨rfl, hb⟩
  have B1 : Below w.heap.size w w1 := below_call (Below.refl w.heap.size w) hb
  clear hb
  go_wp2_with fail
  go_quiet (fail)
  have B2 := Lib.hid B1
  clear B1
  go_wp2_with fail
  go_quiet (fail)
  have B3 := fun m => bdn B2.out m
  go_wp2_with fail
  go_region_held (fun w' => Below w.heap.size w w')
    (first | exact B3 _ | (refine Below.drew ?_; exact B3 _) | assumption | (refine Below.drew ?_; assumption) | (refine dal ?_ _; assumption) | (refine bcall2 ?_ ?_ <;> assumption))
    (first | (go_at_call 13; refine (V13.out _).mono ?_; rintro e w4 ⟨rfl, hb4⟩; have hb5 : Below w.heap.size w w4 := (by refine bcall2 hb4 ?_; assumption)) | (go_at_call 10; refine (HAW.out _ (HT.out.call (by assumption))).mono ?_; rintro e w6 ⟨rfl, hb6⟩; have hb7 : Below w.heap.size w w6 := (by refine bcall2 hb6 ?_; assumption)))
  go_wp2_with fail
  go_ret
  exact ⟨rfl, by assumption⟩
set_option maxHeartbeats 4000000 in
set_option maxRecDepth 20000 in
theorem detBn (s : ByteArray) (at_ dg : Int) (w : World) (c0 : decide ((100 : Int) < (s.size : Int)) = false) (hs : s.size ≤ 100) (hl : luhB s = true) (ha : (Lit.int .u8 at_).wf = true) (hd : (Lit.int .u8 dg).wf = true) (D : Int) (hD : 48 ≤ D ∧ D ≤ 57) (eD : Hid (48 + dg % 10 = D)) (j : Nat) (hi : j + 1 < s.size) (eI : Hid (at_ % (s.size : Int) = (j : Int) + 1)) (hq : D ≠ (s[j + 1].toNat : Int)) (hx : (s[j].toNat : Int) ≠ (s[j + 1].toNat : Int)) (hc : ((s[j].toNat : Int) = 48 ∧ (s[j + 1].toNat : Int) ≠ 57)) (hT : TabP w) :
    Calls Tryd.prog 7 #[.string s, .int .u8 at_, .int .u8 dg] w fun e w' => e = .returned (.bool true) ∧ Below w.heap.size w w' := by
  have HT := Lib.hid hT
  have HAW := Lib.hid awake_any
  clear hT
  have hsz : s.size ≠ 0 := by
    intro h
    rw [luhB_L] at hl
    exact ((luhL_iff _).1 hl).1 (List.eq_nil_of_length_eq_zero h)
  have hsp : 0 < s.size := Nat.pos_of_ne_zero hsz
  obtain ⟨a0, a1⟩ := wf_u8d ha
  obtain ⟨g0, g1⟩ := wf_u8d hd
  have H13 := Lib.hid (luhn_any s (by omega))
  rw [hl] at H13
  have hz : ((s.size : Int) == 0) = false := by rw [beq_eq_false_iff_ne]; omega
  have t1 : (D == (s[j + 1].toNat : Int)) = false := by rw [beq_eq_false_iff_ne]; exact hq
  have t2 : (D != (s[j + 1].toNat : Int)) = true := by rw [bne, t1]; rfl
  obtain ⟨x1, x2⟩ := luh1 s hl (j + 1) hi D hD hq
  skip
  have X13 := Lib.hid (luhn_any _ (Nat.le_trans x2 (by omega)))
  rw [x1] at X13
  have z1 : ∀ w, (Instr.slice 9 (.string s) none (some (.int .i64 ((j : Int) + 1))) none).run Tryd.prog w = .ok (.string (s.extract 0 (j + 1))) w := fun w => by
    have := cut_h s (j + 1) (by omega) w
    rwa [show (((j + 1) : Nat) : Int) = ((j : Int) + 1) by omega] at this
  have z2 : ∀ w, (Instr.slice 9 (.string s) (some (.int .i64 ((j : Int) + 1 + 1))) none none).run Tryd.prog w = .ok (.string (s.extract (j + 1 + 1) s.size)) w := fun w => by
    have := cut_l s (j + 1 + 1) (by omega) w
    rwa [show ((j + 1 + 1 : Nat) : Int) = ((j : Int) + 1 + 1) by omega] at this
  have hcv := fun w => conv1 w D (by omega)
  have hcv2 : ∀ w : World, (convert 36 9 (.slice (some ⟨w.heap.size, 0, none⟩) 1 1)).run Tryd.prog (w.alloc (.cells #[.int .u8 D] 5)).drew = .ok (.string (d1 D)) (w.alloc (.cells #[.int .u8 D] 5)).drew := fun w => conv1 w.drew D (by omega)
  have y1 : (s.extract 0 (j + 1)).size ≤ 100 := by rw [ls_size, ls_ex, List.length_take]; omega
  have y2 : (s.extract (j + 1 + 1) s.size).size ≤ 100 := by rw [ls_size, ls_ex, List.length_take]; omega
  have y4 : (d1 D).size ≤ 100 := by rw [d1_size]; omega
  have y3 : (s.extract 0 (j + 1) ++ d1 D).size ≤ 101 := by rw [ByteArray.size_append, d1_size]; omega
  clear hq x1 x2
  have q3 : ∀ w, (Instr.index 9 (.string s) (.int .i64 (j : Int))).run Tryd.prog w = .ok (.int .u8 (s[j]).toNat) w := idx_at s j (by omega)
  have t5 : ((s[j].toNat : Int) == (s[j + 1].toNat : Int)) = false := by rw [beq_eq_false_iff_ne]; exact hx
  have t6 : ((j : Int) + 1 == 0) = false := by rw [beq_eq_false_iff_ne]; omega
  have u48x : ((s[j].toNat : Int) == 48) = true := by rw [beq_iff_eq]; omega
  have u57y : ((s[j + 1].toNat : Int) == 57) = false := by rw [beq_eq_false_iff_ne]; omega
  have u57x : ((s[j].toNat : Int) == 57) = false := by rw [beq_eq_false_iff_ne]; omega
  obtain ⟨v1, v2⟩ := luh2 s hl j hi (by omega)
  have hb9 : b09 s[j] s[j + 1] = false := by
    cases hh : b09 s[j] s[j + 1]
    · rfl
    · exfalso; have := (b09_iff s[j] s[j + 1]).1 hh; omega
  have V13 := Lib.hid (luhn_any _ (Nat.le_trans v2 (by omega)))
  rw [v1, hb9] at V13
  have p1 := cut_h s j (by omega)
  have p2 : ∀ w, (Instr.slice 9 (.string s) (some (.int .i64 ((j : Int) + 1))) (some (.int .i64 ((j : Int) + 1 + 1))) none).run Tryd.prog w = .ok (.string (s.extract (j + 1) (j + 1 + 1))) w := fun w => by
    have := cut_lh s (j + 1) (j + 1 + 1) (by omega) (by omega) w
    rwa [show ((j + 1 + 1 : Nat) : Int) = (j : Int) + 1 + 1 by omega, show ((j + 1 : Nat) : Int) = (j : Int) + 1 by omega] at this
  have p3 : ∀ w, (Instr.slice 9 (.string s) (some (.int .i64 (j : Int))) (some (.int .i64 ((j : Int) + 1))) none).run Tryd.prog w = .ok (.string (s.extract j (j + 1))) w := fun w => by
    have := cut_lh s j (j + 1) (by omega) (by omega) w
    rwa [show ((j + 1 : Nat) : Int) = (j : Int) + 1 by omega] at this
  have p4 : ∀ w, (Instr.slice 9 (.string s) (some (.int .i64 ((j : Int) + 1 + 1))) none none).run Tryd.prog w = .ok (.string (s.extract (j + 1 + 1) s.size)) w := fun w => by
    have := cut_l s (j + 1 + 1) (by omega) w
    rwa [show ((j + 1 + 1 : Nat) : Int) = (j : Int) + 1 + 1 by omega] at this
  have m1 : (s.extract 0 j).size ≤ 100 := by rw [ls_size, ls_ex, List.length_take]; omega
  have m2 : (s.extract (j + 1) (j + 1 + 1)).size ≤ 100 := by rw [ls_size, ls_ex, List.length_take]; omega
  have m3 : (s.extract j (j + 1)).size ≤ 100 := by rw [ls_size, ls_ex, List.length_take]; omega
  have m4 : (s.extract (j + 1 + 1) s.size).size ≤ 100 := by rw [ls_size, ls_ex, List.length_take, List.length_drop]; omega
  have m5 : (s.extract 0 j ++ s.extract (j + 1) (j + 1 + 1)).size ≤ 200 := by rw [ByteArray.size_append]; omega
  have m6 : (s.extract 0 j ++ s.extract (j + 1) (j + 1 + 1) ++ s.extract j (j + 1)).size ≤ 300 := by rw [ByteArray.size_append]; omega
  clear hx hc v1 v2 hb9
  have q0 : ∀ w, (Instr.index 9 (.string s) (.int .i64 ((j : Int) + 1))).run Tryd.prog w = .ok (.int .u8 (s[j + 1]).toNat) w := fun w => by
    have := idx_at s (j + 1) hi w
    rwa [show (((j + 1) : Nat) : Int) = ((j : Int) + 1) by omega] at this
  have eI2 := eI.out
  have eD2 := eD.out
  have hw1 : IntKind.u8.wrap (48 + dg % 10) = D := by rw [IntKind.wrap_u8, eD2]; omega
  have hw2 : IntKind.i64.wrap ((j : Int) + 1 + 1) = (j : Int) + 1 + 1 := IntWalk.i64_in _ (by omega)
  have hw3 : IntKind.i64.wrap ((j : Int) + 1 - 1) = (j : Int) := by rw [show (j : Int) + 1 - 1 = j by omega]; exact IntWalk.i64_in _ (by omega)
  have hw4 : IntKind.i64.wrap (at_ % (s.size : Int) - 1) = (j : Int) := by rw [eI2]; exact hw3
  have hw5 : IntKind.i64.wrap (at_ % (s.size : Int) + 1) = (j : Int) + 1 + 1 := by rw [eI2]; exact hw2
  have hw6 : IntKind.i64.wrap (j : Int) = (j : Int) := IntWalk.i64_in _ (by omega)
  have hj1 : (j : Int) ≤ (s.size : Int) := by omega
  have hj2 : j ≤ s.size := by omega
  have hj3 : (j : Int) + 1 + 1 ≤ (s.size : Int) := by omega
  have hi1 : (j : Int) + 1 < (s.size : Int) := by omega
  have hj0 : (0 : Int) ≤ (j : Int) + 1 := by omega
  have hs1 : (s.size : Int) ≤ 100 := by omega
  have hs2 : (0 : Int) < (s.size : Int) := by omega
  clear hl ha hd eI eD hsz
  go_enter Tryd.func7, Tryd.ntmps7
  go_wp2_with fail
  refine (H13.out _).mono ?_
  rintro e w1 ⟨rfl, hb⟩
  have B1 : Below w.heap.size w w1 := below_call (Below.refl w.heap.size w) hb
  clear hb
  go_wp2_with fail
  go_region_held (fun w' => Below w.heap.size w w')
    (first | assumption | (refine Below.drew ?_; assumption) | (refine dal ?_ _; assumption) | (refine bcall2 ?_ ?_ <;> assumption))
    (first | (go_at_call 13; refine (X13.out _).mono ?_; rintro e w2 ⟨rfl, hb2⟩; have hb3 : Below w.heap.size w w2 := (by refine bcall2 hb2 ?_; assumption)))
  have B2 := Lib.hid hb3
  clear hb3 hb2
  go_wp2_with fail
  go_quiet (fail)
  have B3 := fun m => bdn B2.out m
  go_wp2_with fail
  go_region_held (fun w' => Below w.heap.size w w')
    (first | exact B3 _ | (refine Below.drew ?_; exact B3 _) | assumption | (refine Below.drew ?_; assumption) | (refine dal ?_ _; assumption) | (refine bcall2 ?_ ?_ <;> assumption))
    (first | (go_at_call 13; refine (V13.out _).mono ?_; rintro e w4 ⟨rfl, hb4⟩; have hb5 : Below w.heap.size w w4 := (by refine bcall2 hb4 ?_; assumption)) | (go_at_call 10; refine (HAW.out _ (HT.out.call (by assumption))).mono ?_; rintro e w6 ⟨rfl, hb6⟩; have hb7 : Below w.heap.size w w6 := (by refine bcall2 hb6 ?_; assumption)))
  go_wp2_with fail
  go_ret
  exact ⟨rfl, by assumption⟩
end Go.Proofs.YtagfimemiggnlaaDoor
