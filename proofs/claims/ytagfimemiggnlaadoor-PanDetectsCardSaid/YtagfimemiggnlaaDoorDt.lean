/- The walk of PanDetects. -/
import Derived.Test.YtagfimemiggnlaaDoorW
import Derived.Deep.RegionHeld
import Derived.Deep.DeepCutAuto
set_option linter.unusedVariables false
set_option linter.unusedSimpArgs false
namespace Go.Proofs.YtagfimemiggnlaaDoor
open Go.Sort Go.ChangeShapes Go.WideShapes Go.ChangeAt Go.RowKit
theorem wf_u8d {a : Int} (h : (Lit.int .u8 a).wf = true) : 0 ≤ a ∧ a ≤ 255 := by simp [Lit.wf, IntKind.min, IntKind.max, IntKind.signed, IntKind.bits] at h; omega
theorem ls_set1 (s : ByteArray) (i : Nat) (hi : i < s.size) (D : Int) (v : UInt8) (hv : d1 D = ⟨#[v]⟩) :
    (s.extract 0 i ++ d1 D ++ s.extract (i + 1) s.size).data.toList = s.data.toList.set i v := by
  have e : (s.extract 0 i ++ d1 D ++ s.extract (i + 1) s.size).data.toList = ls (s.extract 0 i) ++ [v] ++ ls (s.extract (i + 1) s.size) := by rw [hv]; simp [ls]
  rw [e, ls_ex, ls_ex, List.drop_zero, Nat.sub_zero, List.take_of_length_le (l := List.drop (i + 1) (ls s)) (by rw [List.length_drop, ← ls_size]; exact Nat.le_refl _)]
  have hl : i < (ls s).length := by rw [← ls_size]; exact hi
  show _ = (ls s).set i v
  rw [List.set_eq_take_append_cons_drop, if_pos hl, List.append_assoc]; rfl
theorem ls_swap (s : ByteArray) (j : Nat) (hj : j + 1 < s.size) :
    (s.extract 0 j ++ s.extract (j + 1) (j + 1 + 1) ++ s.extract j (j + 1) ++ s.extract (j + 1 + 1) s.size).data.toList = (s.data.toList.set j (s.data.toList.getD (j + 1) 0)).set (j + 1) (s.data.toList.getD j 0) := by
  have e : (s.extract 0 j ++ s.extract (j + 1) (j + 1 + 1) ++ s.extract j (j + 1) ++ s.extract (j + 1 + 1) s.size).data.toList = ls (s.extract 0 j) ++ ls (s.extract (j + 1) (j + 1 + 1)) ++ ls (s.extract j (j + 1)) ++ ls (s.extract (j + 1 + 1) s.size) := by simp [ls]
  rw [e, ls_ex, ls_ex, ls_ex, ls_ex, List.drop_zero, Nat.sub_zero, List.take_of_length_le (l := List.drop (j + 1 + 1) (ls s)) (by rw [List.length_drop, ← ls_size]; exact Nat.le_refl _)]
  have hl : j + 1 < (ls s).length := by rw [← ls_size]; exact hj
  rw [show j + 1 + 1 - (j + 1) = 1 by omega, show j + 1 - j = 1 by omega]
  have t1 : ∀ k, k < (ls s).length → ((ls s).drop k).take 1 = [(ls s).getD k 0] := fun k hk => by
    rw [List.drop_eq_getElem_cons hk, List.take_succ_cons, List.take_zero, List.getD_eq_getElem?_getD, List.getElem?_eq_getElem hk]; rfl
  rw [t1 _ hl, t1 _ (by omega)]
  show _ = ((ls s).set j ((ls s).getD (j + 1) 0)).set (j + 1) ((ls s).getD j 0)
  generalize (ls s).getD (j + 1) 0 = x
  generalize (ls s).getD j 0 = y
  rw [List.set_eq_take_append_cons_drop (l := ls s), if_pos (by omega)]
  rw [List.set_append_right _ _ (by rw [List.length_take]; omega)]
  rw [List.length_take, show j + 1 - min j (ls s).length = 1 by omega, List.set_cons_succ]
  rw [List.drop_eq_getElem_cons hl, List.set_cons_zero]
  simp
set_option maxHeartbeats 4000000 in
set_option maxRecDepth 20000 in
theorem detLong (s : ByteArray) (at_ dg : Int) (w : World) (c0 : decide ((100 : Int) < (s.size : Int)) = true) (hT : TabP w) :
    Calls Tryd.prog 7 #[.string s, .int .u8 at_, .int .u8 dg] w fun e w' => e = .returned (.bool true) ∧ Below w.heap.size w w' := by
  have HT := Lib.hid hT
  have HAW := Lib.hid awake_any
  clear hT
  go_enter Tryd.func7, Tryd.ntmps7
  go_wp2_with fail
  refine (HAW.out _ (HT.out.call (Below.refl w.heap.size w))).mono ?_
  rintro e wz ⟨rfl, hbz⟩
  have BZ := Lib.hid (below_call (Below.refl w.heap.size w) hbz)
  clear hbz
  go_wp2_with fail
  go_ret
  exact ⟨rfl, BZ.out⟩
set_option maxHeartbeats 4000000 in
set_option maxRecDepth 20000 in
theorem detNot (s : ByteArray) (at_ dg : Int) (w : World) (c0 : decide ((100 : Int) < (s.size : Int)) = false) (hs : s.size ≤ 100) (hl : luhB s = false) (hT : TabP w) :
    Calls Tryd.prog 7 #[.string s, .int .u8 at_, .int .u8 dg] w fun e w' => e = .returned (.bool true) ∧ Below w.heap.size w w' := by
  have HT := Lib.hid hT
  have HAW := Lib.hid awake_any
  clear hT
  have H13 := Lib.hid (luhn_any s (by omega))
  rw [hl] at H13
  clear hl
  go_enter Tryd.func7, Tryd.ntmps7
  go_wp2_with fail
  refine (H13.out _).mono ?_
  rintro e w1 ⟨rfl, hb⟩
  have B1 := Lib.hid (below_call (Below.refl w.heap.size w) hb)
  clear hb
  go_wp2_with fail
  go_wp2_with fail
  refine (HAW.out _ (HT.out.call B1.out)).mono ?_
  rintro e wz ⟨rfl, hbz⟩
  have BZ := Lib.hid (below_call B1.out hbz)
  clear hbz
  go_wp2_with fail
  go_ret
  exact ⟨rfl, BZ.out⟩
theorem dal {w W : World} (h : Below w.heap.size w W) (o : Obj) : Below w.heap.size w (W.alloc o).drew := (h.alloc h.size o).drew
theorem bcall2 {w W w1 : World} (hb : Below W.heap.size W w1) (h : Below w.heap.size w W) : Below w.heap.size w w1 := below_call h hb
theorem d1_v (D : Int) (h : 48 ≤ D ∧ D ≤ 57) : d1 D = ⟨#[UInt8.ofNat D.toNat]⟩ ∧ ((UInt8.ofNat D.toNat).toNat : Int) = D ∧ dgB (UInt8.ofNat D.toNat).toNat = true := by
  have : ((UInt8.ofNat D.toNat).toNat : Int) = D := by rw [UInt8.toNat_ofNat']; omega
  exact ⟨rfl, this, (dgB_iff _).2 (by omega)⟩
theorem luh1 (s : ByteArray) (hl : luhB s = true) (i : Nat) (hi : i < s.size) (D : Int) (hD : 48 ≤ D ∧ D ≤ 57) (hne : D ≠ (s[i].toNat : Int)) : luhB (s.extract 0 i ++ d1 D ++ s.extract (i + 1) s.size) = false ∧ (s.extract 0 i ++ d1 D ++ s.extract (i + 1) s.size).size ≤ s.size := by
  obtain ⟨e1, e2, e3⟩ := d1_v D hD
  have e := ls_set1 s i hi D _ e1
  refine ⟨?_, ?_⟩
  · rw [luhB_L, e]
    rw [luhB_L] at hl
    refine luh_wrong _ hl i (by show i < (ls s).length; rw [← ls_size]; exact hi) _ e3 ?_
    intro h
    have h2 := getD_at s i hi
    rw [show (ls s).getD i 0 = s.data.toList.getD i 0 from rfl, ← h] at h2
    apply hne
    rw [← e2, h2]
  · have h2 := congrArg List.length e
    rw [List.length_set] at h2
    exact Nat.le_of_eq h2
theorem luh2 (s : ByteArray) (hl : luhB s = true) (j : Nat) (hj : j + 1 < s.size) (hne : s[j].toNat ≠ s[j + 1].toNat) :
    luhB (s.extract 0 j ++ s.extract (j + 1) (j + 1 + 1) ++ s.extract j (j + 1) ++ s.extract (j + 1 + 1) s.size) = b09 s[j] s[j + 1] ∧ (s.extract 0 j ++ s.extract (j + 1) (j + 1 + 1) ++ s.extract j (j + 1) ++ s.extract (j + 1 + 1) s.size).size ≤ s.size := by
  have e := ls_swap s j hj
  have g1 := getD_at s j (by omega)
  have g2 := getD_at s (j + 1) hj
  refine ⟨?_, ?_⟩
  · rw [luhB_L, e]
    rw [luhB_L] at hl
    rw [luh_swap _ hl j (by show j + 1 < (ls s).length; rw [← ls_size]; exact hj) ?_]
    · show b09 ((ls s).getD j 0) ((ls s).getD (j + 1) 0) = _
      rw [g1, g2]
    · show (ls s).getD j 0 ≠ (ls s).getD (j + 1) 0
      rw [g1, g2]
      intro h; exact hne (by rw [h])
  · have h2 := congrArg List.length e
    rw [List.length_set, List.length_set] at h2
    exact Nat.le_of_eq h2
theorem bdn2 {w W : World} (h : Below w.heap.size w W) (n m : Nat) : Below w.heap.size w ((W.drewN n).drewN m) := bdn (bdn h n) m
set_option maxHeartbeats 4000000 in
set_option maxRecDepth 20000 in
theorem detze (s : ByteArray) (at_ dg : Int) (w : World) (c0 : decide ((100 : Int) < (s.size : Int)) = false) (hs : s.size ≤ 100) (hl : luhB s = true) (ha : (Lit.int .u8 at_).wf = true) (hd : (Lit.int .u8 dg).wf = true) (D : Int) (hD : 48 ≤ D ∧ D ≤ 57) (eD : Hid (48 + dg % 10 = D)) (hi : 0 < s.size) (eI : Hid (at_ % (s.size : Int) = 0)) (hq : D = (s[0].toNat : Int)) (hT : TabP w) :
    Calls Tryd.prog 7 #[.string s, .int .u8 at_, .int .u8 dg] w fun e w' => e = .returned (.bool true) ∧ Below w.heap.size w w' := by
  have HT := Lib.hid hT
  have HAW := Lib.hid awake_any
  clear hT
  have hsz : s.size ≠ 0 := by
    intro h
    rw [luhB_L] at hl
    exact ((luhL_iff _).1 hl).1 (List.eq_nil_of_length_eq_zero h)
  have hsp : 0 < s.size := Nat.pos_of_ne_zero hsz
  obtain ⟨a0, a1⟩ := wf_u8d ha
  obtain ⟨g0, g1⟩ := wf_u8d hd
  have H13 := Lib.hid (luhn_any s (by omega))
  rw [hl] at H13
  have hz : ((s.size : Int) == 0) = false := by rw [beq_eq_false_iff_ne]; omega
  have t1 : (D == (s[0].toNat : Int)) = true := by rw [beq_iff_eq]; exact hq
  have t2 : (D != (s[0].toNat : Int)) = false := by rw [bne, t1]; rfl
  clear hq
  have q0 : ∀ w, (Instr.index 9 (.string s) (.int .i64 (0 : Int))).run Tryd.prog w = .ok (.int .u8 (s[0]).toNat) w := fun w => by
    have := idx_at s 0 hi w
    rwa [show ((0 : Nat) : Int) = (0 : Int) by omega] at this
  have eI2 := eI.out
  have eD2 := eD.out
  have hw1 : IntKind.u8.wrap (48 + dg % 10) = D := by rw [IntKind.wrap_u8, eD2]; omega
  have k1 : 1 ≤ s.size := hi
  have hw9 : IntKind.i64.wrap (at_ % (s.size : Int) + 1) = 1 := by rw [eI2]; decide
  have hw10 : IntKind.i64.wrap 1 = 1 := by decide
  have k2 : (1 : Int) ≤ (s.size : Int) := by omega
  have hs1 : (s.size : Int) ≤ 100 := by omega
  have hs2 : (0 : Int) < (s.size : Int) := by omega
  clear hl ha hd eI eD hsz
  go_enter Tryd.func7, Tryd.ntmps7
  go_wp2_with fail
  refine (H13.out _).mono ?_
  rintro e w1 ⟨rfl, hb⟩
  have B1 : Below w.heap.size w w1 := below_call (Below.refl w.heap.size w) hb
  clear hb
  go_wp2_with fail
  go_quiet (fail)
  have B2 := Lib.hid B1
  clear B1
  go_wp2_with fail
  go_quiet (fail)
  go_wp2_with fail
  refine (HAW.out _ (HT.out.call (bdn B2.out _))).mono ?_
  rintro e wz ⟨rfl, hbz⟩
  have BZ := Lib.hid (below_call (bdn B2.out _) hbz)
  clear hbz
  go_wp2_with fail
  go_ret
  exact ⟨rfl, BZ.out⟩
set_option maxHeartbeats 4000000 in
set_option maxRecDepth 20000 in
theorem detzn (s : ByteArray) (at_ dg : Int) (w : World) (c0 : decide ((100 : Int) < (s.size : Int)) = false) (hs : s.size ≤ 100) (hl : luhB s = true) (ha : (Lit.int .u8 at_).wf = true) (hd : (Lit.int .u8 dg).wf = true) (D : Int) (hD : 48 ≤ D ∧ D ≤ 57) (eD : Hid (48 + dg % 10 = D)) (hi : 0 < s.size) (eI : Hid (at_ % (s.size : Int) = 0)) (hq : D ≠ (s[0].toNat : Int)) (hT : TabP w) :
    Calls Tryd.prog 7 #[.string s, .int .u8 at_, .int .u8 dg] w fun e w' => e = .returned (.bool true) ∧ Below w.heap.size w w' := by
  have HT := Lib.hid hT
  have HAW := Lib.hid awake_any
  clear hT
  have hsz : s.size ≠ 0 := by
    intro h
    rw [luhB_L] at hl
    exact ((luhL_iff _).1 hl).1 (List.eq_nil_of_length_eq_zero h)
  have hsp : 0 < s.size := Nat.pos_of_ne_zero hsz
  obtain ⟨a0, a1⟩ := wf_u8d ha
  obtain ⟨g0, g1⟩ := wf_u8d hd
  have H13 := Lib.hid (luhn_any s (by omega))
  rw [hl] at H13
  have hz : ((s.size : Int) == 0) = false := by rw [beq_eq_false_iff_ne]; omega
  have t1 : (D == (s[0].toNat : Int)) = false := by rw [beq_eq_false_iff_ne]; exact hq
  have t2 : (D != (s[0].toNat : Int)) = true := by rw [bne, t1]; rfl
  obtain ⟨x1, x2⟩ := luh1 s hl 0 hi D hD hq
  rw [Nat.zero_add, show s.extract 0 0 ++ d1 D = d1 D by simp] at x1 x2
  have X13 := Lib.hid (luhn_any _ (Nat.le_trans x2 (by omega)))
  rw [x1] at X13
  have z1 : ∀ w, (Instr.slice 9 (.string s) none (some (.int .i64 (0 : Int))) none).run Tryd.prog w = .ok (.string (s.extract 0 0)) w := fun w => by
    have := cut_h s 0 (by omega) w
    rwa [show ((0 : Nat) : Int) = (0 : Int) by omega] at this
  have z2 : ∀ w, (Instr.slice 9 (.string s) (some (.int .i64 (1 : Int))) none none).run Tryd.prog w = .ok (.string (s.extract 1 s.size)) w := fun w => by
    have := cut_l s 1 (by omega) w
    rwa [show ((1 : Nat) : Int) = (1 : Int) by omega] at this
  have hcv := fun w => conv1 w D (by omega)
  have hcv2 : ∀ w : World, (convert 36 9 (.slice (some ⟨w.heap.size, 0, none⟩) 1 1)).run Tryd.prog (w.alloc (.cells #[.int .u8 D] 5)).drew = .ok (.string (d1 D)) (w.alloc (.cells #[.int .u8 D] 5)).drew := fun w => conv1 w.drew D (by omega)
  have y1 : (s.extract 0 0).size ≤ 100 := by rw [ls_size, ls_ex, List.length_take]; omega
  have y2 : (s.extract 1 s.size).size ≤ 100 := by rw [ls_size, ls_ex, List.length_take]; omega
  have y4 : (d1 D).size ≤ 100 := by rw [d1_size]; omega
  have y3 : (s.extract 0 0 ++ d1 D).size ≤ 101 := by rw [ByteArray.size_append, d1_size]; omega
  clear hq x1 x2
  have q0 : ∀ w, (Instr.index 9 (.string s) (.int .i64 (0 : Int))).run Tryd.prog w = .ok (.int .u8 (s[0]).toNat) w := fun w => by
    have := idx_at s 0 hi w
    rwa [show ((0 : Nat) : Int) = (0 : Int) by omega] at this
  have eI2 := eI.out
  have eD2 := eD.out
  have hw1 : IntKind.u8.wrap (48 + dg % 10) = D := by rw [IntKind.wrap_u8, eD2]; omega
  have k1 : 1 ≤ s.size := hi
  have hw9 : IntKind.i64.wrap (at_ % (s.size : Int) + 1) = 1 := by rw [eI2]; decide
  have hw10 : IntKind.i64.wrap 1 = 1 := by decide
  have k2 : (1 : Int) ≤ (s.size : Int) := by omega
  have hs1 : (s.size : Int) ≤ 100 := by omega
  have hs2 : (0 : Int) < (s.size : Int) := by omega
  clear hl ha hd eI eD hsz
  go_enter Tryd.func7, Tryd.ntmps7
  go_wp2_with fail
  refine (H13.out _).mono ?_
  rintro e w1 ⟨rfl, hb⟩
  have B1 : Below w.heap.size w w1 := below_call (Below.refl w.heap.size w) hb
  clear hb
  go_wp2_with fail
  go_region_held (fun w' => Below w.heap.size w w')
    (first | assumption | (refine Below.drew ?_; assumption) | (refine dal ?_ _; assumption) | (refine bcall2 ?_ ?_ <;> assumption))
    (first | (go_at_call 13; refine (X13.out _).mono ?_; rintro e w2 ⟨rfl, hb2⟩; have hb3 : Below w.heap.size w w2 := (by refine bcall2 hb2 ?_; assumption)))
  have B2 := Lib.hid hb3
  clear hb3 hb2
  go_wp2_with fail
  go_quiet (fail)
  go_wp2_with fail
  refine (HAW.out _ (HT.out.call (bdn B2.out _))).mono ?_
  rintro e wz ⟨rfl, hbz⟩
  have BZ := Lib.hid (below_call (bdn B2.out _) hbz)
  clear hbz
  go_wp2_with fail
  go_ret
  exact ⟨rfl, BZ.out⟩
set_option maxHeartbeats 4000000 in
set_option maxRecDepth 20000 in
theorem detse (s : ByteArray) (at_ dg : Int) (w : World) (c0 : decide ((100 : Int) < (s.size : Int)) = false) (hs : s.size ≤ 100) (hl : luhB s = true) (ha : (Lit.int .u8 at_).wf = true) (hd : (Lit.int .u8 dg).wf = true) (D : Int) (hD : 48 ≤ D ∧ D ≤ 57) (eD : Hid (48 + dg % 10 = D)) (j : Nat) (hi : j + 1 < s.size) (eI : Hid (at_ % (s.size : Int) = (j : Int) + 1)) (hq : D = (s[j + 1].toNat : Int)) (hx : (s[j].toNat : Int) = (s[j + 1].toNat : Int)) (hT : TabP w) :
    Calls Tryd.prog 7 #[.string s, .int .u8 at_, .int .u8 dg] w fun e w' => e = .returned (.bool true) ∧ Below w.heap.size w w' := by
  have HT := Lib.hid hT
  have HAW := Lib.hid awake_any
  clear hT
  have hsz : s.size ≠ 0 := by
    intro h
    rw [luhB_L] at hl
    exact ((luhL_iff _).1 hl).1 (List.eq_nil_of_length_eq_zero h)
  have hsp : 0 < s.size := Nat.pos_of_ne_zero hsz
  obtain ⟨a0, a1⟩ := wf_u8d ha
  obtain ⟨g0, g1⟩ := wf_u8d hd
  have H13 := Lib.hid (luhn_any s (by omega))
  rw [hl] at H13
  have hz : ((s.size : Int) == 0) = false := by rw [beq_eq_false_iff_ne]; omega
  have t1 : (D == (s[j + 1].toNat : Int)) = true := by rw [beq_iff_eq]; exact hq
  have t2 : (D != (s[j + 1].toNat : Int)) = false := by rw [bne, t1]; rfl
  clear hq
  have q3 : ∀ w, (Instr.index 9 (.string s) (.int .i64 (j : Int))).run Tryd.prog w = .ok (.int .u8 (s[j]).toNat) w := idx_at s j (by omega)
  have t5 : ((s[j].toNat : Int) == (s[j + 1].toNat : Int)) = true := by rw [beq_iff_eq]; exact hx
  have t6 : ((j : Int) + 1 == 0) = false := by rw [beq_eq_false_iff_ne]; omega
  clear hx
  have q0 : ∀ w, (Instr.index 9 (.string s) (.int .i64 ((j : Int) + 1))).run Tryd.prog w = .ok (.int .u8 (s[j + 1]).toNat) w := fun w => by
    have := idx_at s (j + 1) hi w
    rwa [show (((j + 1) : Nat) : Int) = ((j : Int) + 1) by omega] at this
  have eI2 := eI.out
  have eD2 := eD.out
  have hw1 : IntKind.u8.wrap (48 + dg % 10) = D := by rw [IntKind.wrap_u8, eD2]; omega
  have hw2 : IntKind.i64.wrap ((j : Int) + 1 + 1) = (j : Int) + 1 + 1 := IntWalk.i64_in _ (by omega)
  have hw3 : IntKind.i64.wrap ((j : Int) + 1 - 1) = (j : Int) := by rw [show (j : Int) + 1 - 1 = j by omega]; exact IntWalk.i64_in _ (by omega)
  have hw4 : IntKind.i64.wrap (at_ % (s.size : Int) - 1) = (j : Int) := by rw [eI2]; exact hw3
  have hw5 : IntKind.i64.wrap (at_ % (s.size : Int) + 1) = (j : Int) + 1 + 1 := by rw [eI2]; exact hw2
  have hw6 : IntKind.i64.wrap (j : Int) = (j : Int) := IntWalk.i64_in _ (by omega)
  have hj1 : (j : Int) ≤ (s.size : Int) := by omega
  have hj2 : j ≤ s.size := by omega
  have hj3 : (j : Int) + 1 + 1 ≤ (s.size : Int) := by omega
  have hi1 : (j : Int) + 1 < (s.size : Int) := by omega
  have hj0 : (0 : Int) ≤ (j : Int) + 1 := by omega
  have hs1 : (s.size : Int) ≤ 100 := by omega
  have hs2 : (0 : Int) < (s.size : Int) := by omega
  clear hl ha hd eI eD hsz
  go_enter Tryd.func7, Tryd.ntmps7
  go_wp2_with fail
  refine (H13.out _).mono ?_
  rintro e w1 ⟨rfl, hb⟩
  have B1 : Below w.heap.size w w1 := below_call (Below.refl w.heap.size w) hb
  clear hb
  go_wp2_with fail
  go_quiet (fail)
  have B2 := Lib.hid B1
  clear B1
  go_wp2_with fail
  go_quiet (fail)
  go_wp2_with fail
  refine (HAW.out _ (HT.out.call (bdn B2.out _))).mono ?_
  rintro e wz ⟨rfl, hbz⟩
  have BZ := Lib.hid (below_call (bdn B2.out _) hbz)
  clear hbz
  go_wp2_with fail
  go_ret
  exact ⟨rfl, BZ.out⟩
set_option maxHeartbeats 4000000 in
set_option maxRecDepth 20000 in
theorem detsn (s : ByteArray) (at_ dg : Int) (w : World) (c0 : decide ((100 : Int) < (s.size : Int)) = false) (hs : s.size ≤ 100) (hl : luhB s = true) (ha : (Lit.int .u8 at_).wf = true) (hd : (Lit.int .u8 dg).wf = true) (D : Int) (hD : 48 ≤ D ∧ D ≤ 57) (eD : Hid (48 + dg % 10 = D)) (j : Nat) (hi : j + 1 < s.size) (eI : Hid (at_ % (s.size : Int) = (j : Int) + 1)) (hq : D ≠ (s[j + 1].toNat : Int)) (hx : (s[j].toNat : Int) = (s[j + 1].toNat : Int)) (hT : TabP w) :
    Calls Tryd.prog 7 #[.string s, .int .u8 at_, .int .u8 dg] w fun e w' => e = .returned (.bool true) ∧ Below w.heap.size w w' := by
  have HT := Lib.hid hT
  have HAW := Lib.hid awake_any
  clear hT
  have hsz : s.size ≠ 0 := by
    intro h
    rw [luhB_L] at hl
    exact ((luhL_iff _).1 hl).1 (List.eq_nil_of_length_eq_zero h)
  have hsp : 0 < s.size := Nat.pos_of_ne_zero hsz
  obtain ⟨a0, a1⟩ := wf_u8d ha
  obtain ⟨g0, g1⟩ := wf_u8d hd
  have H13 := Lib.hid (luhn_any s (by omega))
  rw [hl] at H13
  have hz : ((s.size : Int) == 0) = false := by rw [beq_eq_false_iff_ne]; omega
  have t1 : (D == (s[j + 1].toNat : Int)) = false := by rw [beq_eq_false_iff_ne]; exact hq
  have t2 : (D != (s[j + 1].toNat : Int)) = true := by rw [bne, t1]; rfl
  obtain ⟨x1, x2⟩ := luh1 s hl (j + 1) hi D hD hq
  skip
  have X13 := Lib.hid (luhn_any _ (Nat.le_trans x2 (by omega)))
  rw [x1] at X13
  have z1 : ∀ w, (Instr.slice 9 (.string s) none (some (.int .i64 ((j : Int) + 1))) none).run Tryd.prog w = .ok (.string (s.extract 0 (j + 1))) w := fun w => by
    have := cut_h s (j + 1) (by omega) w
    rwa [show (((j + 1) : Nat) : Int) = ((j : Int) + 1) by omega] at this
  have z2 : ∀ w, (Instr.slice 9 (.string s) (some (.int .i64 ((j : Int) + 1 + 1))) none none).run Tryd.prog w = .ok (.string (s.extract (j + 1 + 1) s.size)) w := fun w => by
    have := cut_l s (j + 1 + 1) (by omega) w
    rwa [show ((j + 1 + 1 : Nat) : Int) = ((j : Int) + 1 + 1) by omega] at this
  have hcv := fun w => conv1 w D (by omega)
  have hcv2 : ∀ w : World, (convert 36 9 (.slice (some ⟨w.heap.size, 0, none⟩) 1 1)).run Tryd.prog (w.alloc (.cells #[.int .u8 D] 5)).drew = .ok (.string (d1 D)) (w.alloc (.cells #[.int .u8 D] 5)).drew := fun w => conv1 w.drew D (by omega)
  have y1 : (s.extract 0 (j + 1)).size ≤ 100 := by rw [ls_size, ls_ex, List.length_take]; omega
  have y2 : (s.extract (j + 1 + 1) s.size).size ≤ 100 := by rw [ls_size, ls_ex, List.length_take]; omega
  have y4 : (d1 D).size ≤ 100 := by rw [d1_size]; omega
  have y3 : (s.extract 0 (j + 1) ++ d1 D).size ≤ 101 := by rw [ByteArray.size_append, d1_size]; omega
  clear hq x1 x2
  have q3 : ∀ w, (Instr.index 9 (.string s) (.int .i64 (j : Int))).run Tryd.prog w = .ok (.int .u8 (s[j]).toNat) w := idx_at s j (by omega)
  have t5 : ((s[j].toNat : Int) == (s[j + 1].toNat : Int)) = true := by rw [beq_iff_eq]; exact hx
  have t6 : ((j : Int) + 1 == 0) = false := by rw [beq_eq_false_iff_ne]; omega
  clear hx
  have q0 : ∀ w, (Instr.index 9 (.string s) (.int .i64 ((j : Int) + 1))).run Tryd.prog w = .ok (.int .u8 (s[j + 1]).toNat) w := fun w => by
    have := idx_at s (j + 1) hi w
    rwa [show (((j + 1) : Nat) : Int) = ((j : Int) + 1) by omega] at this
  have eI2 := eI.out
  have eD2 := eD.out
  have hw1 : IntKind.u8.wrap (48 + dg % 10) = D := by rw [IntKind.wrap_u8, eD2]; omega
  have hw2 : IntKind.i64.wrap ((j : Int) + 1 + 1) = (j : Int) + 1 + 1 := IntWalk.i64_in _ (by omega)
  have hw3 : IntKind.i64.wrap ((j : Int) + 1 - 1) = (j : Int) := by rw [show (j : Int) + 1 - 1 = j by omega]; exact IntWalk.i64_in _ (by omega)
  have hw4 : IntKind.i64.wrap (at_ % (s.size : Int) - 1) = (j : Int) := by rw [eI2]; exact hw3
  have hw5 : IntKind.i64.wrap (at_ % (s.size : Int) + 1) = (j : Int) + 1 + 1 := by rw [eI2]; exact hw2
  have hw6 : IntKind.i64.wrap (j : Int) = (j : Int) := IntWalk.i64_in _ (by omega)
  have hj1 : (j : Int) ≤ (s.size : Int) := by omega
  have hj2 : j ≤ s.size := by omega
  have hj3 : (j : Int) + 1 + 1 ≤ (s.size : Int) := by omega
  have hi1 : (j : Int) + 1 < (s.size : Int) := by omega
  have hj0 : (0 : Int) ≤ (j : Int) + 1 := by omega
  have hs1 : (s.size : Int) ≤ 100 := by omega
  have hs2 : (0 : Int) < (s.size : Int) := by omega
  clear hl ha hd eI eD hsz
  go_enter Tryd.func7, Tryd.ntmps7
  go_wp2_with fail
  refine (H13.out _).mono ?_
  rintro e w1 ⟨rfl, hb⟩
  have B1 : Below w.heap.size w w1 := below_call (Below.refl w.heap.size w) hb
  clear hb
  go_wp2_with fail
  go_region_held (fun w' => Below w.heap.size w w')
    (first | assumption | (refine Below.drew ?_; assumption) | (refine dal ?_ _; assumption) | (refine bcall2 ?_ ?_ <;> assumption))
    (first | (go_at_call 13; refine (X13.out _).mono ?_; rintro e w2 ⟨rfl, hb2⟩; have hb3 : Below w.heap.size w w2 := (by refine bcall2 hb2 ?_; assumption)))
  have B2 := Lib.hid hb3
  clear hb3 hb2
  go_wp2_with fail
  go_quiet (fail)
  go_wp2_with fail
  refine (HAW.out _ (HT.out.call (bdn B2.out _))).mono ?_
  rintro e wz ⟨rfl, hbz⟩
  have BZ := Lib.hid (below_call (bdn B2.out _) hbz)
  clear hbz
  go_wp2_with fail
  go_ret
  exact ⟨rfl, BZ.out⟩
end Go.Proofs.YtagfimemiggnlaaDoor
