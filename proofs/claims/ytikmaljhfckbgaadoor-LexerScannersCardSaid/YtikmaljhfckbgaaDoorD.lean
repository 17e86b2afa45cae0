/- Is a rune of two bytes and more a mark? The class of a rune. -/
import Derived.Test.YtikmaljhfckbgaaDoorC
import Derived.Deep.DeepCutAuto
import Derived.WalkMore
set_option linter.unusedVariables false
set_option linter.unusedSimpArgs false
namespace Go.Proofs.YtikmaljhfckbgaaDoor
open Go.Sort Go.ChangeShapes Go.WideShapes Go.ChangeAt Go.RowKit
theorem ib_ex (k : Nat) (c : UInt8) (h : 128 ≤ c.toNat) : Lib.indexByte ((marks.extract k 16).data.toList) c = -1 := by
  refine ib_none _ ?_ c h
  rw [List.all_eq_true]
  intro x hx
  have hm : x ∈ marks.data.toList := by
    have : (marks.extract k 16).data.toList = ((ls marks).drop k).take (16 - k) := ls_ex marks k 16
    rw [this] at hx
    exact List.mem_of_mem_drop (List.mem_of_mem_take hx)
  have : marks.data.toList.all (fun x => decide (x.toNat < 128)) = true := by decide
  rw [List.all_eq_true] at this
  exact this x hm
abbrev IBm (k : Nat) (c : UInt8) : Prop := ∀ w, Calls Tryd.prog 46 #[.string (marks.extract k 16), .int .u8 c.toNat] w fun e w' => e = .returned (.int .i64 (-1)) ∧ w' = w
theorem ib_m (k : Nat) (c : UInt8) (h : 128 ≤ c.toNat) : IBm k c := fun w => by
  have hc := Tryd.strings_IndexByte (marks.extract k 16) (c.toNat : Int) w
  have e2 : ((c.toNat : Int).toNat.toUInt8) = c := by simp
  rw [e2, ib_ex k c h] at hc
  exact hc
set_option maxHeartbeats 2000000 in
set_option maxRecDepth 100000 in
theorem ch_2 (r : Int) (a b : UInt8) (w : World) (h0 : 128 ≤ r) (hne : (r == 65533) = false) (hE : Utf8.encode r = ⟨#[a, b]⟩) (h : 128 ≤ b.toNat) (V : ∀ w, Calls Tryd.prog 87 #[.int .i32 r] w fun e w' => e = .returned (.bool true) ∧ w' = w) :
    Calls Tryd.prog 76 #[.string marks, .int .i32 r] w fun e w' => e = .returned (.int .i64 (-1)) ∧ ∃ n, w' = w.drewN n := by
  have HV := Lib.hid V
  have hcv : ∀ w, (convert 21 9 (.int .i32 r)).run Tryd.prog w = .ok (.string ⟨#[a, b]⟩) w := fun w => by rw [convR r w, hE]
  have HI := Lib.hid (ib_m 2 b h)
  obtain ⟨x, hx⟩ : ∃ x : Int, (b.toNat : Int) = x := ⟨_, rfl⟩
  have d0 : decide (r < 128) = false := decide_eq_false (by omega)
  have d0b : ¬ r < 128 := by omega
  have d1 : decide (0 ≤ r) = true := decide_eq_true (by omega)
  have hz : marks.size = 16 := rfl
  have hm : ∀ w, (Instr.index 9 (.string marks) (.int .i64 1)).run Tryd.prog w = .ok (.int .u8 41) w := fun w => idx_at marks 1 (by decide) w
  have hs : ∀ w, (Instr.slice 9 (.string marks) (some (.int .i64 2)) none none).run Tryd.prog w = .ok (.string (marks.extract 2 16)) w := fun w => cut_l marks 2 (by decide) w
  have hr : ∀ w, (Instr.index 9 (.string ⟨#[a, b]⟩) (.int .i64 1)).run Tryd.prog w = .ok (.int .u8 x) w := fun w => (idx_at ⟨#[a, b]⟩ 1 (by show 1 < 2; decide) w).trans (by rw [← hx]; rfl)
  have t1 : ((41 : Int) == x) = false := by rw [beq_eq_false_iff_ne]; omega
  have t2 : ((41 : Int) != x) = true := by rw [bne, t1]; rfl
  have HI2 : Hid (∀ w, Calls Tryd.prog 46 #[.string (marks.extract 2 16), .int .u8 x] w fun e w' => e = .returned (.int .i64 (-1)) ∧ w' = w) := Lib.hid (hx ▸ HI.out)
  clear HI V hE h hx
  generalize hMM : marks = MM at *
  clear hMM
  have hzi : (MM.size : Int) = 16 := by omega
  go_enter Tryd.func76, Tryd.ntmps76
  go_wp2_with fail
  refine (HV.out _).mono ?_
  rintro e w1 ⟨rfl, rfl⟩
  go_wp2_with fail
  go_step3
  go_wp2_with fail
  refine wp_loop_rounds 1 ?_
  rw [rounds_succ]
  go_wp2_with fail
  go_step3
  go_wp2_with fail
  go_quiet (fail)
  obtain ⟨V, hV⟩ : ∃ V, V = w1.drewN nq := ⟨_, rfl⟩
  rw [← hV]
  have HVV := Lib.hid hV
  clear hV
  go_wp2_with fail
  go_quiet ((go_at_call 46; exact Calls.quiet_of_same (HI2.out _)))
  go_wp2_with fail
  rw [Exit.noGoto_ret]
  simp only [Exit.inBlock, Exit.then]
  rw [Exit.noGoto_ret]
  simp only [Exit.inBlock]
  go_ret
  exact ⟨rfl, by rw [HVV.out]; exact ⟨_, World.drewN_drewN _ _ _⟩⟩
set_option maxHeartbeats 2000000 in
set_option maxRecDepth 100000 in
theorem ch_3 (r : Int) (a b c : UInt8) (w : World) (h0 : 128 ≤ r) (hne : (r == 65533) = false) (hE : Utf8.encode r = ⟨#[a, b, c]⟩) (h : 128 ≤ c.toNat) (V : ∀ w, Calls Tryd.prog 87 #[.int .i32 r] w fun e w' => e = .returned (.bool true) ∧ w' = w) :
    Calls Tryd.prog 76 #[.string marks, .int .i32 r] w fun e w' => e = .returned (.int .i64 (-1)) ∧ ∃ n, w' = w.drewN n := by
  have HV := Lib.hid V
  have hcv : ∀ w, (convert 21 9 (.int .i32 r)).run Tryd.prog w = .ok (.string ⟨#[a, b, c]⟩) w := fun w => by rw [convR r w, hE]
  have HI := Lib.hid (ib_m 3 c h)
  obtain ⟨x, hx⟩ : ∃ x : Int, (c.toNat : Int) = x := ⟨_, rfl⟩
  have d0 : decide (r < 128) = false := decide_eq_false (by omega)
  have d0b : ¬ r < 128 := by omega
  have d1 : decide (0 ≤ r) = true := decide_eq_true (by omega)
  have hz : marks.size = 16 := rfl
  have hm : ∀ w, (Instr.index 9 (.string marks) (.int .i64 2)).run Tryd.prog w = .ok (.int .u8 123) w := fun w => idx_at marks 2 (by decide) w
  have hs : ∀ w, (Instr.slice 9 (.string marks) (some (.int .i64 3)) none none).run Tryd.prog w = .ok (.string (marks.extract 3 16)) w := fun w => cut_l marks 3 (by decide) w
  have hr : ∀ w, (Instr.index 9 (.string ⟨#[a, b, c]⟩) (.int .i64 2)).run Tryd.prog w = .ok (.int .u8 x) w := fun w => (idx_at ⟨#[a, b, c]⟩ 2 (by show 2 < 3; decide) w).trans (by rw [← hx]; rfl)
  have t1 : ((123 : Int) == x) = false := by rw [beq_eq_false_iff_ne]; omega
  have t2 : ((123 : Int) != x) = true := by rw [bne, t1]; rfl
  have HI2 : Hid (∀ w, Calls Tryd.prog 46 #[.string (marks.extract 3 16), .int .u8 x] w fun e w' => e = .returned (.int .i64 (-1)) ∧ w' = w) := Lib.hid (hx ▸ HI.out)
  clear HI V hE h hx
  generalize hMM : marks = MM at *
  clear hMM
  have hzi : (MM.size : Int) = 16 := by omega
  go_enter Tryd.func76, Tryd.ntmps76
  go_wp2_with fail
  refine (HV.out _).mono ?_
  rintro e w1 ⟨rfl, rfl⟩
  go_wp2_with fail
  go_step3
  go_wp2_with fail
  refine wp_loop_rounds 1 ?_
  rw [rounds_succ]
  go_wp2_with fail
  go_step3
  go_wp2_with fail
  go_quiet (fail)
  obtain ⟨V, hV⟩ : ∃ V, V = w1.drewN nq := ⟨_, rfl⟩
  rw [← hV]
  have HVV := Lib.hid hV
  clear hV
  go_wp2_with fail
  go_quiet ((go_at_call 46; exact Calls.quiet_of_same (HI2.out _)))
  go_wp2_with fail
  rw [Exit.noGoto_ret]
  simp only [Exit.inBlock, Exit.then]
  rw [Exit.noGoto_ret]
  simp only [Exit.inBlock]
  go_ret
  exact ⟨rfl, by rw [HVV.out]; exact ⟨_, World.drewN_drewN _ _ _⟩⟩
set_option maxHeartbeats 2000000 in
set_option maxRecDepth 100000 in
theorem ch_4 (r : Int) (a b c d : UInt8) (w : World) (h0 : 128 ≤ r) (hne : (r == 65533) = false) (hE : Utf8.encode r = ⟨#[a, b, c, d]⟩) (h : 128 ≤ d.toNat) (V : ∀ w, Calls Tryd.prog 87 #[.int .i32 r] w fun e w' => e = .returned (.bool true) ∧ w' = w) :
    Calls Tryd.prog 76 #[.string marks, .int .i32 r] w fun e w' => e = .returned (.int .i64 (-1)) ∧ ∃ n, w' = w.drewN n := by
  have HV := Lib.hid V
  have hcv : ∀ w, (convert 21 9 (.int .i32 r)).run Tryd.prog w = .ok (.string ⟨#[a, b, c, d]⟩) w := fun w => by rw [convR r w, hE]
  have HI := Lib.hid (ib_m 4 d h)
  obtain ⟨x, hx⟩ : ∃ x : Int, (d.toNat : Int) = x := ⟨_, rfl⟩
  have d0 : decide (r < 128) = false := decide_eq_false (by omega)
  have d0b : ¬ r < 128 := by omega
  have d1 : decide (0 ≤ r) = true := decide_eq_true (by omega)
  have hz : marks.size = 16 := rfl
  have hm : ∀ w, (Instr.index 9 (.string marks) (.int .i64 3)).run Tryd.prog w = .ok (.int .u8 125) w := fun w => idx_at marks 3 (by decide) w
  have hs : ∀ w, (Instr.slice 9 (.string marks) (some (.int .i64 4)) none none).run Tryd.prog w = .ok (.string (marks.extract 4 16)) w := fun w => cut_l marks 4 (by decide) w
  have hr : ∀ w, (Instr.index 9 (.string ⟨#[a, b, c, d]⟩) (.int .i64 3)).run Tryd.prog w = .ok (.int .u8 x) w := fun w => (idx_at ⟨#[a, b, c, d]⟩ 3 (by show 3 < 4; decide) w).trans (by rw [← hx]; rfl)
  have t1 : ((125 : Int) == x) = false := by rw [beq_eq_false_iff_ne]; omega
  have t2 : ((125 : Int) != x) = true := by rw [bne, t1]; rfl
  have HI2 : Hid (∀ w, Calls Tryd.prog 46 #[.string (marks.extract 4 16), .int .u8 x] w fun e w' => e = .returned (.int .i64 (-1)) ∧ w' = w) := Lib.hid (hx ▸ HI.out)
  clear HI V hE h hx
  generalize hMM : marks = MM at *
  clear hMM
  have hzi : (MM.size : Int) = 16 := by omega
  go_enter Tryd.func76, Tryd.ntmps76
  go_wp2_with fail
  refine (HV.out _).mono ?_
  rintro e w1 ⟨rfl, rfl⟩
  go_wp2_with fail
  go_step3
  go_wp2_with fail
  refine wp_loop_rounds 1 ?_
  rw [rounds_succ]
  go_wp2_with fail
  go_step3
  go_wp2_with fail
  go_quiet (fail)
  obtain ⟨V, hV⟩ : ∃ V, V = w1.drewN nq := ⟨_, rfl⟩
  rw [← hV]
  have HVV := Lib.hid hV
  clear hV
  go_wp2_with fail
  go_quiet ((go_at_call 46; exact Calls.quiet_of_same (HI2.out _)))
  go_wp2_with fail
  rw [Exit.noGoto_ret]
  simp only [Exit.inBlock, Exit.then]
  rw [Exit.noGoto_ret]
  simp only [Exit.inBlock]
  go_ret
  exact ⟨rfl, by rw [HVV.out]; exact ⟨_, World.drewN_drewN _ _ _⟩⟩
end Go.Proofs.YtikmaljhfckbgaaDoor
