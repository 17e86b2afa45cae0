import Derived.Test.YtlkbghdeingimaaE
import Derived.Lib.QuietBelow
set_option linter.unusedVariables false
set_option linter.unusedSimpArgs false
namespace Go.Proofs.Ytlkbghdeingimaa
open Go.Sort Go.ChangeShapes Go.WideShapes Go.ChangeAt Go.RowKit
def stE (st ap rv cl ex : Int) : Int := if st ≠ sttI ap rv cl ex ∨ st = 1 ∧ ex ≠ 0 then 8 else 0
theorem stE_1 {ap rv cl ex : Int} (h : sttI ap rv cl ex = 1) (h2 : (ex != 0) = true) : stE (sttI ap rv cl ex) ap rv cl ex = 8 := by
  simp at h2; simp [stE, h, h2]
theorem stE_2 {ap rv cl ex : Int} (h : sttI ap rv cl ex = 1) (h2 : (ex != 0) = false) : stE (sttI ap rv cl ex) ap rv cl ex = 0 := by
  simp at h2; simp [stE, h2]
theorem stE_3 {ap rv cl ex : Int} (h : ¬ sttI ap rv cl ex = 1) : stE (sttI ap rv cl ex) ap rv cl ex = 0 := by
  simp [stE, h]
set_option maxHeartbeats 1000000 in
theorem chk_st1 (id cur : ByteArray) (ap rv cl ex st tt un pa : Int) (w : World) (hs1 : id.size ≤ maxLen) (hs2 : cur.size ≤ maxLen)
    (h1 : idL id.data.toList = true) (h2 : curL cur.data.toList = true) (h3 : amtB ap 1 = true) (h4 : amtB rv 0 = true) (h5 : amtB cl 0 = true) (h6 : amtB ex 0 = true)
    (k1 : 0 ≤ ap - rv - cl - ex) (k2 : timeB tt = true) (k3 : timeB un = true) (k4 : tt < un) (k5 : 0 ≤ pa) (k6 : pa ≤ 8) (k7 : pa ≤ cl) (k8 : ((pa == 0) == (cl == 0)) = true) (hne : ¬ st = sttI ap rv cl ex) :
    Calls Try.prog 12 #[au id cur ap rv cl ex st tt un pa] w fun e w' => e = .returned (.int .i64 8) ∧ Below w.heap.size w w' := by
  obtain ⟨a1, a2⟩ := amtB_le h3
  obtain ⟨b1, b2⟩ := amtB_le h4
  obtain ⟨c1, c2⟩ := amtB_le h5
  obtain ⟨d1, d2⟩ := amtB_le h6
  go_enter Try.func12, Try.ntmps12
  go_wp2_with (first | (go_at_call 24; refine (id_any _ _ hs1).mono ?_; rintro e w' ⟨rfl, rfl⟩) | (go_at_call 25; refine (cur_any _ _ hs2).mono ?_; rintro e w' ⟨rfl, rfl⟩) | (go_at_call 26; refine (amt_any _ _ _).mono ?_; rintro e w' ⟨rfl, rfl⟩) | (go_at_call 27; refine (time_any _ _).mono ?_; rintro e w' ⟨rfl, rfl⟩) | (go_at_call 20; refine (open_any id cur ap rv cl ex st tt un pa _ (by omega) (by omega) (by omega) (by omega) (by omega) (by omega) (by omega) (by omega)).mono ?_; rintro e w1 ⟨rfl, rfl⟩))
  have B0 : Below w.heap.size w ((w.alloc (.cells (auc id cur ap rv cl ex st tt un pa) 24)).alloc (.cells (auc id cur ap rv cl ex st tt un pa) 24)) := ((Below.refl _ _).alloc (Nat.le_refl _) _).alloc (by simp) _
  generalize hW0 : (w.alloc (.cells (auc id cur ap rv cl ex st tt un pa) 24)).alloc (.cells (auc id cur ap rv cl ex st tt un pa) 24) = W0 at *
  have q0 : ∀ d os, (grow (redrawn W0 d) os).cell? ⟨w.heap.size, 0, none⟩ = some (.string id) := cell_regrown (by rw [← hW0]; simp [World.cell?_alloc_old])
  have q1 : ∀ d os, (grow (redrawn W0 d) os).cell? ⟨w.heap.size, 1, none⟩ = some (.string cur) := cell_regrown (by rw [← hW0]; simp [World.cell?_alloc_old])
  have q2 : ∀ d os, (grow (redrawn W0 d) os).cell? ⟨w.heap.size, 2, none⟩ = some (.int .i64 ap) := cell_regrown (by rw [← hW0]; simp [World.cell?_alloc_old])
  have q3 : ∀ d os, (grow (redrawn W0 d) os).cell? ⟨w.heap.size, 3, none⟩ = some (.int .i64 rv) := cell_regrown (by rw [← hW0]; simp [World.cell?_alloc_old])
  have q4 : ∀ d os, (grow (redrawn W0 d) os).cell? ⟨w.heap.size, 4, none⟩ = some (.int .i64 cl) := cell_regrown (by rw [← hW0]; simp [World.cell?_alloc_old])
  have q5 : ∀ d os, (grow (redrawn W0 d) os).cell? ⟨w.heap.size, 5, none⟩ = some (.int .i64 ex) := cell_regrown (by rw [← hW0]; simp [World.cell?_alloc_old])
  have q6 : ∀ d os, (grow (redrawn W0 d) os).cell? ⟨w.heap.size, 6, none⟩ = some (.int .i64 st) := cell_regrown (by rw [← hW0]; simp [World.cell?_alloc_old])
  have q7 : ∀ d os, (grow (redrawn W0 d) os).cell? ⟨w.heap.size, 7, none⟩ = some (.int .i64 tt) := cell_regrown (by rw [← hW0]; simp [World.cell?_alloc_old])
  have q8 : ∀ d os, (grow (redrawn W0 d) os).cell? ⟨w.heap.size, 8, none⟩ = some (.int .i64 un) := cell_regrown (by rw [← hW0]; simp [World.cell?_alloc_old])
  have q9 : ∀ d os, (grow (redrawn W0 d) os).cell? ⟨w.heap.size, 9, none⟩ = some (.int .i64 pa) := cell_regrown (by rw [← hW0]; simp [World.cell?_alloc_old])
  have cS : ∀ d os, Calls Try.prog 28 #[au id cur ap rv cl ex st tt un pa] (grow (redrawn W0 d) os) fun e w'' => e = .returned (au id cur ap rv cl ex (sttI ap rv cl ex) tt un pa) ∧ ∃ p : Regrown, w'' = grow (redrawn W0 p.d) p.os := fun d os => Calls.regrown_of (settled_x id cur ap rv cl ex st tt un pa _ (by omega) (by omega) (by omega) (by omega) (by omega) (by omega) (by omega) (by omega))
  clear hW0
  refine wp_region_quiet_below (by kernel_rfl) (by kernel_rfl) ?_
  repeat (any_goals (first | go_big_quiet_step (exact cS _ _) | quiet_step (exact cS _ _) | (refine wpQuiet_step (fun K hK => ?_); go_simp; split <;> (refine hK _ ?_; clear hK K))))
  all_goals (refine wpQuiet_nil ?_; intro _ hw'; obtain ⟨⟨dq, osq⟩, hw''⟩ := hw'; subst hw'')
  all_goals go_wp2
  all_goals go_ret
  all_goals first
    | exact ⟨rfl, B0.trans ((below_regrown W0 dq osq).mono B0.size)⟩
    | exact ⟨ret_i (stE_1 ‹_› ‹_›).symm, B0.trans ((below_regrown W0 dq osq).mono B0.size)⟩
    | exact ⟨ret_i (stE_2 ‹_› ‹_›).symm, B0.trans ((below_regrown W0 dq osq).mono B0.size)⟩
    | exact ⟨ret_i (stE_3 ‹_›).symm, B0.trans ((below_regrown W0 dq osq).mono B0.size)⟩
set_option maxHeartbeats 1000000 in
theorem chk_st2 (id cur : ByteArray) (ap rv cl ex tt un pa : Int) (w : World) (hs1 : id.size ≤ maxLen) (hs2 : cur.size ≤ maxLen)
    (h1 : idL id.data.toList = true) (h2 : curL cur.data.toList = true) (h3 : amtB ap 1 = true) (h4 : amtB rv 0 = true) (h5 : amtB cl 0 = true) (h6 : amtB ex 0 = true)
    (k1 : 0 ≤ ap - rv - cl - ex) (k2 : timeB tt = true) (k3 : timeB un = true) (k4 : tt < un) (k5 : 0 ≤ pa) (k6 : pa ≤ 8) (k7 : pa ≤ cl) (k8 : ((pa == 0) == (cl == 0)) = true) :
    Calls Try.prog 12 #[au id cur ap rv cl ex (sttI ap rv cl ex) tt un pa] w fun e w' => e = .returned (.int .i64 (stE (sttI ap rv cl ex) ap rv cl ex)) ∧ Below w.heap.size w w' := by
  obtain ⟨a1, a2⟩ := amtB_le h3
  obtain ⟨b1, b2⟩ := amtB_le h4
  obtain ⟨c1, c2⟩ := amtB_le h5
  obtain ⟨d1, d2⟩ := amtB_le h6
  go_enter Try.func12, Try.ntmps12
  go_wp2_with (first | (go_at_call 24; refine (id_any _ _ hs1).mono ?_; rintro e w' ⟨rfl, rfl⟩) | (go_at_call 25; refine (cur_any _ _ hs2).mono ?_; rintro e w' ⟨rfl, rfl⟩) | (go_at_call 26; refine (amt_any _ _ _).mono ?_; rintro e w' ⟨rfl, rfl⟩) | (go_at_call 27; refine (time_any _ _).mono ?_; rintro e w' ⟨rfl, rfl⟩) | (go_at_call 20; refine (open_any id cur ap rv cl ex (sttI ap rv cl ex) tt un pa _ (by omega) (by omega) (by omega) (by omega) (by omega) (by omega) (by omega) (by omega)).mono ?_; rintro e w1 ⟨rfl, rfl⟩))
  have B0 : Below w.heap.size w ((w.alloc (.cells (auc id cur ap rv cl ex (sttI ap rv cl ex) tt un pa) 24)).alloc (.cells (auc id cur ap rv cl ex (sttI ap rv cl ex) tt un pa) 24)) := ((Below.refl _ _).alloc (Nat.le_refl _) _).alloc (by simp) _
  generalize hW0 : (w.alloc (.cells (auc id cur ap rv cl ex (sttI ap rv cl ex) tt un pa) 24)).alloc (.cells (auc id cur ap rv cl ex (sttI ap rv cl ex) tt un pa) 24) = W0 at *
  have q0 : ∀ d os, (grow (redrawn W0 d) os).cell? ⟨w.heap.size, 0, none⟩ = some (.string id) := cell_regrown (by rw [← hW0]; simp [World.cell?_alloc_old])
  have q1 : ∀ d os, (grow (redrawn W0 d) os).cell? ⟨w.heap.size, 1, none⟩ = some (.string cur) := cell_regrown (by rw [← hW0]; simp [World.cell?_alloc_old])
  have q2 : ∀ d os, (grow (redrawn W0 d) os).cell? ⟨w.heap.size, 2, none⟩ = some (.int .i64 ap) := cell_regrown (by rw [← hW0]; simp [World.cell?_alloc_old])
  have q3 : ∀ d os, (grow (redrawn W0 d) os).cell? ⟨w.heap.size, 3, none⟩ = some (.int .i64 rv) := cell_regrown (by rw [← hW0]; simp [World.cell?_alloc_old])
  have q4 : ∀ d os, (grow (redrawn W0 d) os).cell? ⟨w.heap.size, 4, none⟩ = some (.int .i64 cl) := cell_regrown (by rw [← hW0]; simp [World.cell?_alloc_old])
  have q5 : ∀ d os, (grow (redrawn W0 d) os).cell? ⟨w.heap.size, 5, none⟩ = some (.int .i64 ex) := cell_regrown (by rw [← hW0]; simp [World.cell?_alloc_old])
  have q6 : ∀ d os, (grow (redrawn W0 d) os).cell? ⟨w.heap.size, 6, none⟩ = some (.int .i64 (sttI ap rv cl ex)) := cell_regrown (by rw [← hW0]; simp [World.cell?_alloc_old])
  have q7 : ∀ d os, (grow (redrawn W0 d) os).cell? ⟨w.heap.size, 7, none⟩ = some (.int .i64 tt) := cell_regrown (by rw [← hW0]; simp [World.cell?_alloc_old])
  have q8 : ∀ d os, (grow (redrawn W0 d) os).cell? ⟨w.heap.size, 8, none⟩ = some (.int .i64 un) := cell_regrown (by rw [← hW0]; simp [World.cell?_alloc_old])
  have q9 : ∀ d os, (grow (redrawn W0 d) os).cell? ⟨w.heap.size, 9, none⟩ = some (.int .i64 pa) := cell_regrown (by rw [← hW0]; simp [World.cell?_alloc_old])
  have cS : ∀ d os, Calls Try.prog 28 #[au id cur ap rv cl ex (sttI ap rv cl ex) tt un pa] (grow (redrawn W0 d) os) fun e w'' => e = .returned (au id cur ap rv cl ex (sttI ap rv cl ex) tt un pa) ∧ ∃ p : Regrown, w'' = grow (redrawn W0 p.d) p.os := fun d os => Calls.regrown_of (settled_x id cur ap rv cl ex (sttI ap rv cl ex) tt un pa _ (by omega) (by omega) (by omega) (by omega) (by omega) (by omega) (by omega) (by omega))
  clear hW0
  refine wp_region_quiet_below (by kernel_rfl) (by kernel_rfl) ?_
  repeat (any_goals (first | go_big_quiet_step (exact cS _ _) | quiet_step (exact cS _ _) | (refine wpQuiet_step (fun K hK => ?_); go_simp; split <;> (refine hK _ ?_; clear hK K))))
  all_goals (refine wpQuiet_nil ?_; intro _ hw'; obtain ⟨⟨dq, osq⟩, hw''⟩ := hw'; subst hw'')
  all_goals go_wp2
  all_goals go_ret
  all_goals first
    | exact ⟨rfl, B0.trans ((below_regrown W0 dq osq).mono B0.size)⟩
    | exact ⟨ret_i (stE_1 ‹_› ‹_›).symm, B0.trans ((below_regrown W0 dq osq).mono B0.size)⟩
    | exact ⟨ret_i (stE_2 ‹_› ‹_›).symm, B0.trans ((below_regrown W0 dq osq).mono B0.size)⟩
    | exact ⟨ret_i (stE_3 ‹_›).symm, B0.trans ((below_regrown W0 dq osq).mono B0.size)⟩
end Go.Proofs.Ytlkbghdeingimaa
