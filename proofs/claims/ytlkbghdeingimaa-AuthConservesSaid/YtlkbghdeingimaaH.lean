import Derived.Test.YtlkbghdeingimaaG
import Derived.Lib.QuietBelow
set_option linter.unusedVariables false
set_option linter.unusedSimpArgs false
namespace Go.Proofs.Ytlkbghdeingimaa
open Go.Sort Go.ChangeShapes Go.WideShapes Go.ChangeAt Go.RowKit

theorem ramt_any (n least : Int) (w : World) :
    Calls Try.prog 31 #[.int .i64 n, .int .i64 least, .int .i64 999999999999] w fun e w' => e = .returned (.bool (amtB n least)) ∧ w = w' :=
  (within_any n least 999999999999 w).mono fun _ _ h => h
theorem timeB_le {n : Int} (h : timeB n = true) : 0 ≤ n ∧ n ≤ 1099511627776 := by simpa [timeB] using h
theorem timeB_no {n : Int} (h : timeB n = false) : n < 0 ∨ 1099511627776 < n := by simp [timeB] at h; omega
set_option maxHeartbeats 1000000 in
theorem rchk_bad (id cur : ByteArray) (ap rv cl ex st tt un pa : Int) (w : World) (hs1 : id.size ≤ maxLen) (hs2 : cur.size ≤ maxLen)
    (hbad : (idL id.data.toList && curL cur.data.toList && amtB ap 1 && amtB rv 0 && amtB cl 0 && amtB ex 0) = false) :
    Calls Try.prog 13 #[au id cur ap rv cl ex st tt un pa] w fun e w' => e = .returned (.int .i64 (chk id cur ap rv cl ex st tt un pa)) ∧ Below w.heap.size w w' := by
  cases h1 : idL id.data.toList
  · have H := Lib.hid (show chk id cur ap rv cl ex st tt un pa = 5 by simp [chk, h1])
    go_enter Try.func13, Try.ntmps13
    go_wp2_with (first | (go_at_call 29; refine (rid_any _ _ hs1).mono ?_; rintro e w' ⟨rfl, rfl⟩))
    go_ret
    exact ⟨ret_i H.out.symm, (Below.refl _ _).alloc (Nat.le_refl _) _⟩
  cases h2 : curL cur.data.toList
  · have H := Lib.hid (show chk id cur ap rv cl ex st tt un pa = 11 by simp [chk, h1, h2])
    go_enter Try.func13, Try.ntmps13
    go_wp2_with (first | (go_at_call 29; refine (rid_any _ _ hs1).mono ?_; rintro e w' ⟨rfl, rfl⟩) | (go_at_call 30; refine (rcur_any _ _ hs2).mono ?_; rintro e w' ⟨rfl, rfl⟩))
    go_ret
    exact ⟨ret_i H.out.symm, (Below.refl _ _).alloc (Nat.le_refl _) _⟩
  have H := Lib.hid (show chk id cur ap rv cl ex st tt un pa = 4 by
    simp only [chk, h1, h2]; rw [if_neg (by simp), if_neg (by simp), if_pos (by revert hbad; simp only [h1, h2]; cases amtB ap 1 <;> cases amtB rv 0 <;> cases amtB cl 0 <;> cases amtB ex 0 <;> simp)])
  have HB := Lib.hid hbad
  clear hbad
  cases h3 : amtB ap 1
  all_goals cases h4 : amtB rv 0
  all_goals cases h5 : amtB cl 0
  all_goals cases h6 : amtB ex 0
  all_goals first
    | (exfalso; have := HB.out; simp [h1, h2, h3, h4, h5, h6] at this; done)
    | (go_enter Try.func13, Try.ntmps13
       go_wp2_with (first | (go_at_call 29; refine (rid_any _ _ hs1).mono ?_; rintro e w' ⟨rfl, rfl⟩) | (go_at_call 30; refine (rcur_any _ _ hs2).mono ?_; rintro e w' ⟨rfl, rfl⟩) | (go_at_call 31; refine (ramt_any _ _ _).mono ?_; rintro e w' ⟨rfl, rfl⟩))
       go_ret
       exact ⟨ret_i H.out.symm, (Below.refl _ _).alloc (Nat.le_refl _) _⟩)

set_option maxHeartbeats 1000000 in
theorem rchk_st1 (id cur : ByteArray) (ap rv cl ex st tt un pa : Int) (w : World) (hs1 : id.size ≤ maxLen) (hs2 : cur.size ≤ maxLen)
    (h1 : idL id.data.toList = true) (h2 : curL cur.data.toList = true) (h3 : amtB ap 1 = true) (h4 : amtB rv 0 = true) (h5 : amtB cl 0 = true) (h6 : amtB ex 0 = true)
    (k1 : 0 ≤ ap - rv - cl - ex) (k2 : timeB tt = true) (k3 : timeB un = true) (k4 : tt < un) (k5 : 0 ≤ pa) (k6 : pa ≤ 8) (k7 : pa ≤ cl) (k8 : ((pa == 0) == (cl == 0)) = true) (hne : ¬ st = sttI ap rv cl ex) :
    Calls Try.prog 13 #[au id cur ap rv cl ex st tt un pa] w fun e w' => e = .returned (.int .i64 8) ∧ Below w.heap.size w w' := by
  obtain ⟨e1, e2⟩ := timeB_le k2
  obtain ⟨f1, f2⟩ := timeB_le k3
  have m1 : rv + cl + ex ≤ ap := by omega
  obtain ⟨a1, a2⟩ := amtB_le h3
  obtain ⟨b1, b2⟩ := amtB_le h4
  obtain ⟨c1, c2⟩ := amtB_le h5
  obtain ⟨d1, d2⟩ := amtB_le h6
  go_enter Try.func13, Try.ntmps13
  go_wp2_with (first | (go_at_call 29; refine (rid_any _ _ hs1).mono ?_; rintro e w' ⟨rfl, rfl⟩) | (go_at_call 30; refine (rcur_any _ _ hs2).mono ?_; rintro e w' ⟨rfl, rfl⟩) | (go_at_call 31; refine (ramt_any _ _ _).mono ?_; rintro e w' ⟨rfl, rfl⟩))
  have B0 : Below w.heap.size w (w.alloc (.cells (auc id cur ap rv cl ex st tt un pa) 24)) := (Below.refl _ _).alloc (Nat.le_refl _) _
  generalize hW0 : w.alloc (.cells (auc id cur ap rv cl ex st tt un pa) 24) = W0 at *
  have q0 : ∀ d os, (grow (redrawn W0 d) os).cell? ⟨w.heap.size, 0, none⟩ = some (.string id) := cell_regrown (by rw [← hW0]; simp [World.cell?_alloc_old])
  have q1 : ∀ d os, (grow (redrawn W0 d) os).cell? ⟨w.heap.size, 1, none⟩ = some (.string cur) := cell_regrown (by rw [← hW0]; simp [World.cell?_alloc_old])
  have q2 : ∀ d os, (grow (redrawn W0 d) os).cell? ⟨w.heap.size, 2, none⟩ = some (.int .i64 ap) := cell_regrown (by rw [← hW0]; simp [World.cell?_alloc_old])
  have q3 : ∀ d os, (grow (redrawn W0 d) os).cell? ⟨w.heap.size, 3, none⟩ = some (.int .i64 rv) := cell_regrown (by rw [← hW0]; simp [World.cell?_alloc_old])
  have q4 : ∀ d os, (grow (redrawn W0 d) os).cell? ⟨w.heap.size, 4, none⟩ = some (.int .i64 cl) := cell_regrown (by rw [← hW0]; simp [World.cell?_alloc_old])
  have q5 : ∀ d os, (grow (redrawn W0 d) os).cell? ⟨w.heap.size, 5, none⟩ = some (.int .i64 ex) := cell_regrown (by rw [← hW0]; simp [World.cell?_alloc_old])
  have q6 : ∀ d os, (grow (redrawn W0 d) os).cell? ⟨w.heap.size, 6, none⟩ = some (.int .i64 st) := cell_regrown (by rw [← hW0]; simp [World.cell?_alloc_old])
  have q7 : ∀ d os, (grow (redrawn W0 d) os).cell? ⟨w.heap.size, 7, none⟩ = some (.int .i64 tt) := cell_regrown (by rw [← hW0]; simp [World.cell?_alloc_old])
  have q8 : ∀ d os, (grow (redrawn W0 d) os).cell? ⟨w.heap.size, 8, none⟩ = some (.int .i64 un) := cell_regrown (by rw [← hW0]; simp [World.cell?_alloc_old])
  have q9 : ∀ d os, (grow (redrawn W0 d) os).cell? ⟨w.heap.size, 9, none⟩ = some (.int .i64 pa) := cell_regrown (by rw [← hW0]; simp [World.cell?_alloc_old])
  have cS : ∀ d os, Calls Try.prog 32 #[au id cur ap rv cl ex st tt un pa] (grow (redrawn W0 d) os) fun e w'' => e = .returned (.int .i64 (sttI ap rv cl ex)) ∧ ∃ p : Regrown, w'' = grow (redrawn W0 p.d) p.os := fun d os => Calls.regrown_of (state_any id cur ap rv cl ex st tt un pa _ (by omega) (by omega) (by omega) (by omega) (by omega) (by omega) (by omega) (by omega))
  clear hW0
  refine wp_region_quiet_below (by kernel_rfl) (by kernel_rfl) ?_
  repeat (any_goals (first | go_big_quiet_step (exact cS _ _) | quiet_step (exact cS _ _) | (refine wpQuiet_step (fun K hK => ?_); go_simp; split <;> (refine hK _ ?_; clear hK K))))
  all_goals (refine wpQuiet_nil ?_; intro _ hw'; obtain ⟨⟨dq, osq⟩, hw''⟩ := hw'; subst hw'')
  all_goals go_wp2
  all_goals go_ret
  all_goals first
    | exact ⟨rfl, B0.trans ((below_regrown W0 dq osq).mono B0.size)⟩
    | exact ⟨ret_i (stE_1 ‹_› ‹_›).symm, B0.trans ((below_regrown W0 dq osq).mono B0.size)⟩
    | exact ⟨ret_i (stE_2 ‹_› ‹_›).symm, B0.trans ((below_regrown W0 dq osq).mono B0.size)⟩
    | exact ⟨ret_i (stE_3 ‹_›).symm, B0.trans ((below_regrown W0 dq osq).mono B0.size)⟩
set_option maxHeartbeats 1000000 in
theorem rchk_st2 (id cur : ByteArray) (ap rv cl ex tt un pa : Int) (w : World) (hs1 : id.size ≤ maxLen) (hs2 : cur.size ≤ maxLen)
    (h1 : idL id.data.toList = true) (h2 : curL cur.data.toList = true) (h3 : amtB ap 1 = true) (h4 : amtB rv 0 = true) (h5 : amtB cl 0 = true) (h6 : amtB ex 0 = true)
    (k1 : 0 ≤ ap - rv - cl - ex) (k2 : timeB tt = true) (k3 : timeB un = true) (k4 : tt < un) (k5 : 0 ≤ pa) (k6 : pa ≤ 8) (k7 : pa ≤ cl) (k8 : ((pa == 0) == (cl == 0)) = true) :
    Calls Try.prog 13 #[au id cur ap rv cl ex (sttI ap rv cl ex) tt un pa] w fun e w' => e = .returned (.int .i64 (stE (sttI ap rv cl ex) ap rv cl ex)) ∧ Below w.heap.size w w' := by
  obtain ⟨e1, e2⟩ := timeB_le k2
  obtain ⟨f1, f2⟩ := timeB_le k3
  have m1 : rv + cl + ex ≤ ap := by omega
  obtain ⟨a1, a2⟩ := amtB_le h3
  obtain ⟨b1, b2⟩ := amtB_le h4
  obtain ⟨c1, c2⟩ := amtB_le h5
  obtain ⟨d1, d2⟩ := amtB_le h6
  go_enter Try.func13, Try.ntmps13
  go_wp2_with (first | (go_at_call 29; refine (rid_any _ _ hs1).mono ?_; rintro e w' ⟨rfl, rfl⟩) | (go_at_call 30; refine (rcur_any _ _ hs2).mono ?_; rintro e w' ⟨rfl, rfl⟩) | (go_at_call 31; refine (ramt_any _ _ _).mono ?_; rintro e w' ⟨rfl, rfl⟩))
  have B0 : Below w.heap.size w (w.alloc (.cells (auc id cur ap rv cl ex (sttI ap rv cl ex) tt un pa) 24)) := (Below.refl _ _).alloc (Nat.le_refl _) _
  generalize hW0 : w.alloc (.cells (auc id cur ap rv cl ex (sttI ap rv cl ex) tt un pa) 24) = W0 at *
  have q0 : ∀ d os, (grow (redrawn W0 d) os).cell? ⟨w.heap.size, 0, none⟩ = some (.string id) := cell_regrown (by rw [← hW0]; simp [World.cell?_alloc_old])
  have q1 : ∀ d os, (grow (redrawn W0 d) os).cell? ⟨w.heap.size, 1, none⟩ = some (.string cur) := cell_regrown (by rw [← hW0]; simp [World.cell?_alloc_old])
  have q2 : ∀ d os, (grow (redrawn W0 d) os).cell? ⟨w.heap.size, 2, none⟩ = some (.int .i64 ap) := cell_regrown (by rw [← hW0]; simp [World.cell?_alloc_old])
  have q3 : ∀ d os, (grow (redrawn W0 d) os).cell? ⟨w.heap.size, 3, none⟩ = some (.int .i64 rv) := cell_regrown (by rw [← hW0]; simp [World.cell?_alloc_old])
  have q4 : ∀ d os, (grow (redrawn W0 d) os).cell? ⟨w.heap.size, 4, none⟩ = some (.int .i64 cl) := cell_regrown (by rw [← hW0]; simp [World.cell?_alloc_old])
  have q5 : ∀ d os, (grow (redrawn W0 d) os).cell? ⟨w.heap.size, 5, none⟩ = some (.int .i64 ex) := cell_regrown (by rw [← hW0]; simp [World.cell?_alloc_old])
  have q6 : ∀ d os, (grow (redrawn W0 d) os).cell? ⟨w.heap.size, 6, none⟩ = some (.int .i64 (sttI ap rv cl ex)) := cell_regrown (by rw [← hW0]; simp [World.cell?_alloc_old])
  have q7 : ∀ d os, (grow (redrawn W0 d) os).cell? ⟨w.heap.size, 7, none⟩ = some (.int .i64 tt) := cell_regrown (by rw [← hW0]; simp [World.cell?_alloc_old])
  have q8 : ∀ d os, (grow (redrawn W0 d) os).cell? ⟨w.heap.size, 8, none⟩ = some (.int .i64 un) := cell_regrown (by rw [← hW0]; simp [World.cell?_alloc_old])
  have q9 : ∀ d os, (grow (redrawn W0 d) os).cell? ⟨w.heap.size, 9, none⟩ = some (.int .i64 pa) := cell_regrown (by rw [← hW0]; simp [World.cell?_alloc_old])
  have cS : ∀ d os, Calls Try.prog 32 #[au id cur ap rv cl ex (sttI ap rv cl ex) tt un pa] (grow (redrawn W0 d) os) fun e w'' => e = .returned (.int .i64 (sttI ap rv cl ex)) ∧ ∃ p : Regrown, w'' = grow (redrawn W0 p.d) p.os := fun d os => Calls.regrown_of (state_any id cur ap rv cl ex (sttI ap rv cl ex) tt un pa _ (by omega) (by omega) (by omega) (by omega) (by omega) (by omega) (by omega) (by omega))
  clear hW0
  refine wp_region_quiet_below (by kernel_rfl) (by kernel_rfl) ?_
  repeat (any_goals (first | go_big_quiet_step (exact cS _ _) | quiet_step (exact cS _ _) | (refine wpQuiet_step (fun K hK => ?_); go_simp; split <;> (refine hK _ ?_; clear hK K))))
  all_goals (refine wpQuiet_nil ?_; intro _ hw'; obtain ⟨⟨dq, osq⟩, hw''⟩ := hw'; subst hw'')
  all_goals go_wp2
  all_goals go_ret
  all_goals first
    | exact ⟨rfl, B0.trans ((below_regrown W0 dq osq).mono B0.size)⟩
    | exact ⟨ret_i (stE_1 ‹_› ‹_›).symm, B0.trans ((below_regrown W0 dq osq).mono B0.size)⟩
    | exact ⟨ret_i (stE_2 ‹_› ‹_›).symm, B0.trans ((below_regrown W0 dq osq).mono B0.size)⟩
    | exact ⟨ret_i (stE_3 ‹_›).symm, B0.trans ((below_regrown W0 dq osq).mono B0.size)⟩
end Go.Proofs.Ytlkbghdeingimaa
