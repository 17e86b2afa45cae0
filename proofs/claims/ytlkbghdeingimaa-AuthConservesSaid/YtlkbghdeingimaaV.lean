import Derived.Test.YtlkbghdeingimaaU
import Derived.Test.YtlkbghdeingimaaK2
import Derived.OpenShut
set_option linter.unusedVariables false
set_option linter.unusedSimpArgs false
namespace Go.Proofs.Ytlkbghdeingimaa
open Go.Sort Go.ChangeShapes Go.WideShapes Go.ChangeAt Go.RowKit

theorem ropen_any (id cur : ByteArray) (ap rv cl ex st tt un pa : Int) (w : World) (hs1 : id.size ≤ maxLen) (hs2 : cur.size ≤ maxLen) :
    Calls Try.prog 14 #[au id cur ap rv cl ex st tt un pa] w fun e w' => e = .returned (.int .i64 (opnI id cur ap rv cl ex st tt un pa)) ∧ Below w.heap.size w w' := by
  by_cases h : chk id cur ap rv cl ex st tt un pa = 0
  · rw [show opnI id cur ap rv cl ex st tt un pa = ap - rv - cl - ex by unfold opnI; rw [if_pos h]]
    exact ropen_ok id cur ap rv cl ex st tt un pa w hs1 hs2 h
  · rw [show opnI id cur ap rv cl ex st tt un pa = 0 by unfold opnI; rw [if_neg h]]
    exact ropen_no id cur ap rv cl ex st tt un pa w hs1 hs2 h

theorem steps_walk (id cur : ByteArray) (ap rv cl ex st tt un pa : Int) (k n u : Int) (f : Bool) (w : World) (hs1 : id.size ≤ maxLen) (hs2 : cur.size ≤ maxLen) (hk0 : 0 ≤ k) (hk1 : k ≤ 255) :
    Calls Try.prog 4 #[au id cur ap rv cl ex st tt un pa, opv k n u f] w fun e w' => e = .returned (.bool true) ∧ Below w.heap.size w w' := by
  have hc := fun w => step_any ⟨id, cur, ap, rv, cl, ex, st, tt, un, pa⟩ k n u f w hs1 hs2 hk0 hk1
  have hr := fun w => rstep_any ⟨id, cur, ap, rv, cl, ex, st, tt, un, pa⟩ k n u f w hs1 hs2 hk0 hk1
  generalize stepR ⟨id, cur, ap, rv, cl, ex, st, tt, un, pa⟩ k n u f = r at hc hr
  obtain ⟨⟨id2, cur2, ap2, rv2, cl2, ex2, st2, tt2, un2, pa2⟩, m9, n9, e9⟩ := r
  have HC := Lib.hid hc
  have HR := Lib.hid hr
  clear hc hr
  go_enter Try.func4, Try.ntmps4
  go_wp2_with fail
  refine wp_region_quiet_below (by kernel_rfl) (by kernel_rfl) ?_
  repeat (any_goals (first | go_big_quiet_step (first | exact Calls.regrown_of (chk_any _ _ _ _ _ _ _ _ _ _ _ hs1 hs2) | exact Calls.regrown_of (rchk_any _ _ _ _ _ _ _ _ _ _ _ hs1 hs2) | exact Calls.regrown_of (Open_any _ _ _ _ _ _ _ _ _ _ _ hs1 hs2) | exact Calls.regrown_of (ropen_any _ _ _ _ _ _ _ _ _ _ _ hs1 hs2)) | quiet_step (first | exact Calls.regrown_of (chk_any _ _ _ _ _ _ _ _ _ _ _ hs1 hs2) | exact Calls.regrown_of (rchk_any _ _ _ _ _ _ _ _ _ _ _ hs1 hs2) | exact Calls.regrown_of (Open_any _ _ _ _ _ _ _ _ _ _ _ hs1 hs2) | exact Calls.regrown_of (ropen_any _ _ _ _ _ _ _ _ _ _ _ hs1 hs2)) | (refine wpQuiet_step (fun K hK => ?_); go_simp; split <;> (refine hK _ ?_; clear hK K))))
  all_goals (refine wpQuiet_nil ?_; intro _ hw'; obtain ⟨⟨dq, osq⟩, hw''⟩ := hw'; subst hw'')
  go_wp2_with fail
  refine (HC.out _).mono ?_
  rintro e w1 ⟨rfl, hb⟩; obtain ⟨d, os, rfl⟩ := regrow_of hb; clear hb
  go_wp2_with fail
  refine (HR.out _).mono ?_
  rintro e w1 ⟨rfl, hb⟩; obtain ⟨d, os, rfl⟩ := regrow_of hb; clear hb
  go_wp2_with fail
  refine (awake_any _).mono ?_
  rintro e w1 ⟨rfl, hb⟩
  go_wp2_with fail
  go_ret
  refine ⟨rfl, below_call ?_ hb⟩
  repeat (first | exact Below.refl _ _ | refine below_re ?_ (by simp [heap_redrawn]; try omega) _ _ | refine Below.alloc ?_ (by simp [heap_redrawn]; try omega) _)
end Go.Proofs.Ytlkbghdeingimaa
namespace Go.Proofs.Ytlkbghdeingimaa.authSteps
open Go.ChangeShapes Go.WideShapes Go.ChangeAt Go.RowKit
theorem walk (id cur : ByteArray) (ap rv cl ex st tt un pa : Int) (k n u : Int) (f : Bool) (w : World) (hs1 : id.size ≤ maxLen) (hs2 : cur.size ≤ maxLen)
    (_ : (Lit.int .i64 ap).wf = true) (_ : (Lit.int .i64 rv).wf = true) (_ : (Lit.int .i64 cl).wf = true) (_ : (Lit.int .i64 ex).wf = true) (_ : (Lit.int .i64 st).wf = true) (_ : (Lit.int .i64 tt).wf = true) (_ : (Lit.int .i64 un).wf = true) (_ : (Lit.int .i64 pa).wf = true)
    (hk : (Lit.int .u8 k).wf = true) (_ : (Lit.int .i64 n).wf = true) (_ : (Lit.int .i64 u).wf = true) :
    Calls Try.prog 4 #[au id cur ap rv cl ex st tt un pa, opv k n u f] w fun e w' => e = .returned (.bool true) ∧ Below w.heap.size w w' :=
  steps_walk id cur ap rv cl ex st tt un pa k n u f w hs1 hs2 (bounds_u8 hk).1 (bounds_u8 hk).2
end Go.Proofs.Ytlkbghdeingimaa.authSteps
