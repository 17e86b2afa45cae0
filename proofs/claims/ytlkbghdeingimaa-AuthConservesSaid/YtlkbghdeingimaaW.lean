import Derived.Test.YtlkbghdeingimaaV
set_option linter.unusedVariables false
set_option linter.unusedSimpArgs false
namespace Go.Proofs.Ytlkbghdeingimaa
open Go.Sort Go.ChangeShapes Go.WideShapes Go.ChangeAt Go.RowKit

theorem step_8 (a : Au) (k n u : Int) (f : Bool) (h : a.ck = 8) : stepR a k n u f = (Au.zero, 0, 0, 8) := by
  unfold stepR raiseR revR expR clearR
  simp [h]
theorem ck_8 {id cur : ByteArray} {ap rv cl ex st tt un pa : Int} (h : chk id cur ap rv cl ex st tt un pa = 0) (hs : ¬ st = 1) : cko id cur ap rv cl ex st tt un pa = 8 := by
  unfold cko; rw [if_pos h, if_neg hs]
theorem opn_0 {id cur : ByteArray} {ap rv cl ex st tt un pa : Int} (h : chk id cur ap rv cl ex st tt un pa = 0) (hs : ¬ st = 1) : opnI id cur ap rv cl ex st tt un pa = 0 := by
  obtain ⟨-, -, -, -, e1, -, -, e2, -⟩ := chk_0 h
  unfold opnI; rw [if_pos h]
  by_cases h0 : 0 < ap - rv - cl - ex
  · exfalso; apply hs; rw [e2]; unfold sttI; rw [if_pos h0]
  · omega

theorem ends_walk (id cur : ByteArray) (ap rv cl ex st tt un pa : Int) (k n u : Int) (f : Bool) (w : World) (hs1 : id.size ≤ maxLen) (hs2 : cur.size ≤ maxLen) (hk0 : 0 ≤ k) (hk1 : k ≤ 255) :
    Calls Try.prog 6 #[au id cur ap rv cl ex st tt un pa, opv k n u f] w fun e w' => e = .returned (.bool true) ∧ Below w.heap.size w w' := by
  by_cases hc : chk id cur ap rv cl ex st tt un pa = 0
  · have c1 : (chk id cur ap rv cl ex st tt un pa != 0) = false := by simp [hc]
    by_cases hs : st = 1
    · have s1 : (st == 1) = true := by simp [hs]
      clear hc hs
      go_enter Try.func6, Try.ntmps6
      go_wp2_with fail
      refine (rchk_any id cur ap rv cl ex st tt un pa _ hs1 hs2).mono ?_
      rintro e w1 ⟨rfl, hb⟩; obtain ⟨d, os, rfl⟩ := regrow_of hb; clear hb
      go_wp2_with fail
      refine (awake_any _).mono ?_
      rintro e w1 ⟨rfl, hb⟩
      go_wp2_with fail
      go_ret
      refine ⟨rfl, below_call ?_ hb⟩
      repeat (first | exact Below.refl _ _ | refine below_re ?_ (by simp [heap_redrawn]; try omega) _ _ | refine Below.alloc ?_ (by simp [heap_redrawn]; try omega) _)
    · have s1 : (st == 1) = false := by simp [hs]
      have hst : ∀ w, Calls Try.prog 11 #[au id cur ap rv cl ex st tt un pa, opv k n u f] w fun e w' => e = .returned (.tuple #[au0, .int .i64 0, .int .i64 0, .int .i64 8]) ∧ Below w.heap.size w w' :=
        fun w => (step_any ⟨id, cur, ap, rv, cl, ex, st, tt, un, pa⟩ k n u f w hs1 hs2 hk0 hk1).mono fun _ _ ⟨he, hw⟩ => ⟨by rw [he, step_8 _ k n u f (ck_8 hc hs)]; rfl, hw⟩
      have HC := Lib.hid hst
      have ho := fun w => Open_any id cur ap rv cl ex st tt un pa w hs1 hs2
      rw [opn_0 hc hs] at ho
      have HO := Lib.hid ho
      clear hc hs hst ho
      go_enter Try.func6, Try.ntmps6
      go_wp2_with fail
      refine (rchk_any id cur ap rv cl ex st tt un pa _ hs1 hs2).mono ?_
      rintro e w1 ⟨rfl, hb⟩; obtain ⟨d, os, rfl⟩ := regrow_of hb; clear hb
      go_wp2_with fail
      refine (HC.out _).mono ?_
      rintro e w1 ⟨rfl, hb⟩; obtain ⟨d, os, rfl⟩ := regrow_of hb; clear hb
      go_wp2_with fail
      refine (HO.out _).mono ?_
      rintro e w1 ⟨rfl, hb⟩; obtain ⟨d, os, rfl⟩ := regrow_of hb; clear hb
      go_wp2_with fail
      refine (awake_any _).mono ?_
      rintro e w1 ⟨rfl, hb⟩
      go_wp2_with fail
      go_ret
      refine ⟨rfl, below_call ?_ hb⟩
      repeat (first | exact Below.refl _ _ | refine below_re ?_ (by simp [heap_redrawn]; try omega) _ _ | refine Below.alloc ?_ (by simp [heap_redrawn]; try omega) _)
  · have c1 : (chk id cur ap rv cl ex st tt un pa != 0) = true := by simp [hc]
    clear hc
    go_enter Try.func6, Try.ntmps6
    go_wp2_with fail
    refine (rchk_any id cur ap rv cl ex st tt un pa _ hs1 hs2).mono ?_
    rintro e w1 ⟨rfl, hb⟩; obtain ⟨d, os, rfl⟩ := regrow_of hb; clear hb
    go_wp2_with fail
    refine (awake_any _).mono ?_
    rintro e w1 ⟨rfl, hb⟩
    go_wp2_with fail
    go_ret
    refine ⟨rfl, below_call ?_ hb⟩
    repeat (first | exact Below.refl _ _ | refine below_re ?_ (by simp [heap_redrawn]; try omega) _ _ | refine Below.alloc ?_ (by simp [heap_redrawn]; try omega) _)
end Go.Proofs.Ytlkbghdeingimaa
namespace Go.Proofs.Ytlkbghdeingimaa.authEnds
open Go.ChangeShapes Go.WideShapes Go.ChangeAt Go.RowKit
theorem walk (id cur : ByteArray) (ap rv cl ex st tt un pa : Int) (k n u : Int) (f : Bool) (w : World) (hs1 : id.size ≤ maxLen) (hs2 : cur.size ≤ maxLen)
    (_ : (Lit.int .i64 ap).wf = true) (_ : (Lit.int .i64 rv).wf = true) (_ : (Lit.int .i64 cl).wf = true) (_ : (Lit.int .i64 ex).wf = true) (_ : (Lit.int .i64 st).wf = true) (_ : (Lit.int .i64 tt).wf = true) (_ : (Lit.int .i64 un).wf = true) (_ : (Lit.int .i64 pa).wf = true)
    (hk : (Lit.int .u8 k).wf = true) (_ : (Lit.int .i64 n).wf = true) (_ : (Lit.int .i64 u).wf = true) :
    Calls Try.prog 6 #[au id cur ap rv cl ex st tt un pa, opv k n u f] w fun e w' => e = .returned (.bool true) ∧ Below w.heap.size w w' :=
  ends_walk id cur ap rv cl ex st tt un pa k n u f w hs1 hs2 (bounds_u8 hk).1 (bounds_u8 hk).2
end Go.Proofs.Ytlkbghdeingimaa.authEnds
