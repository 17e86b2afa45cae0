import Derived.Test.YtlkbghdeingimaaT
set_option linter.unusedVariables false
set_option linter.unusedSimpArgs false
namespace Go.Proofs.Ytlkbghdeingimaa
open Go.Sort Go.ChangeShapes Go.WideShapes Go.ChangeAt Go.RowKit
abbrev opv (k n u : Int) (f : Bool) : Value := .agg #[.int .u8 k, .int .i64 n, .int .i64 u, .bool f]
def stepR (a : Au) (k n u : Int) (f : Bool) : Au × Int × Int × Int :=
  if k % 4 = 1 then ((raiseR a n u).1, 0, 0, (raiseR a n u).2) else if k % 4 = 2 then ((revR a n).1, 0, (revR a n).2) else if k % 4 = 3 then ((expR a u).1, 0, (expR a u).2) else clearR a n f
theorem mod_bb {k : Int} (j : Int) (h : k % 4 = j) (i : Int) : (k % 4 == i) = decide (j = i) := by rw [h]; rfl
theorem step_1 (id cur : ByteArray) (ap rv cl ex st tt un pa : Int) (k n u : Int) (f : Bool) (w : World) (hs1 : id.size ≤ maxLen) (hs2 : cur.size ≤ maxLen) (hk0 : 0 ≤ k) (hk1 : k ≤ 255) (hk : k % 4 = 1) :
    Calls Try.prog 11 #[au id cur ap rv cl ex st tt un pa, opv k n u f] w fun e w' => e = .returned (v4 (stepR ⟨id, cur, ap, rv, cl, ex, st, tt, un, pa⟩ k n u f)) ∧ Below w.heap.size w w' := by
  have HS : Hid (stepR ⟨id, cur, ap, rv, cl, ex, st, tt, un, pa⟩ k n u f = ((raiseR ⟨id, cur, ap, rv, cl, ex, st, tt, un, pa⟩ n u).1, 0, 0, (raiseR ⟨id, cur, ap, rv, cl, ex, st, tt, un, pa⟩ n u).2)) := Lib.hid (by unfold stepR; rw [if_pos hk])
  have q1 : (k % 4 == 1) = true := by simp; omega
  clear hk
  have hc := fun w => raise_any ⟨id, cur, ap, rv, cl, ex, st, tt, un, pa⟩ n u w hs1 hs2
  generalize raiseR ⟨id, cur, ap, rv, cl, ex, st, tt, un, pa⟩ n u = r at hc HS
  obtain ⟨⟨id2, cur2, ap2, rv2, cl2, ex2, st2, tt2, un2, pa2⟩, e9⟩ := r
  have HC := Lib.hid hc
  clear hc
  go_enter Try.func11, Try.ntmps11
  go_wp2_with (first | (go_at_call 21; refine (HC.out _).mono ?_; rintro e w1 ⟨rfl, hb⟩; obtain ⟨d, os, rfl⟩ := regrow_of hb; clear hb))
  refine bodyPost_ret (v := .tuple #[au id2 cur2 ap2 rv2 cl2 ex2 st2 tt2 un2 pa2, .int .i64 0, .int .i64 0, .int .i64 e9]) (by simp [results, Try.results11, go_sem]) rfl ⟨by rw [HS.out], ?_⟩
  repeat (first | exact Below.refl _ _ | refine below_re ?_ (by simp [heap_redrawn]; try omega) _ _ | refine Below.alloc ?_ (by simp [heap_redrawn]; try omega) _)
theorem step_2 (id cur : ByteArray) (ap rv cl ex st tt un pa : Int) (k n u : Int) (f : Bool) (w : World) (hs1 : id.size ≤ maxLen) (hs2 : cur.size ≤ maxLen) (hk0 : 0 ≤ k) (hk1 : k ≤ 255) (hk : k % 4 = 2) :
    Calls Try.prog 11 #[au id cur ap rv cl ex st tt un pa, opv k n u f] w fun e w' => e = .returned (v4 (stepR ⟨id, cur, ap, rv, cl, ex, st, tt, un, pa⟩ k n u f)) ∧ Below w.heap.size w w' := by
  have HS : Hid (stepR ⟨id, cur, ap, rv, cl, ex, st, tt, un, pa⟩ k n u f = ((revR ⟨id, cur, ap, rv, cl, ex, st, tt, un, pa⟩ n).1, 0, (revR ⟨id, cur, ap, rv, cl, ex, st, tt, un, pa⟩ n).2)) := Lib.hid (by unfold stepR; rw [if_neg (by omega), if_pos hk])
  have q1 : (k % 4 == 1) = false := by simp; omega
  have q2 : (k % 4 == 2) = true := by simp; omega
  clear hk
  have hc := fun w => rev_any ⟨id, cur, ap, rv, cl, ex, st, tt, un, pa⟩ n w hs1 hs2
  generalize revR ⟨id, cur, ap, rv, cl, ex, st, tt, un, pa⟩ n = r at hc HS
  obtain ⟨⟨id2, cur2, ap2, rv2, cl2, ex2, st2, tt2, un2, pa2⟩, n9, e9⟩ := r
  have HC := Lib.hid hc
  clear hc
  go_enter Try.func11, Try.ntmps11
  go_wp2_with (first | (go_at_call 22; refine (HC.out _).mono ?_; rintro e w1 ⟨rfl, hb⟩; obtain ⟨d, os, rfl⟩ := regrow_of hb; clear hb))
  refine bodyPost_ret (v := .tuple #[au id2 cur2 ap2 rv2 cl2 ex2 st2 tt2 un2 pa2, .int .i64 0, .int .i64 n9, .int .i64 e9]) (by simp [results, Try.results11, go_sem]) rfl ⟨by rw [HS.out], ?_⟩
  repeat (first | exact Below.refl _ _ | refine below_re ?_ (by simp [heap_redrawn]; try omega) _ _ | refine Below.alloc ?_ (by simp [heap_redrawn]; try omega) _)
theorem step_3 (id cur : ByteArray) (ap rv cl ex st tt un pa : Int) (k n u : Int) (f : Bool) (w : World) (hs1 : id.size ≤ maxLen) (hs2 : cur.size ≤ maxLen) (hk0 : 0 ≤ k) (hk1 : k ≤ 255) (hk : k % 4 = 3) :
    Calls Try.prog 11 #[au id cur ap rv cl ex st tt un pa, opv k n u f] w fun e w' => e = .returned (v4 (stepR ⟨id, cur, ap, rv, cl, ex, st, tt, un, pa⟩ k n u f)) ∧ Below w.heap.size w w' := by
  have HS : Hid (stepR ⟨id, cur, ap, rv, cl, ex, st, tt, un, pa⟩ k n u f = ((expR ⟨id, cur, ap, rv, cl, ex, st, tt, un, pa⟩ u).1, 0, (expR ⟨id, cur, ap, rv, cl, ex, st, tt, un, pa⟩ u).2)) := Lib.hid (by unfold stepR; rw [if_neg (by omega), if_neg (by omega), if_pos hk])
  have q1 : (k % 4 == 1) = false := by simp; omega
  have q2 : (k % 4 == 2) = false := by simp; omega
  have q3 : (k % 4 == 3) = true := by simp; omega
  clear hk
  have hc := fun w => exp_any ⟨id, cur, ap, rv, cl, ex, st, tt, un, pa⟩ u w hs1 hs2
  generalize expR ⟨id, cur, ap, rv, cl, ex, st, tt, un, pa⟩ u = r at hc HS
  obtain ⟨⟨id2, cur2, ap2, rv2, cl2, ex2, st2, tt2, un2, pa2⟩, n9, e9⟩ := r
  have HC := Lib.hid hc
  clear hc
  go_enter Try.func11, Try.ntmps11
  go_wp2_with (first | (go_at_call 23; refine (HC.out _).mono ?_; rintro e w1 ⟨rfl, hb⟩; obtain ⟨d, os, rfl⟩ := regrow_of hb; clear hb))
  refine bodyPost_ret (v := .tuple #[au id2 cur2 ap2 rv2 cl2 ex2 st2 tt2 un2 pa2, .int .i64 0, .int .i64 n9, .int .i64 e9]) (by simp [results, Try.results11, go_sem]) rfl ⟨by rw [HS.out], ?_⟩
  repeat (first | exact Below.refl _ _ | refine below_re ?_ (by simp [heap_redrawn]; try omega) _ _ | refine Below.alloc ?_ (by simp [heap_redrawn]; try omega) _)
theorem step_0 (id cur : ByteArray) (ap rv cl ex st tt un pa : Int) (k n u : Int) (f : Bool) (w : World) (hs1 : id.size ≤ maxLen) (hs2 : cur.size ≤ maxLen) (hk0 : 0 ≤ k) (hk1 : k ≤ 255) (hk : k % 4 = 0) :
    Calls Try.prog 11 #[au id cur ap rv cl ex st tt un pa, opv k n u f] w fun e w' => e = .returned (v4 (stepR ⟨id, cur, ap, rv, cl, ex, st, tt, un, pa⟩ k n u f)) ∧ Below w.heap.size w w' := by
  have HS : Hid (stepR ⟨id, cur, ap, rv, cl, ex, st, tt, un, pa⟩ k n u f = clearR ⟨id, cur, ap, rv, cl, ex, st, tt, un, pa⟩ n f) := Lib.hid (by unfold stepR; rw [if_neg (by omega), if_neg (by omega), if_neg (by omega)])
  have q1 : (k % 4 == 1) = false := by simp; omega
  have q2 : (k % 4 == 2) = false := by simp; omega
  have q3 : (k % 4 == 3) = false := by simp; omega
  clear hk
  have hc := fun w => clear_any ⟨id, cur, ap, rv, cl, ex, st, tt, un, pa⟩ n f w hs1 hs2
  generalize clearR ⟨id, cur, ap, rv, cl, ex, st, tt, un, pa⟩ n f = r at hc HS
  obtain ⟨⟨id2, cur2, ap2, rv2, cl2, ex2, st2, tt2, un2, pa2⟩, m9, n9, e9⟩ := r
  have HC := Lib.hid hc
  clear hc
  go_enter Try.func11, Try.ntmps11
  go_wp2_with (first | (go_at_call 19; refine (HC.out _).mono ?_; rintro e w1 ⟨rfl, hb⟩; obtain ⟨d, os, rfl⟩ := regrow_of hb; clear hb))
  refine bodyPost_ret (v := .tuple #[au id2 cur2 ap2 rv2 cl2 ex2 st2 tt2 un2 pa2, .int .i64 m9, .int .i64 n9, .int .i64 e9]) (by simp [results, Try.results11, go_sem]) rfl ⟨by rw [HS.out], ?_⟩
  repeat (first | exact Below.refl _ _ | refine below_re ?_ (by simp [heap_redrawn]; try omega) _ _ | refine Below.alloc ?_ (by simp [heap_redrawn]; try omega) _)
theorem step_any (a : Au) (k n u : Int) (f : Bool) (w : World) (hs1 : a.id.size ≤ maxLen) (hs2 : a.cur.size ≤ maxLen) (hk0 : 0 ≤ k) (hk1 : k ≤ 255) :
    Calls Try.prog 11 #[a.v, opv k n u f] w fun e w' => e = .returned (v4 (stepR a k n u f)) ∧ Below w.heap.size w w' := by
  obtain ⟨id, cur, ap, rv, cl, ex, st, tt, un, pa⟩ := a
  have : k % 4 = 0 ∨ k % 4 = 1 ∨ k % 4 = 2 ∨ k % 4 = 3 := by omega
  rcases this with h | h | h | h
  · exact step_0 id cur ap rv cl ex st tt un pa k n u f w hs1 hs2 hk0 hk1 h
  · exact step_1 id cur ap rv cl ex st tt un pa k n u f w hs1 hs2 hk0 hk1 h
  · exact step_2 id cur ap rv cl ex st tt un pa k n u f w hs1 hs2 hk0 hk1 h
  · exact step_3 id cur ap rv cl ex st tt un pa k n u f w hs1 hs2 hk0 hk1 h
theorem rstep_1 (id cur : ByteArray) (ap rv cl ex st tt un pa : Int) (k n u : Int) (f : Bool) (w : World) (hs1 : id.size ≤ maxLen) (hs2 : cur.size ≤ maxLen) (hk0 : 0 ≤ k) (hk1 : k ≤ 255) (hk : k % 4 = 1) :
    Calls Try.prog 15 #[au id cur ap rv cl ex st tt un pa, opv k n u f] w fun e w' => e = .returned (v4 (stepR ⟨id, cur, ap, rv, cl, ex, st, tt, un, pa⟩ k n u f)) ∧ Below w.heap.size w w' := by
  have HS : Hid (stepR ⟨id, cur, ap, rv, cl, ex, st, tt, un, pa⟩ k n u f = ((raiseR ⟨id, cur, ap, rv, cl, ex, st, tt, un, pa⟩ n u).1, 0, 0, (raiseR ⟨id, cur, ap, rv, cl, ex, st, tt, un, pa⟩ n u).2)) := Lib.hid (by unfold stepR; rw [if_pos hk])
  have q1 : (k % 4 == 1) = true := by simp; omega
  clear hk
  have hc := fun w => rraise_any ⟨id, cur, ap, rv, cl, ex, st, tt, un, pa⟩ n u w hs1 hs2
  generalize raiseR ⟨id, cur, ap, rv, cl, ex, st, tt, un, pa⟩ n u = r at hc HS
  obtain ⟨⟨id2, cur2, ap2, rv2, cl2, ex2, st2, tt2, un2, pa2⟩, e9⟩ := r
  have HC := Lib.hid hc
  clear hc
  go_enter Try.func15, Try.ntmps15
  go_wp2_with (first | (go_at_call 33; refine (HC.out _).mono ?_; rintro e w1 ⟨rfl, hb⟩; obtain ⟨d, os, rfl⟩ := regrow_of hb; clear hb))
  refine bodyPost_ret (v := .tuple #[au id2 cur2 ap2 rv2 cl2 ex2 st2 tt2 un2 pa2, .int .i64 0, .int .i64 0, .int .i64 e9]) (by simp [results, Try.results15, go_sem]) rfl ⟨by rw [HS.out], ?_⟩
  repeat (first | exact Below.refl _ _ | refine below_re ?_ (by simp [heap_redrawn]; try omega) _ _ | refine Below.alloc ?_ (by simp [heap_redrawn]; try omega) _)
theorem rstep_2 (id cur : ByteArray) (ap rv cl ex st tt un pa : Int) (k n u : Int) (f : Bool) (w : World) (hs1 : id.size ≤ maxLen) (hs2 : cur.size ≤ maxLen) (hk0 : 0 ≤ k) (hk1 : k ≤ 255) (hk : k % 4 = 2) :
    Calls Try.prog 15 #[au id cur ap rv cl ex st tt un pa, opv k n u f] w fun e w' => e = .returned (v4 (stepR ⟨id, cur, ap, rv, cl, ex, st, tt, un, pa⟩ k n u f)) ∧ Below w.heap.size w w' := by
  have HS : Hid (stepR ⟨id, cur, ap, rv, cl, ex, st, tt, un, pa⟩ k n u f = ((revR ⟨id, cur, ap, rv, cl, ex, st, tt, un, pa⟩ n).1, 0, (revR ⟨id, cur, ap, rv, cl, ex, st, tt, un, pa⟩ n).2)) := Lib.hid (by unfold stepR; rw [if_neg (by omega), if_pos hk])
  have q1 : (k % 4 == 1) = false := by simp; omega
  have q2 : (k % 4 == 2) = true := by simp; omega
  clear hk
  have hc := fun w => rrev_any ⟨id, cur, ap, rv, cl, ex, st, tt, un, pa⟩ n w hs1 hs2
  generalize revR ⟨id, cur, ap, rv, cl, ex, st, tt, un, pa⟩ n = r at hc HS
  obtain ⟨⟨id2, cur2, ap2, rv2, cl2, ex2, st2, tt2, un2, pa2⟩, n9, e9⟩ := r
  have HC := Lib.hid hc
  clear hc
  go_enter Try.func15, Try.ntmps15
  go_wp2_with (first | (go_at_call 34; refine (HC.out _).mono ?_; rintro e w1 ⟨rfl, hb⟩; obtain ⟨d, os, rfl⟩ := regrow_of hb; clear hb))
  refine bodyPost_ret (v := .tuple #[au id2 cur2 ap2 rv2 cl2 ex2 st2 tt2 un2 pa2, .int .i64 0, .int .i64 n9, .int .i64 e9]) (by simp [results, Try.results15, go_sem]) rfl ⟨by rw [HS.out], ?_⟩
  repeat (first | exact Below.refl _ _ | refine below_re ?_ (by simp [heap_redrawn]; try omega) _ _ | refine Below.alloc ?_ (by simp [heap_redrawn]; try omega) _)
theorem rstep_3 (id cur : ByteArray) (ap rv cl ex st tt un pa : Int) (k n u : Int) (f : Bool) (w : World) (hs1 : id.size ≤ maxLen) (hs2 : cur.size ≤ maxLen) (hk0 : 0 ≤ k) (hk1 : k ≤ 255) (hk : k % 4 = 3) :
    Calls Try.prog 15 #[au id cur ap rv cl ex st tt un pa, opv k n u f] w fun e w' => e = .returned (v4 (stepR ⟨id, cur, ap, rv, cl, ex, st, tt, un, pa⟩ k n u f)) ∧ Below w.heap.size w w' := by
  have HS : Hid (stepR ⟨id, cur, ap, rv, cl, ex, st, tt, un, pa⟩ k n u f = ((expR ⟨id, cur, ap, rv, cl, ex, st, tt, un, pa⟩ u).1, 0, (expR ⟨id, cur, ap, rv, cl, ex, st, tt, un, pa⟩ u).2)) := Lib.hid (by unfold stepR; rw [if_neg (by omega), if_neg (by omega), if_pos hk])
  have q1 : (k % 4 == 1) = false := by simp; omega
  have q2 : (k % 4 == 2) = false := by simp; omega
  have q3 : (k % 4 == 3) = true := by simp; omega
  clear hk
  have hc := fun w => rexp_any ⟨id, cur, ap, rv, cl, ex, st, tt, un, pa⟩ u w hs1 hs2
  generalize expR ⟨id, cur, ap, rv, cl, ex, st, tt, un, pa⟩ u = r at hc HS
  obtain ⟨⟨id2, cur2, ap2, rv2, cl2, ex2, st2, tt2, un2, pa2⟩, n9, e9⟩ := r
  have HC := Lib.hid hc
  clear hc
  go_enter Try.func15, Try.ntmps15
  go_wp2_with (first | (go_at_call 35; refine (HC.out _).mono ?_; rintro e w1 ⟨rfl, hb⟩; obtain ⟨d, os, rfl⟩ := regrow_of hb; clear hb))
  refine bodyPost_ret (v := .tuple #[au id2 cur2 ap2 rv2 cl2 ex2 st2 tt2 un2 pa2, .int .i64 0, .int .i64 n9, .int .i64 e9]) (by simp [results, Try.results15, go_sem]) rfl ⟨by rw [HS.out], ?_⟩
  repeat (first | exact Below.refl _ _ | refine below_re ?_ (by simp [heap_redrawn]; try omega) _ _ | refine Below.alloc ?_ (by simp [heap_redrawn]; try omega) _)
theorem rstep_0 (id cur : ByteArray) (ap rv cl ex st tt un pa : Int) (k n u : Int) (f : Bool) (w : World) (hs1 : id.size ≤ maxLen) (hs2 : cur.size ≤ maxLen) (hk0 : 0 ≤ k) (hk1 : k ≤ 255) (hk : k % 4 = 0) :
    Calls Try.prog 15 #[au id cur ap rv cl ex st tt un pa, opv k n u f] w fun e w' => e = .returned (v4 (stepR ⟨id, cur, ap, rv, cl, ex, st, tt, un, pa⟩ k n u f)) ∧ Below w.heap.size w w' := by
  have HS : Hid (stepR ⟨id, cur, ap, rv, cl, ex, st, tt, un, pa⟩ k n u f = clearR ⟨id, cur, ap, rv, cl, ex, st, tt, un, pa⟩ n f) := Lib.hid (by unfold stepR; rw [if_neg (by omega), if_neg (by omega), if_neg (by omega)])
  have q1 : (k % 4 == 1) = false := by simp; omega
  have q2 : (k % 4 == 2) = false := by simp; omega
  have q3 : (k % 4 == 3) = false := by simp; omega
  clear hk
  have hc := fun w => rclear_any ⟨id, cur, ap, rv, cl, ex, st, tt, un, pa⟩ n f w hs1 hs2
  generalize clearR ⟨id, cur, ap, rv, cl, ex, st, tt, un, pa⟩ n f = r at hc HS
  obtain ⟨⟨id2, cur2, ap2, rv2, cl2, ex2, st2, tt2, un2, pa2⟩, m9, n9, e9⟩ := r
  have HC := Lib.hid hc
  clear hc
  go_enter Try.func15, Try.ntmps15
  go_wp2_with (first | (go_at_call 36; refine (HC.out _).mono ?_; rintro e w1 ⟨rfl, hb⟩; obtain ⟨d, os, rfl⟩ := regrow_of hb; clear hb))
  refine bodyPost_ret (v := .tuple #[au id2 cur2 ap2 rv2 cl2 ex2 st2 tt2 un2 pa2, .int .i64 m9, .int .i64 n9, .int .i64 e9]) (by simp [results, Try.results15, go_sem]) rfl ⟨by rw [HS.out], ?_⟩
  repeat (first | exact Below.refl _ _ | refine below_re ?_ (by simp [heap_redrawn]; try omega) _ _ | refine Below.alloc ?_ (by simp [heap_redrawn]; try omega) _)
theorem rstep_any (a : Au) (k n u : Int) (f : Bool) (w : World) (hs1 : a.id.size ≤ maxLen) (hs2 : a.cur.size ≤ maxLen) (hk0 : 0 ≤ k) (hk1 : k ≤ 255) :
    Calls Try.prog 15 #[a.v, opv k n u f] w fun e w' => e = .returned (v4 (stepR a k n u f)) ∧ Below w.heap.size w w' := by
  obtain ⟨id, cur, ap, rv, cl, ex, st, tt, un, pa⟩ := a
  have : k % 4 = 0 ∨ k % 4 = 1 ∨ k % 4 = 2 ∨ k % 4 = 3 := by omega
  rcases this with h | h | h | h
  · exact rstep_0 id cur ap rv cl ex st tt un pa k n u f w hs1 hs2 hk0 hk1 h
  · exact rstep_1 id cur ap rv cl ex st tt un pa k n u f w hs1 hs2 hk0 hk1 h
  · exact rstep_2 id cur ap rv cl ex st tt un pa k n u f w hs1 hs2 hk0 hk1 h
  · exact rstep_3 id cur ap rv cl ex st tt un pa k n u f w hs1 hs2 hk0 hk1 h
end Go.Proofs.Ytlkbghdeingimaa
