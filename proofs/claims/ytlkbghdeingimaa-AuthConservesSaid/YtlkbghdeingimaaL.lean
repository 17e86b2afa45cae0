import Derived.Test.YtlkbghdeingimaaJ
set_option linter.unusedVariables false
set_option linter.unusedSimpArgs false
namespace Go.Proofs.Ytlkbghdeingimaa
open Go.Sort Go.ChangeShapes Go.WideShapes Go.ChangeAt Go.RowKit

theorem chk_0 {id cur : ByteArray} {ap rv cl ex st tt un pa : Int} (h : chk id cur ap rv cl ex st tt un pa = 0) :
    (1 ≤ ap ∧ ap ≤ 999999999999) ∧ (0 ≤ rv ∧ rv ≤ 999999999999) ∧ (0 ≤ cl ∧ cl ≤ 999999999999) ∧ (0 ≤ ex ∧ ex ≤ 999999999999) ∧ 0 ≤ ap - rv - cl - ex ∧ (0 ≤ tt ∧ tt < un ∧ un ≤ 1099511627776) ∧ (0 ≤ pa ∧ pa ≤ 8 ∧ pa ≤ cl ∧ (pa = 0 ↔ cl = 0)) ∧ st = sttI ap rv cl ex ∧ (st = 1 → ex = 0) := by
  unfold chk at h
  split at h
  · simp at h
  split at h
  · simp at h
  split at h
  · simp at h
  rename_i hA
  split at h
  · simp at h
  rename_i hB
  split at h
  · simp at h
  rename_i hC
  split at h
  · simp at h
  rename_i hD
  split at h
  · simp at h
  rename_i hE
  simp only [amtB, timeB, decide_eq_false_iff_not] at hA hC
  refine ⟨by omega, by omega, by omega, by omega, by omega, by omega, by omega, ?_, ?_⟩
  · exact Classical.byContradiction fun h' => hE (Or.inl h')
  · intro h1; exact Classical.byContradiction fun h' => hE (Or.inr ⟨h1, h'⟩)
theorem stt_1 {ap rv cl ex : Int} (h : (1 : Int) = sttI ap rv cl ex) : 0 < ap - rv - cl - ex := by
  unfold sttI at h; split at h
  · assumption
  · split at h
    · omega
    · split at h <;> omega

/-- the error of an authorization that has to be open -/
def cko (id cur : ByteArray) (ap rv cl ex st tt un pa : Int) : Int :=
  if chk id cur ap rv cl ex st tt un pa = 0 then (if st = 1 then 0 else 8) else chk id cur ap rv cl ex st tt un pa

theorem cko_any (id cur : ByteArray) (ap rv cl ex st tt un pa : Int) (w : World) (hs1 : id.size ≤ maxLen) (hs2 : cur.size ≤ maxLen) :
    Calls Try.prog 37 #[au id cur ap rv cl ex st tt un pa] w fun e w' => e = .returned (.int .i64 (cko id cur ap rv cl ex st tt un pa)) ∧ Below w.heap.size w w' := by
  cases h : (chk id cur ap rv cl ex st tt un pa == 0)
  · have h' := neq_of_ne h
    have H := Lib.hid (show cko id cur ap rv cl ex st tt un pa = chk id cur ap rv cl ex st tt un pa by simp at h; simp [cko, h])
    go_enter Try.func37, Try.ntmps37
    go_wp2_with (first | (go_at_call 12; refine (chk_any id cur ap rv cl ex st tt un pa _ hs1 hs2).mono ?_; rintro e w1 ⟨rfl, hb⟩; obtain ⟨d, os, rfl⟩ := regrow_of hb; clear hb))
    go_ret
    exact ⟨ret_i H.out.symm, below_re ((Below.refl _ _).alloc (Nat.le_refl _) _) (by simp) _ _⟩
  · have h' := neq_of_eq h
    cases h2 : (st == 1)
    · have h2' : (st != 1) = true := by simp at h2; simp [h2]
      have H := Lib.hid (show cko id cur ap rv cl ex st tt un pa = 8 by simp at h h2; unfold cko; rw [if_pos h, if_neg h2])
      go_enter Try.func37, Try.ntmps37
      go_wp2_with (first | (go_at_call 12; refine (chk_any id cur ap rv cl ex st tt un pa _ hs1 hs2).mono ?_; rintro e w1 ⟨rfl, hb⟩; obtain ⟨d, os, rfl⟩ := regrow_of hb; clear hb))
      go_ret
      exact ⟨ret_i H.out.symm, below_re ((Below.refl _ _).alloc (Nat.le_refl _) _) (by simp) _ _⟩
    · have h2' : (st != 1) = false := by simp at h2; simp [h2]
      have H := Lib.hid (show cko id cur ap rv cl ex st tt un pa = 0 by simp at h h2; unfold cko; rw [if_pos h, if_pos h2])
      go_enter Try.func37, Try.ntmps37
      go_wp2_with (first | (go_at_call 12; refine (chk_any id cur ap rv cl ex st tt un pa _ hs1 hs2).mono ?_; rintro e w1 ⟨rfl, hb⟩; obtain ⟨d, os, rfl⟩ := regrow_of hb; clear hb))
      go_ret
      exact ⟨ret_i H.out.symm, below_re ((Below.refl _ _).alloc (Nat.le_refl _) _) (by simp) _ _⟩

def opnI (id cur : ByteArray) (ap rv cl ex st tt un pa : Int) : Int := if chk id cur ap rv cl ex st tt un pa = 0 then ap - rv - cl - ex else 0
theorem Open_any (id cur : ByteArray) (ap rv cl ex st tt un pa : Int) (w : World) (hs1 : id.size ≤ maxLen) (hs2 : cur.size ≤ maxLen) :
    Calls Try.prog 10 #[au id cur ap rv cl ex st tt un pa] w fun e w' => e = .returned (.int .i64 (opnI id cur ap rv cl ex st tt un pa)) ∧ Below w.heap.size w w' := by
  cases h : (chk id cur ap rv cl ex st tt un pa == 0)
  · have h' := neq_of_ne h
    have H := Lib.hid (show opnI id cur ap rv cl ex st tt un pa = 0 by simp at h; simp [opnI, h])
    go_enter Try.func10, Try.ntmps10
    go_wp2_with (first | (go_at_call 12; refine (chk_any id cur ap rv cl ex st tt un pa _ hs1 hs2).mono ?_; rintro e w1 ⟨rfl, hb⟩; obtain ⟨d, os, rfl⟩ := regrow_of hb; clear hb))
    go_ret
    exact ⟨ret_i H.out.symm, below_re ((Below.refl _ _).alloc (Nat.le_refl _) _) (by simp) _ _⟩
  · have h' := neq_of_eq h
    have H := Lib.hid (show opnI id cur ap rv cl ex st tt un pa = ap - rv - cl - ex by simp at h; simp [opnI, h])
    have hz : chk id cur ap rv cl ex st tt un pa = 0 := by simpa using h
    obtain ⟨⟨a1, a2⟩, ⟨b1, b2⟩, ⟨c1, c2⟩, ⟨d1, d2⟩, e1, -⟩ := chk_0 hz
    clear hz
    go_enter Try.func10, Try.ntmps10
    go_wp2_with (first | (go_at_call 12; refine (chk_any id cur ap rv cl ex st tt un pa _ hs1 hs2).mono ?_; rintro e w1 ⟨rfl, hb⟩; obtain ⟨d, os, rfl⟩ := regrow_of hb; clear hb) | (go_at_call 20; refine (open_any id cur ap rv cl ex st tt un pa _ (by omega) (by omega) (by omega) (by omega) (by omega) (by omega) (by omega) (by omega)).mono ?_; rintro e w1 ⟨rfl, rfl⟩))
    go_ret
    refine ⟨ret_i H.out.symm, ?_⟩
    refine Below.alloc ?_ ?_ _
    · exact below_re ((Below.refl _ _).alloc (Nat.le_refl _) _) (by simp) _ _
    · rw [size_regrow]; simp; omega
end Go.Proofs.Ytlkbghdeingimaa
