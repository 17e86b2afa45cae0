import Derived.Test.YtlkbghdeingimaaL
set_option linter.unusedVariables false
set_option linter.unusedSimpArgs false
namespace Go.Proofs.Ytlkbghdeingimaa
open Go.Sort Go.ChangeShapes Go.WideShapes Go.ChangeAt Go.RowKit

def clrE (id cur : ByteArray) (ap rv cl ex st tt un pa n : Int) : Int :=
  if cko id cur ap rv cl ex st tt un pa = 0 then (if amtB n 1 = true then (if 8 ≤ pa then 10 else 0) else 4) else cko id cur ap rv cl ex st tt un pa

theorem cko_0 {id cur : ByteArray} {ap rv cl ex st tt un pa : Int} (h : cko id cur ap rv cl ex st tt un pa = 0) : chk id cur ap rv cl ex st tt un pa = 0 ∧ st = 1 := by
  unfold cko at h
  split at h
  · rename_i h0
    split at h
    · exact ⟨h0, by assumption⟩
    · simp at h
  · contradiction

theorem clear_no (id cur : ByteArray) (ap rv cl ex st tt un pa n : Int) (fin : Bool) (w : World) (hs1 : id.size ≤ maxLen) (hs2 : cur.size ≤ maxLen) (hno : ¬ clrE id cur ap rv cl ex st tt un pa n = 0) :
    Calls Try.prog 19 #[au id cur ap rv cl ex st tt un pa, .int .i64 n, .bool fin] w fun e w' => e = .returned (.tuple #[au0, .int .i64 0, .int .i64 0, .int .i64 (clrE id cur ap rv cl ex st tt un pa n)]) ∧ Below w.heap.size w w' := by
  cases h : (cko id cur ap rv cl ex st tt un pa == 0)
  · have h' := neq_of_ne h
    have H := Lib.hid (show clrE id cur ap rv cl ex st tt un pa n = cko id cur ap rv cl ex st tt un pa by simp at h; simp [clrE, h])
    clear hno
    go_enter Try.func19, Try.ntmps19
    go_wp2_with (first | (go_at_call 37; refine (cko_any id cur ap rv cl ex st tt un pa _ hs1 hs2).mono ?_; rintro e w1 ⟨rfl, hb⟩; obtain ⟨d, os, rfl⟩ := regrow_of hb; clear hb))
    exact bodyPost_ret (v := .tuple #[au0, .int .i64 0, .int .i64 0, .int .i64 (cko id cur ap rv cl ex st tt un pa)]) (by simp [results, Try.results19, go_sem]) rfl ⟨by rw [H.out], below_re (((Below.refl _ _).alloc (Nat.le_refl _) _).alloc (by simp) _) (by simp; omega) _ _⟩
  · have h' := neq_of_eq h
    cases h2 : amtB n 1
    · have H := Lib.hid (show clrE id cur ap rv cl ex st tt un pa n = 4 by simp at h; unfold clrE; rw [if_pos h, h2]; simp)
      clear hno
      go_enter Try.func19, Try.ntmps19
      go_wp2_with (first | (go_at_call 37; refine (cko_any id cur ap rv cl ex st tt un pa _ hs1 hs2).mono ?_; rintro e w1 ⟨rfl, hb⟩; obtain ⟨d, os, rfl⟩ := regrow_of hb; clear hb) | (go_at_call 26; refine (amt_any _ _ _).mono ?_; rintro e w' ⟨rfl, rfl⟩))
      exact bodyPost_ret (v := .tuple #[au0, .int .i64 0, .int .i64 0, .int .i64 4]) (by simp [results, Try.results19, go_sem]) rfl ⟨by rw [H.out], below_re (((Below.refl _ _).alloc (Nat.le_refl _) _).alloc (by simp) _) (by simp; omega) _ _⟩
    · have h3 : 8 ≤ pa := by
        apply Classical.byContradiction
        intro h3; apply hno; simp at h; unfold clrE; rw [if_pos h, if_pos h2, if_neg h3]
      have H := Lib.hid (show clrE id cur ap rv cl ex st tt un pa n = 10 by simp at h; unfold clrE; rw [if_pos h, if_pos h2, if_pos h3])
      clear hno
      go_enter Try.func19, Try.ntmps19
      go_wp2_with (first | (go_at_call 37; refine (cko_any id cur ap rv cl ex st tt un pa _ hs1 hs2).mono ?_; rintro e w1 ⟨rfl, hb⟩; obtain ⟨d, os, rfl⟩ := regrow_of hb; clear hb) | (go_at_call 26; refine (amt_any _ _ _).mono ?_; rintro e w' ⟨rfl, rfl⟩))
      exact bodyPost_ret (v := .tuple #[au0, .int .i64 0, .int .i64 0, .int .i64 10]) (by simp [results, Try.results19, go_sem]) rfl ⟨by rw [H.out], below_re (((Below.refl _ _).alloc (Nat.le_refl _) _).alloc (by simp) _) (by simp; omega) _ _⟩

theorem clear_pre {id cur : ByteArray} {ap rv cl ex st tt un pa n : Int} (h : clrE id cur ap rv cl ex st tt un pa n = 0) :
    cko id cur ap rv cl ex st tt un pa = 0 ∧ amtB n 1 = true ∧ pa < 8 := by
  unfold clrE at h
  split at h
  · split at h
    · split at h
      · simp at h
      · exact ⟨by assumption, by assumption, by omega⟩
    · simp at h
  · contradiction

theorem open_b (id cur : ByteArray) (ap rv cl ex st tt un pa : Int) (w : World)
    (h1 : 0 ≤ ap) (h2 : ap ≤ 999999999999) (h3 : 0 ≤ rv) (h4 : rv ≤ 1999999999999) (h5 : 0 ≤ cl) (h6 : cl ≤ 1999999999999) (h7 : 0 ≤ ex) (h8 : ex ≤ 1999999999999) :
    Calls Try.prog 20 #[au id cur ap rv cl ex st tt un pa] w fun e w' => e = .returned (.int .i64 (ap - rv - cl - ex)) ∧ Below w.heap.size w w' :=
  (open_any id cur ap rv cl ex st tt un pa w h1 h2 h3 h4 h5 h6 h7 h8).mono fun _ _ ⟨he, hw⟩ => ⟨he, hw ▸ (Below.refl _ _).alloc (Nat.le_refl _) _⟩

theorem clear_f1 (id cur : ByteArray) (ap rv cl ex st tt un pa n : Int) (w : World) (hs1 : id.size ≤ maxLen) (hs2 : cur.size ≤ maxLen) (hok : clrE id cur ap rv cl ex st tt un pa n = 0) (hle : n ≤ ap - rv - cl - ex) :
    Calls Try.prog 19 #[au id cur ap rv cl ex st tt un pa, .int .i64 n, .bool false] w fun e w' => e = .returned (.tuple #[au id cur ap rv (cl + n) ex (sttI ap rv (cl + n) ex) tt un (pa + 1), .int .i64 n, .int .i64 0, .int .i64 0]) ∧ Below w.heap.size w w' := by
  obtain ⟨h, h2, h3⟩ := clear_pre hok
  obtain ⟨h4, h5⟩ := cko_0 h
  obtain ⟨⟨a1, a2⟩, ⟨b1, b2⟩, ⟨c1, c2⟩, ⟨d1, d2⟩, e1, -, ⟨f1, f2, -⟩, -, -⟩ := chk_0 h4
  obtain ⟨n1, n2⟩ := amtB_le h2
  have h' : (cko id cur ap rv cl ex st tt un pa != 0) = false := by simp [h]
  clear h4 h hok h5
  go_enter Try.func19, Try.ntmps19
  go_wp2_with (first | (go_at_call 37; refine (cko_any id cur ap rv cl ex st tt un pa _ hs1 hs2).mono ?_; rintro e w1 ⟨rfl, hb⟩; obtain ⟨d, os, rfl⟩ := regrow_of hb; clear hb) | (go_at_call 26; refine (amt_any _ _ _).mono ?_; rintro e w' ⟨rfl, rfl⟩) | (go_at_call 20; refine (open_b _ _ _ _ _ _ _ _ _ _ _ (by omega) (by omega) (by omega) (by omega) (by omega) (by omega) (by omega) (by omega)).mono ?_; rintro e w1 ⟨rfl, hb⟩; obtain ⟨d, os, rfl⟩ := regrow_of hb; clear hb) | (go_at_call 28; refine (settled_x id cur ap rv (cl + n) ex st tt un (pa + 1) _ (by omega) (by omega) (by omega) (by omega) (by omega) (by omega) (by omega) (by omega)).mono ?_; rintro e w1 ⟨rfl, hb⟩; obtain ⟨d, os, rfl⟩ := regrow_of hb; clear hb))
  all_goals first
    | (exfalso; omega)
    | exact bodyPost_ret (v := .tuple #[au id cur ap rv (cl + n) ex (sttI ap rv (cl + n) ex) tt un (pa + 1), .int .i64 n, .int .i64 0, .int .i64 0]) (by simp [results, Try.results19, go_sem]) rfl ⟨rfl, below_re (((Below.refl _ _).alloc (Nat.le_refl _) _).alloc (by simp) _) (by simp; omega) _ _⟩
end Go.Proofs.Ytlkbghdeingimaa
