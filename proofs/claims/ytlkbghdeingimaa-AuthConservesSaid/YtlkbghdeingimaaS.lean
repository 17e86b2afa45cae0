import Derived.Test.YtlkbghdeingimaaR
set_option linter.unusedVariables false
set_option linter.unusedSimpArgs false
namespace Go.Proofs.Ytlkbghdeingimaa
open Go.Sort Go.ChangeShapes Go.WideShapes Go.ChangeAt Go.RowKit
theorem rclear_e0 (id cur : ByteArray) (ap rv cl ex st tt un pa : Int) (n : Int) (fin : Bool) (w : World) (hs1 : id.size ≤ maxLen) (hs2 : cur.size ≤ maxLen) (h : ¬ cko id cur ap rv cl ex st tt un pa = 0) :
    Calls Try.prog 36 #[au id cur ap rv cl ex st tt un pa, .int .i64 n, .bool fin] w fun e w' => e = .returned (.tuple #[au0, .int .i64 0, .int .i64 0, .int .i64 (cko id cur ap rv cl ex st tt un pa)]) ∧ Below w.heap.size w w' := by
  have h' : (cko id cur ap rv cl ex st tt un pa != 0) = true := by simp [h]
  clear h
  go_enter Try.func36, Try.ntmps36
  go_wp2_with (first | (go_at_call 40; refine (rcko_any id cur ap rv cl ex st tt un pa _ hs1 hs2).mono ?_; rintro e w1 ⟨rfl, hb⟩; obtain ⟨d, os, rfl⟩ := regrow_of hb; clear hb) | (go_at_call 31; refine (within_any _ _ _ _).mono ?_; rintro e w' ⟨rfl, rfl⟩) | (go_at_call 14; refine (ropen_ok id cur ap rv cl ex st tt un pa _ hs1 hs2 (hz.out)).mono ?_; rintro e w1 ⟨rfl, hb⟩; obtain ⟨d, os, rfl⟩ := regrow_of hb; clear hb) | (go_at_call 32; refine (state_b _ _ _ _ _ _ _ _ _ _ _ (by omega) (by omega) (by omega) (by omega) (by omega) (by omega) (by omega) (by omega)).mono ?_; rintro e w1 ⟨rfl, hb⟩; obtain ⟨d, os, rfl⟩ := regrow_of hb; clear hb))
  all_goals first
    | (exfalso; omega)
    | exact bodyPost_ret (v := .tuple #[au0, .int .i64 0, .int .i64 0, .int .i64 (cko id cur ap rv cl ex st tt un pa)]) (by simp [results, Try.results36, go_sem]) rfl ⟨rfl, below_re (((Below.refl _ _).alloc (Nat.le_refl _) _).alloc (by simp) _) (by simp; omega) _ _⟩
theorem rclear_e1 (id cur : ByteArray) (ap rv cl ex st tt un pa : Int) (n : Int) (fin : Bool) (w : World) (hs1 : id.size ≤ maxLen) (hs2 : cur.size ≤ maxLen) (h : cko id cur ap rv cl ex st tt un pa = 0) (hn : amtB n 1 = false) :
    Calls Try.prog 36 #[au id cur ap rv cl ex st tt un pa, .int .i64 n, .bool fin] w fun e w' => e = .returned (.tuple #[au0, .int .i64 0, .int .i64 0, .int .i64 4]) ∧ Below w.heap.size w w' := by
  obtain ⟨h4, h5⟩ := cko_0 h
  obtain ⟨⟨a1, a2⟩, ⟨b1, b2⟩, ⟨c1, c2⟩, ⟨d1, d2⟩, e1, -, ⟨f1, f2, -⟩, -, -⟩ := chk_0 h4
  have h' : (cko id cur ap rv cl ex st tt un pa != 0) = false := by simp [h]
  have hz := Lib.hid h4
  clear h4 h h5
  have hq : inB n 1 999999999999 = false := hn
  clear hn
  go_enter Try.func36, Try.ntmps36
  go_wp2_with (first | (go_at_call 40; refine (rcko_any id cur ap rv cl ex st tt un pa _ hs1 hs2).mono ?_; rintro e w1 ⟨rfl, hb⟩; obtain ⟨d, os, rfl⟩ := regrow_of hb; clear hb) | (go_at_call 31; refine (within_any _ _ _ _).mono ?_; rintro e w' ⟨rfl, rfl⟩) | (go_at_call 14; refine (ropen_ok id cur ap rv cl ex st tt un pa _ hs1 hs2 (hz.out)).mono ?_; rintro e w1 ⟨rfl, hb⟩; obtain ⟨d, os, rfl⟩ := regrow_of hb; clear hb) | (go_at_call 32; refine (state_b _ _ _ _ _ _ _ _ _ _ _ (by omega) (by omega) (by omega) (by omega) (by omega) (by omega) (by omega) (by omega)).mono ?_; rintro e w1 ⟨rfl, hb⟩; obtain ⟨d, os, rfl⟩ := regrow_of hb; clear hb))
  all_goals first
    | (exfalso; omega)
    | exact bodyPost_ret (v := .tuple #[au0, .int .i64 0, .int .i64 0, .int .i64 4]) (by simp [results, Try.results36, go_sem]) rfl ⟨rfl, below_re (((Below.refl _ _).alloc (Nat.le_refl _) _).alloc (by simp) _) (by simp; omega) _ _⟩
theorem rclear_e2 (id cur : ByteArray) (ap rv cl ex st tt un pa : Int) (n : Int) (fin : Bool) (w : World) (hs1 : id.size ≤ maxLen) (hs2 : cur.size ≤ maxLen) (h : cko id cur ap rv cl ex st tt un pa = 0) (hn : amtB n 1 = true) (hp : 8 ≤ pa) :
    Calls Try.prog 36 #[au id cur ap rv cl ex st tt un pa, .int .i64 n, .bool fin] w fun e w' => e = .returned (.tuple #[au0, .int .i64 0, .int .i64 0, .int .i64 10]) ∧ Below w.heap.size w w' := by
  obtain ⟨h4, h5⟩ := cko_0 h
  obtain ⟨⟨a1, a2⟩, ⟨b1, b2⟩, ⟨c1, c2⟩, ⟨d1, d2⟩, e1, -, ⟨f1, f2, -⟩, -, -⟩ := chk_0 h4
  have h' : (cko id cur ap rv cl ex st tt un pa != 0) = false := by simp [h]
  have hz := Lib.hid h4
  clear h4 h h5
  have hq : inB n 1 999999999999 = true := hn
  clear hn
  have hp8 : (pa == 8) = true := by simp; omega
  go_enter Try.func36, Try.ntmps36
  go_wp2_with (first | (go_at_call 40; refine (rcko_any id cur ap rv cl ex st tt un pa _ hs1 hs2).mono ?_; rintro e w1 ⟨rfl, hb⟩; obtain ⟨d, os, rfl⟩ := regrow_of hb; clear hb) | (go_at_call 31; refine (within_any _ _ _ _).mono ?_; rintro e w' ⟨rfl, rfl⟩) | (go_at_call 14; refine (ropen_ok id cur ap rv cl ex st tt un pa _ hs1 hs2 (hz.out)).mono ?_; rintro e w1 ⟨rfl, hb⟩; obtain ⟨d, os, rfl⟩ := regrow_of hb; clear hb) | (go_at_call 32; refine (state_b _ _ _ _ _ _ _ _ _ _ _ (by omega) (by omega) (by omega) (by omega) (by omega) (by omega) (by omega) (by omega)).mono ?_; rintro e w1 ⟨rfl, hb⟩; obtain ⟨d, os, rfl⟩ := regrow_of hb; clear hb))
  all_goals first
    | (exfalso; omega)
    | exact bodyPost_ret (v := .tuple #[au0, .int .i64 0, .int .i64 0, .int .i64 10]) (by simp [results, Try.results36, go_sem]) rfl ⟨rfl, below_re (((Below.refl _ _).alloc (Nat.le_refl _) _).alloc (by simp) _) (by simp; omega) _ _⟩
theorem rclear_f1 (id cur : ByteArray) (ap rv cl ex st tt un pa : Int) (n : Int) (w : World) (hs1 : id.size ≤ maxLen) (hs2 : cur.size ≤ maxLen) (h : cko id cur ap rv cl ex st tt un pa = 0) (hn : amtB n 1 = true) (hp : pa < 8) (hle : n ≤ ap - rv - cl - ex) :
    Calls Try.prog 36 #[au id cur ap rv cl ex st tt un pa, .int .i64 n, .bool false] w fun e w' => e = .returned (.tuple #[au id cur ap rv (cl + n) ex (sttI ap rv (cl + n) ex) tt un (pa + 1), .int .i64 n, .int .i64 0, .int .i64 0]) ∧ Below w.heap.size w w' := by
  obtain ⟨h4, h5⟩ := cko_0 h
  obtain ⟨⟨a1, a2⟩, ⟨b1, b2⟩, ⟨c1, c2⟩, ⟨d1, d2⟩, e1, -, ⟨f1, f2, -⟩, -, -⟩ := chk_0 h4
  have h' : (cko id cur ap rv cl ex st tt un pa != 0) = false := by simp [h]
  have hz := Lib.hid h4
  clear h4 h h5
  obtain ⟨n1, n2⟩ := amtB_le hn
  have hq : inB n 1 999999999999 = true := hn
  clear hn
  have hp8 : (pa == 8) = false := by simp; omega
  go_enter Try.func36, Try.ntmps36
  go_wp2_with (first | (go_at_call 40; refine (rcko_any id cur ap rv cl ex st tt un pa _ hs1 hs2).mono ?_; rintro e w1 ⟨rfl, hb⟩; obtain ⟨d, os, rfl⟩ := regrow_of hb; clear hb) | (go_at_call 31; refine (within_any _ _ _ _).mono ?_; rintro e w' ⟨rfl, rfl⟩) | (go_at_call 14; refine (ropen_ok id cur ap rv cl ex st tt un pa _ hs1 hs2 (hz.out)).mono ?_; rintro e w1 ⟨rfl, hb⟩; obtain ⟨d, os, rfl⟩ := regrow_of hb; clear hb) | (go_at_call 32; refine (state_b _ _ _ _ _ _ _ _ _ _ _ (by omega) (by omega) (by omega) (by omega) (by omega) (by omega) (by omega) (by omega)).mono ?_; rintro e w1 ⟨rfl, hb⟩; obtain ⟨d, os, rfl⟩ := regrow_of hb; clear hb))
  all_goals first
    | (exfalso; omega)
    | exact bodyPost_ret (v := .tuple #[au id cur ap rv (cl + n) ex (sttI ap rv (cl + n) ex) tt un (pa + 1), .int .i64 n, .int .i64 0, .int .i64 0]) (by simp [results, Try.results36, go_sem]) rfl ⟨rfl, below_re (((Below.refl _ _).alloc (Nat.le_refl _) _).alloc (by simp) _) (by simp; omega) _ _⟩
theorem rclear_f2 (id cur : ByteArray) (ap rv cl ex st tt un pa : Int) (n : Int) (w : World) (hs1 : id.size ≤ maxLen) (hs2 : cur.size ≤ maxLen) (h : cko id cur ap rv cl ex st tt un pa = 0) (hn : amtB n 1 = true) (hp : pa < 8) (hle : ¬ n ≤ ap - rv - cl - ex) :
    Calls Try.prog 36 #[au id cur ap rv cl ex st tt un pa, .int .i64 n, .bool false] w fun e w' => e = .returned (.tuple #[au id cur ap rv (cl + (ap - rv - cl - ex)) ex (sttI ap rv (cl + (ap - rv - cl - ex)) ex) tt un (pa + 1), .int .i64 (ap - rv - cl - ex), .int .i64 0, .int .i64 0]) ∧ Below w.heap.size w w' := by
  obtain ⟨h4, h5⟩ := cko_0 h
  obtain ⟨⟨a1, a2⟩, ⟨b1, b2⟩, ⟨c1, c2⟩, ⟨d1, d2⟩, e1, -, ⟨f1, f2, -⟩, -, -⟩ := chk_0 h4
  have h' : (cko id cur ap rv cl ex st tt un pa != 0) = false := by simp [h]
  have hz := Lib.hid h4
  clear h4 h h5
  obtain ⟨n1, n2⟩ := amtB_le hn
  have hq : inB n 1 999999999999 = true := hn
  clear hn
  have hp8 : (pa == 8) = false := by simp; omega
  go_enter Try.func36, Try.ntmps36
  go_wp2_with (first | (go_at_call 40; refine (rcko_any id cur ap rv cl ex st tt un pa _ hs1 hs2).mono ?_; rintro e w1 ⟨rfl, hb⟩; obtain ⟨d, os, rfl⟩ := regrow_of hb; clear hb) | (go_at_call 31; refine (within_any _ _ _ _).mono ?_; rintro e w' ⟨rfl, rfl⟩) | (go_at_call 14; refine (ropen_ok id cur ap rv cl ex st tt un pa _ hs1 hs2 (hz.out)).mono ?_; rintro e w1 ⟨rfl, hb⟩; obtain ⟨d, os, rfl⟩ := regrow_of hb; clear hb) | (go_at_call 32; refine (state_b _ _ _ _ _ _ _ _ _ _ _ (by omega) (by omega) (by omega) (by omega) (by omega) (by omega) (by omega) (by omega)).mono ?_; rintro e w1 ⟨rfl, hb⟩; obtain ⟨d, os, rfl⟩ := regrow_of hb; clear hb))
  all_goals first
    | (exfalso; omega)
    | exact bodyPost_ret (v := .tuple #[au id cur ap rv (cl + (ap - rv - cl - ex)) ex (sttI ap rv (cl + (ap - rv - cl - ex)) ex) tt un (pa + 1), .int .i64 (ap - rv - cl - ex), .int .i64 0, .int .i64 0]) (by simp [results, Try.results36, go_sem]) rfl ⟨rfl, below_re (((Below.refl _ _).alloc (Nat.le_refl _) _).alloc (by simp) _) (by simp; omega) _ _⟩
theorem rclear_t1 (id cur : ByteArray) (ap rv cl ex st tt un pa : Int) (n : Int) (w : World) (hs1 : id.size ≤ maxLen) (hs2 : cur.size ≤ maxLen) (h : cko id cur ap rv cl ex st tt un pa = 0) (hn : amtB n 1 = true) (hp : pa < 8) (hle : n ≤ ap - rv - cl - ex) :
    Calls Try.prog 36 #[au id cur ap rv cl ex st tt un pa, .int .i64 n, .bool true] w fun e w' => e = .returned (.tuple #[au id cur ap (rv + (ap - rv - (cl + n) - ex)) (cl + n) ex (sttI ap (rv + (ap - rv - (cl + n) - ex)) (cl + n) ex) tt un (pa + 1), .int .i64 n, .int .i64 (ap - rv - (cl + n) - ex), .int .i64 0]) ∧ Below w.heap.size w w' := by
  obtain ⟨h4, h5⟩ := cko_0 h
  obtain ⟨⟨a1, a2⟩, ⟨b1, b2⟩, ⟨c1, c2⟩, ⟨d1, d2⟩, e1, -, ⟨f1, f2, -⟩, -, -⟩ := chk_0 h4
  have h' : (cko id cur ap rv cl ex st tt un pa != 0) = false := by simp [h]
  have hz := Lib.hid h4
  clear h4 h h5
  obtain ⟨n1, n2⟩ := amtB_le hn
  have hq : inB n 1 999999999999 = true := hn
  clear hn
  have hp8 : (pa == 8) = false := by simp; omega
  go_enter Try.func36, Try.ntmps36
  go_wp2_with (first | (go_at_call 40; refine (rcko_any id cur ap rv cl ex st tt un pa _ hs1 hs2).mono ?_; rintro e w1 ⟨rfl, hb⟩; obtain ⟨d, os, rfl⟩ := regrow_of hb; clear hb) | (go_at_call 31; refine (within_any _ _ _ _).mono ?_; rintro e w' ⟨rfl, rfl⟩) | (go_at_call 14; refine (ropen_ok id cur ap rv cl ex st tt un pa _ hs1 hs2 (hz.out)).mono ?_; rintro e w1 ⟨rfl, hb⟩; obtain ⟨d, os, rfl⟩ := regrow_of hb; clear hb) | (go_at_call 32; refine (state_b _ _ _ _ _ _ _ _ _ _ _ (by omega) (by omega) (by omega) (by omega) (by omega) (by omega) (by omega) (by omega)).mono ?_; rintro e w1 ⟨rfl, hb⟩; obtain ⟨d, os, rfl⟩ := regrow_of hb; clear hb))
  all_goals first
    | (exfalso; omega)
    | exact bodyPost_ret (v := .tuple #[au id cur ap (rv + (ap - rv - cl - ex - n)) (cl + n) ex (sttI ap (rv + (ap - rv - cl - ex - n)) (cl + n) ex) tt un (pa + 1), .int .i64 n, .int .i64 (ap - rv - cl - ex - n), .int .i64 0]) (by simp [results, Try.results36, go_sem]) rfl ⟨by rw [show (ap - rv - cl - ex - n) = (ap - rv - (cl + n) - ex) by omega], below_re (((Below.refl _ _).alloc (Nat.le_refl _) _).alloc (by simp) _) (by simp; omega) _ _⟩
theorem rclear_t2 (id cur : ByteArray) (ap rv cl ex st tt un pa : Int) (n : Int) (w : World) (hs1 : id.size ≤ maxLen) (hs2 : cur.size ≤ maxLen) (h : cko id cur ap rv cl ex st tt un pa = 0) (hn : amtB n 1 = true) (hp : pa < 8) (hle : ¬ n ≤ ap - rv - cl - ex) :
    Calls Try.prog 36 #[au id cur ap rv cl ex st tt un pa, .int .i64 n, .bool true] w fun e w' => e = .returned (.tuple #[au id cur ap (rv + (ap - rv - (cl + (ap - rv - cl - ex)) - ex)) (cl + (ap - rv - cl - ex)) ex (sttI ap (rv + (ap - rv - (cl + (ap - rv - cl - ex)) - ex)) (cl + (ap - rv - cl - ex)) ex) tt un (pa + 1), .int .i64 (ap - rv - cl - ex), .int .i64 (ap - rv - (cl + (ap - rv - cl - ex)) - ex), .int .i64 0]) ∧ Below w.heap.size w w' := by
  obtain ⟨h4, h5⟩ := cko_0 h
  obtain ⟨⟨a1, a2⟩, ⟨b1, b2⟩, ⟨c1, c2⟩, ⟨d1, d2⟩, e1, -, ⟨f1, f2, -⟩, -, -⟩ := chk_0 h4
  have h' : (cko id cur ap rv cl ex st tt un pa != 0) = false := by simp [h]
  have hz := Lib.hid h4
  clear h4 h h5
  obtain ⟨n1, n2⟩ := amtB_le hn
  have hq : inB n 1 999999999999 = true := hn
  clear hn
  have hp8 : (pa == 8) = false := by simp; omega
  go_enter Try.func36, Try.ntmps36
  go_wp2_with (first | (go_at_call 40; refine (rcko_any id cur ap rv cl ex st tt un pa _ hs1 hs2).mono ?_; rintro e w1 ⟨rfl, hb⟩; obtain ⟨d, os, rfl⟩ := regrow_of hb; clear hb) | (go_at_call 31; refine (within_any _ _ _ _).mono ?_; rintro e w' ⟨rfl, rfl⟩) | (go_at_call 14; refine (ropen_ok id cur ap rv cl ex st tt un pa _ hs1 hs2 (hz.out)).mono ?_; rintro e w1 ⟨rfl, hb⟩; obtain ⟨d, os, rfl⟩ := regrow_of hb; clear hb) | (go_at_call 32; refine (state_b _ _ _ _ _ _ _ _ _ _ _ (by omega) (by omega) (by omega) (by omega) (by omega) (by omega) (by omega) (by omega)).mono ?_; rintro e w1 ⟨rfl, hb⟩; obtain ⟨d, os, rfl⟩ := regrow_of hb; clear hb))
  all_goals first
    | (exfalso; omega)
    | exact bodyPost_ret (v := .tuple #[au id cur ap rv (cl + (ap - rv - cl - ex)) ex (sttI ap rv (cl + (ap - rv - cl - ex)) ex) tt un (pa + 1), .int .i64 (ap - rv - cl - ex), .int .i64 0, .int .i64 0]) (by simp [results, Try.results36, go_sem]) rfl ⟨by rw [show (ap - rv - (cl + (ap - rv - cl - ex)) - ex) = 0 by omega, Int.add_zero], below_re (((Below.refl _ _).alloc (Nat.le_refl _) _).alloc (by simp) _) (by simp; omega) _ _⟩
end Go.Proofs.Ytlkbghdeingimaa
