import Derived.Test.YtlkbghdeingimaaN
set_option linter.unusedVariables false
set_option linter.unusedSimpArgs false
namespace Go.Proofs.Ytlkbghdeingimaa
open Go.Sort Go.ChangeShapes Go.WideShapes Go.ChangeAt Go.RowKit
theorem rcko_any (id cur : ByteArray) (ap rv cl ex st tt un pa : Int) (w : World) (hs1 : id.size ≤ maxLen) (hs2 : cur.size ≤ maxLen) :
    Calls Try.prog 40 #[au id cur ap rv cl ex st tt un pa] w fun e w' => e = .returned (.int .i64 (cko id cur ap rv cl ex st tt un pa)) ∧ Below w.heap.size w w' := by
  cases h : (chk id cur ap rv cl ex st tt un pa == 0)
  · have h' := neq_of_ne h
    have H := Lib.hid (show cko id cur ap rv cl ex st tt un pa = chk id cur ap rv cl ex st tt un pa by simp at h; simp [cko, h])
    go_enter Try.func40, Try.ntmps40
    go_wp2_with (first | (go_at_call 13; refine (rchk_any id cur ap rv cl ex st tt un pa _ hs1 hs2).mono ?_; rintro e w1 ⟨rfl, hb⟩; obtain ⟨d, os, rfl⟩ := regrow_of hb; clear hb))
    go_ret
    exact ⟨ret_i H.out.symm, below_re ((Below.refl _ _).alloc (Nat.le_refl _) _) (by simp) _ _⟩
  · have h' := neq_of_eq h
    cases h2 : (st == 1)
    · have h2' : (st != 1) = true := by simp at h2; simp [h2]
      have H := Lib.hid (show cko id cur ap rv cl ex st tt un pa = 8 by simp at h h2; unfold cko; rw [if_pos h, if_neg h2])
      go_enter Try.func40, Try.ntmps40
      go_wp2_with (first | (go_at_call 13; refine (rchk_any id cur ap rv cl ex st tt un pa _ hs1 hs2).mono ?_; rintro e w1 ⟨rfl, hb⟩; obtain ⟨d, os, rfl⟩ := regrow_of hb; clear hb))
      go_ret
      exact ⟨ret_i H.out.symm, below_re ((Below.refl _ _).alloc (Nat.le_refl _) _) (by simp) _ _⟩
    · have h2' : (st != 1) = false := by simp at h2; simp [h2]
      have H := Lib.hid (show cko id cur ap rv cl ex st tt un pa = 0 by simp at h h2; unfold cko; rw [if_pos h, if_pos h2])
      go_enter Try.func40, Try.ntmps40
      go_wp2_with (first | (go_at_call 13; refine (rchk_any id cur ap rv cl ex st tt un pa _ hs1 hs2).mono ?_; rintro e w1 ⟨rfl, hb⟩; obtain ⟨d, os, rfl⟩ := regrow_of hb; clear hb))
      go_ret
      exact ⟨ret_i H.out.symm, below_re ((Below.refl _ _).alloc (Nat.le_refl _) _) (by simp) _ _⟩

theorem ropen_ok (id cur : ByteArray) (ap rv cl ex st tt un pa : Int) (w : World) (hs1 : id.size ≤ maxLen) (hs2 : cur.size ≤ maxLen) (h4 : chk id cur ap rv cl ex st tt un pa = 0) :
    Calls Try.prog 14 #[au id cur ap rv cl ex st tt un pa] w fun e w' => e = .returned (.int .i64 (ap - rv - cl - ex)) ∧ Below w.heap.size w w' := by
  obtain ⟨⟨a1, a2⟩, ⟨b1, b2⟩, ⟨c1, c2⟩, ⟨d1, d2⟩, e1, -⟩ := chk_0 h4
  have h' : (chk id cur ap rv cl ex st tt un pa != 0) = false := by simp [h4]
  clear h4
  go_enter Try.func14, Try.ntmps14
  go_wp2_with (first | (go_at_call 13; refine (rchk_any id cur ap rv cl ex st tt un pa _ hs1 hs2).mono ?_; rintro e w1 ⟨rfl, hb⟩; obtain ⟨d, os, rfl⟩ := regrow_of hb; clear hb))
  go_ret
  exact ⟨rfl, below_re ((Below.refl _ _).alloc (Nat.le_refl _) _) (by simp) _ _⟩
theorem ropen_no (id cur : ByteArray) (ap rv cl ex st tt un pa : Int) (w : World) (hs1 : id.size ≤ maxLen) (hs2 : cur.size ≤ maxLen) (h4 : ¬ chk id cur ap rv cl ex st tt un pa = 0) :
    Calls Try.prog 14 #[au id cur ap rv cl ex st tt un pa] w fun e w' => e = .returned (.int .i64 0) ∧ Below w.heap.size w w' := by
  have h' : (chk id cur ap rv cl ex st tt un pa != 0) = true := by simp [h4]
  clear h4
  go_enter Try.func14, Try.ntmps14
  go_wp2_with (first | (go_at_call 13; refine (rchk_any id cur ap rv cl ex st tt un pa _ hs1 hs2).mono ?_; rintro e w1 ⟨rfl, hb⟩; obtain ⟨d, os, rfl⟩ := regrow_of hb; clear hb))
  go_ret
  exact ⟨rfl, below_re ((Below.refl _ _).alloc (Nat.le_refl _) _) (by simp) _ _⟩
theorem state_b (id cur : ByteArray) (ap rv cl ex st tt un pa : Int) (w : World)
    (h1 : 0 ≤ ap) (h2 : ap ≤ 999999999999) (h3 : 0 ≤ rv) (h4 : rv ≤ 1999999999999) (h5 : 0 ≤ cl) (h6 : cl ≤ 1999999999999) (h7 : 0 ≤ ex) (h8 : ex ≤ 1999999999999) :
    Calls Try.prog 32 #[au id cur ap rv cl ex st tt un pa] w fun e w' => e = .returned (.int .i64 (sttI ap rv cl ex)) ∧ Below w.heap.size w w' :=
  state_any id cur ap rv cl ex st tt un pa w h1 h2 h3 h4 h5 h6 h7 h8
theorem rraise_e0 (id cur : ByteArray) (ap rv cl ex st tt un pa : Int) (n u : Int) (w : World) (hs1 : id.size ≤ maxLen) (hs2 : cur.size ≤ maxLen) (h : ¬ cko id cur ap rv cl ex st tt un pa = 0) :
    Calls Try.prog 33 #[au id cur ap rv cl ex st tt un pa, .int .i64 n, .int .i64 u] w fun e w' => e = .returned (.tuple #[au0, .int .i64 (cko id cur ap rv cl ex st tt un pa)]) ∧ Below w.heap.size w w' := by
  have h' : (cko id cur ap rv cl ex st tt un pa != 0) = true := by simp [h]
  clear h
  go_enter Try.func33, Try.ntmps33
  go_wp2_with (first | (go_at_call 40; refine (rcko_any id cur ap rv cl ex st tt un pa _ hs1 hs2).mono ?_; rintro e w1 ⟨rfl, hb⟩; obtain ⟨d, os, rfl⟩ := regrow_of hb; clear hb) | (go_at_call 31; refine (within_any _ _ _ _).mono ?_; rintro e w' ⟨rfl, rfl⟩) | (go_at_call 14; refine (ropen_ok id cur ap rv cl ex st tt un pa _ hs1 hs2 (hz.out)).mono ?_; rintro e w1 ⟨rfl, hb⟩; obtain ⟨d, os, rfl⟩ := regrow_of hb; clear hb) | (go_at_call 32; refine (state_b _ _ _ _ _ _ _ _ _ _ _ (by omega) (by omega) (by omega) (by omega) (by omega) (by omega) (by omega) (by omega)).mono ?_; rintro e w1 ⟨rfl, hb⟩; obtain ⟨d, os, rfl⟩ := regrow_of hb; clear hb))
  all_goals first
    | (exfalso; omega)
    | exact bodyPost_ret (v := .tuple #[au0, .int .i64 (cko id cur ap rv cl ex st tt un pa)]) (by simp [results, Try.results33, go_sem]) rfl ⟨rfl, below_re (((Below.refl _ _).alloc (Nat.le_refl _) _).alloc (by simp) _) (by simp; omega) _ _⟩
theorem rraise_e1 (id cur : ByteArray) (ap rv cl ex st tt un pa : Int) (n u : Int) (w : World) (hs1 : id.size ≤ maxLen) (hs2 : cur.size ≤ maxLen) (h : cko id cur ap rv cl ex st tt un pa = 0) (hn : n < 1 ∨ 1 ≤ n ∧ 999999999999 - ap < n) :
    Calls Try.prog 33 #[au id cur ap rv cl ex st tt un pa, .int .i64 n, .int .i64 u] w fun e w' => e = .returned (.tuple #[au0, .int .i64 4]) ∧ Below w.heap.size w w' := by
  obtain ⟨h4, h5⟩ := cko_0 h
  obtain ⟨⟨a1, a2⟩, ⟨b1, b2⟩, ⟨c1, c2⟩, ⟨d1, d2⟩, e1, -, ⟨f1, f2, -⟩, -, -⟩ := chk_0 h4
  have h' : (cko id cur ap rv cl ex st tt un pa != 0) = false := by simp [h]
  have hz := Lib.hid h4
  clear h4 h h5
  have hq : inB n 1 (999999999999 - ap) = false := by simp [inB]; omega
  clear hn
  go_enter Try.func33, Try.ntmps33
  go_wp2_with (first | (go_at_call 40; refine (rcko_any id cur ap rv cl ex st tt un pa _ hs1 hs2).mono ?_; rintro e w1 ⟨rfl, hb⟩; obtain ⟨d, os, rfl⟩ := regrow_of hb; clear hb) | (go_at_call 31; refine (within_any _ _ _ _).mono ?_; rintro e w' ⟨rfl, rfl⟩) | (go_at_call 14; refine (ropen_ok id cur ap rv cl ex st tt un pa _ hs1 hs2 (hz.out)).mono ?_; rintro e w1 ⟨rfl, hb⟩; obtain ⟨d, os, rfl⟩ := regrow_of hb; clear hb) | (go_at_call 32; refine (state_b _ _ _ _ _ _ _ _ _ _ _ (by omega) (by omega) (by omega) (by omega) (by omega) (by omega) (by omega) (by omega)).mono ?_; rintro e w1 ⟨rfl, hb⟩; obtain ⟨d, os, rfl⟩ := regrow_of hb; clear hb))
  all_goals first
    | (exfalso; omega)
    | exact bodyPost_ret (v := .tuple #[au0, .int .i64 4]) (by simp [results, Try.results33, go_sem]) rfl ⟨rfl, below_re (((Below.refl _ _).alloc (Nat.le_refl _) _).alloc (by simp) _) (by simp; omega) _ _⟩
theorem rraise_e2a (id cur : ByteArray) (ap rv cl ex st tt un pa : Int) (n u : Int) (w : World) (hs1 : id.size ≤ maxLen) (hs2 : cur.size ≤ maxLen) (h : cko id cur ap rv cl ex st tt un pa = 0) (n1 : 1 ≤ n) (n2 : n ≤ 999999999999 - ap) (hn : u < un) :
    Calls Try.prog 33 #[au id cur ap rv cl ex st tt un pa, .int .i64 n, .int .i64 u] w fun e w' => e = .returned (.tuple #[au0, .int .i64 14]) ∧ Below w.heap.size w w' := by
  obtain ⟨h4, h5⟩ := cko_0 h
  obtain ⟨⟨a1, a2⟩, ⟨b1, b2⟩, ⟨c1, c2⟩, ⟨d1, d2⟩, e1, -, ⟨f1, f2, -⟩, -, -⟩ := chk_0 h4
  have h' : (cko id cur ap rv cl ex st tt un pa != 0) = false := by simp [h]
  have hz := Lib.hid h4
  clear h4 h h5
  have hq : inB n 1 (999999999999 - ap) = true := by simp [inB]; omega
  go_enter Try.func33, Try.ntmps33
  go_wp2_with (first | (go_at_call 40; refine (rcko_any id cur ap rv cl ex st tt un pa _ hs1 hs2).mono ?_; rintro e w1 ⟨rfl, hb⟩; obtain ⟨d, os, rfl⟩ := regrow_of hb; clear hb) | (go_at_call 31; refine (within_any _ _ _ _).mono ?_; rintro e w' ⟨rfl, rfl⟩) | (go_at_call 14; refine (ropen_ok id cur ap rv cl ex st tt un pa _ hs1 hs2 (hz.out)).mono ?_; rintro e w1 ⟨rfl, hb⟩; obtain ⟨d, os, rfl⟩ := regrow_of hb; clear hb) | (go_at_call 32; refine (state_b _ _ _ _ _ _ _ _ _ _ _ (by omega) (by omega) (by omega) (by omega) (by omega) (by omega) (by omega) (by omega)).mono ?_; rintro e w1 ⟨rfl, hb⟩; obtain ⟨d, os, rfl⟩ := regrow_of hb; clear hb))
  all_goals first
    | (exfalso; omega)
    | exact bodyPost_ret (v := .tuple #[au0, .int .i64 14]) (by simp [results, Try.results33, go_sem]) rfl ⟨rfl, below_re (((Below.refl _ _).alloc (Nat.le_refl _) _).alloc (by simp) _) (by simp; omega) _ _⟩
theorem rraise_e2b (id cur : ByteArray) (ap rv cl ex st tt un pa : Int) (n u : Int) (w : World) (hs1 : id.size ≤ maxLen) (hs2 : cur.size ≤ maxLen) (h : cko id cur ap rv cl ex st tt un pa = 0) (n1 : 1 ≤ n) (n2 : n ≤ 999999999999 - ap) (hn : un ≤ u) (hm : 1099511627776 < u) :
    Calls Try.prog 33 #[au id cur ap rv cl ex st tt un pa, .int .i64 n, .int .i64 u] w fun e w' => e = .returned (.tuple #[au0, .int .i64 14]) ∧ Below w.heap.size w w' := by
  obtain ⟨h4, h5⟩ := cko_0 h
  obtain ⟨⟨a1, a2⟩, ⟨b1, b2⟩, ⟨c1, c2⟩, ⟨d1, d2⟩, e1, -, ⟨f1, f2, -⟩, -, -⟩ := chk_0 h4
  have h' : (cko id cur ap rv cl ex st tt un pa != 0) = false := by simp [h]
  have hz := Lib.hid h4
  clear h4 h h5
  have hq : inB n 1 (999999999999 - ap) = true := by simp [inB]; omega
  go_enter Try.func33, Try.ntmps33
  go_wp2_with (first | (go_at_call 40; refine (rcko_any id cur ap rv cl ex st tt un pa _ hs1 hs2).mono ?_; rintro e w1 ⟨rfl, hb⟩; obtain ⟨d, os, rfl⟩ := regrow_of hb; clear hb) | (go_at_call 31; refine (within_any _ _ _ _).mono ?_; rintro e w' ⟨rfl, rfl⟩) | (go_at_call 14; refine (ropen_ok id cur ap rv cl ex st tt un pa _ hs1 hs2 (hz.out)).mono ?_; rintro e w1 ⟨rfl, hb⟩; obtain ⟨d, os, rfl⟩ := regrow_of hb; clear hb) | (go_at_call 32; refine (state_b _ _ _ _ _ _ _ _ _ _ _ (by omega) (by omega) (by omega) (by omega) (by omega) (by omega) (by omega) (by omega)).mono ?_; rintro e w1 ⟨rfl, hb⟩; obtain ⟨d, os, rfl⟩ := regrow_of hb; clear hb))
  all_goals first
    | (exfalso; omega)
    | exact bodyPost_ret (v := .tuple #[au0, .int .i64 14]) (by simp [results, Try.results33, go_sem]) rfl ⟨rfl, below_re (((Below.refl _ _).alloc (Nat.le_refl _) _).alloc (by simp) _) (by simp; omega) _ _⟩
theorem rraise_ok (id cur : ByteArray) (ap rv cl ex st tt un pa : Int) (n u : Int) (w : World) (hs1 : id.size ≤ maxLen) (hs2 : cur.size ≤ maxLen) (h : cko id cur ap rv cl ex st tt un pa = 0) (n1 : 1 ≤ n) (n2 : n ≤ 999999999999 - ap) (u1 : un ≤ u) (u2 : u ≤ 1099511627776) :
    Calls Try.prog 33 #[au id cur ap rv cl ex st tt un pa, .int .i64 n, .int .i64 u] w fun e w' => e = .returned (.tuple #[au id cur (ap + n) rv cl ex st tt u pa, .int .i64 0]) ∧ Below w.heap.size w w' := by
  obtain ⟨h4, h5⟩ := cko_0 h
  obtain ⟨⟨a1, a2⟩, ⟨b1, b2⟩, ⟨c1, c2⟩, ⟨d1, d2⟩, e1, -, ⟨f1, f2, -⟩, -, -⟩ := chk_0 h4
  have h' : (cko id cur ap rv cl ex st tt un pa != 0) = false := by simp [h]
  have hz := Lib.hid h4
  clear h4 h h5
  have hq : inB n 1 (999999999999 - ap) = true := by simp [inB]; omega
  go_enter Try.func33, Try.ntmps33
  go_wp2_with (first | (go_at_call 40; refine (rcko_any id cur ap rv cl ex st tt un pa _ hs1 hs2).mono ?_; rintro e w1 ⟨rfl, hb⟩; obtain ⟨d, os, rfl⟩ := regrow_of hb; clear hb) | (go_at_call 31; refine (within_any _ _ _ _).mono ?_; rintro e w' ⟨rfl, rfl⟩) | (go_at_call 14; refine (ropen_ok id cur ap rv cl ex st tt un pa _ hs1 hs2 (hz.out)).mono ?_; rintro e w1 ⟨rfl, hb⟩; obtain ⟨d, os, rfl⟩ := regrow_of hb; clear hb) | (go_at_call 32; refine (state_b _ _ _ _ _ _ _ _ _ _ _ (by omega) (by omega) (by omega) (by omega) (by omega) (by omega) (by omega) (by omega)).mono ?_; rintro e w1 ⟨rfl, hb⟩; obtain ⟨d, os, rfl⟩ := regrow_of hb; clear hb))
  all_goals first
    | (exfalso; omega)
    | exact bodyPost_ret (v := .tuple #[au id cur (ap + n) rv cl ex st tt u pa, .int .i64 0]) (by simp [results, Try.results33, go_sem]) rfl ⟨rfl, below_re (((Below.refl _ _).alloc (Nat.le_refl _) _).alloc (by simp) _) (by simp; omega) _ _⟩
theorem rrev_e0 (id cur : ByteArray) (ap rv cl ex st tt un pa : Int) (n : Int) (w : World) (hs1 : id.size ≤ maxLen) (hs2 : cur.size ≤ maxLen) (h : ¬ cko id cur ap rv cl ex st tt un pa = 0) :
    Calls Try.prog 34 #[au id cur ap rv cl ex st tt un pa, .int .i64 n] w fun e w' => e = .returned (.tuple #[au0, .int .i64 0, .int .i64 (cko id cur ap rv cl ex st tt un pa)]) ∧ Below w.heap.size w w' := by
  have h' : (cko id cur ap rv cl ex st tt un pa != 0) = true := by simp [h]
  clear h
  go_enter Try.func34, Try.ntmps34
  go_wp2_with (first | (go_at_call 40; refine (rcko_any id cur ap rv cl ex st tt un pa _ hs1 hs2).mono ?_; rintro e w1 ⟨rfl, hb⟩; obtain ⟨d, os, rfl⟩ := regrow_of hb; clear hb) | (go_at_call 31; refine (within_any _ _ _ _).mono ?_; rintro e w' ⟨rfl, rfl⟩) | (go_at_call 14; refine (ropen_ok id cur ap rv cl ex st tt un pa _ hs1 hs2 (hz.out)).mono ?_; rintro e w1 ⟨rfl, hb⟩; obtain ⟨d, os, rfl⟩ := regrow_of hb; clear hb) | (go_at_call 32; refine (state_b _ _ _ _ _ _ _ _ _ _ _ (by omega) (by omega) (by omega) (by omega) (by omega) (by omega) (by omega) (by omega)).mono ?_; rintro e w1 ⟨rfl, hb⟩; obtain ⟨d, os, rfl⟩ := regrow_of hb; clear hb))
  all_goals first
    | (exfalso; omega)
    | exact bodyPost_ret (v := .tuple #[au0, .int .i64 0, .int .i64 (cko id cur ap rv cl ex st tt un pa)]) (by simp [results, Try.results34, go_sem]) rfl ⟨rfl, below_re (((Below.refl _ _).alloc (Nat.le_refl _) _).alloc (by simp) _) (by simp; omega) _ _⟩
theorem rrev_e1a (id cur : ByteArray) (ap rv cl ex st tt un pa : Int) (n : Int) (w : World) (hs1 : id.size ≤ maxLen) (hs2 : cur.size ≤ maxLen) (h : cko id cur ap rv cl ex st tt un pa = 0) (hn : n < 0) :
    Calls Try.prog 34 #[au id cur ap rv cl ex st tt un pa, .int .i64 n] w fun e w' => e = .returned (.tuple #[au0, .int .i64 0, .int .i64 4]) ∧ Below w.heap.size w w' := by
  obtain ⟨h4, h5⟩ := cko_0 h
  obtain ⟨⟨a1, a2⟩, ⟨b1, b2⟩, ⟨c1, c2⟩, ⟨d1, d2⟩, e1, -, ⟨f1, f2, -⟩, -, -⟩ := chk_0 h4
  have h' : (cko id cur ap rv cl ex st tt un pa != 0) = false := by simp [h]
  have hz := Lib.hid h4
  clear h4 h h5
  have hq : inB n 0 (ap - rv - cl - ex) = false := by simp [inB]; omega
  go_enter Try.func34, Try.ntmps34
  go_wp2_with (first | (go_at_call 40; refine (rcko_any id cur ap rv cl ex st tt un pa _ hs1 hs2).mono ?_; rintro e w1 ⟨rfl, hb⟩; obtain ⟨d, os, rfl⟩ := regrow_of hb; clear hb) | (go_at_call 31; refine (within_any _ _ _ _).mono ?_; rintro e w' ⟨rfl, rfl⟩) | (go_at_call 14; refine (ropen_ok id cur ap rv cl ex st tt un pa _ hs1 hs2 (hz.out)).mono ?_; rintro e w1 ⟨rfl, hb⟩; obtain ⟨d, os, rfl⟩ := regrow_of hb; clear hb) | (go_at_call 32; refine (state_b _ _ _ _ _ _ _ _ _ _ _ (by omega) (by omega) (by omega) (by omega) (by omega) (by omega) (by omega) (by omega)).mono ?_; rintro e w1 ⟨rfl, hb⟩; obtain ⟨d, os, rfl⟩ := regrow_of hb; clear hb))
  all_goals first
    | (exfalso; omega)
    | exact bodyPost_ret (v := .tuple #[au0, .int .i64 0, .int .i64 4]) (by simp [results, Try.results34, go_sem]) rfl ⟨rfl, below_re (((Below.refl _ _).alloc (Nat.le_refl _) _).alloc (by simp) _) (by simp; omega) _ _⟩
theorem rrev_e1b (id cur : ByteArray) (ap rv cl ex st tt un pa : Int) (n : Int) (w : World) (hs1 : id.size ≤ maxLen) (hs2 : cur.size ≤ maxLen) (h : cko id cur ap rv cl ex st tt un pa = 0) (hn : 0 ≤ n) (hm : ap - rv - cl - ex < n) :
    Calls Try.prog 34 #[au id cur ap rv cl ex st tt un pa, .int .i64 n] w fun e w' => e = .returned (.tuple #[au0, .int .i64 0, .int .i64 4]) ∧ Below w.heap.size w w' := by
  obtain ⟨h4, h5⟩ := cko_0 h
  obtain ⟨⟨a1, a2⟩, ⟨b1, b2⟩, ⟨c1, c2⟩, ⟨d1, d2⟩, e1, -, ⟨f1, f2, -⟩, -, -⟩ := chk_0 h4
  have h' : (cko id cur ap rv cl ex st tt un pa != 0) = false := by simp [h]
  have hz := Lib.hid h4
  clear h4 h h5
  have hq : inB n 0 (ap - rv - cl - ex) = false := by simp [inB]; omega
  go_enter Try.func34, Try.ntmps34
  go_wp2_with (first | (go_at_call 40; refine (rcko_any id cur ap rv cl ex st tt un pa _ hs1 hs2).mono ?_; rintro e w1 ⟨rfl, hb⟩; obtain ⟨d, os, rfl⟩ := regrow_of hb; clear hb) | (go_at_call 31; refine (within_any _ _ _ _).mono ?_; rintro e w' ⟨rfl, rfl⟩) | (go_at_call 14; refine (ropen_ok id cur ap rv cl ex st tt un pa _ hs1 hs2 (hz.out)).mono ?_; rintro e w1 ⟨rfl, hb⟩; obtain ⟨d, os, rfl⟩ := regrow_of hb; clear hb) | (go_at_call 32; refine (state_b _ _ _ _ _ _ _ _ _ _ _ (by omega) (by omega) (by omega) (by omega) (by omega) (by omega) (by omega) (by omega)).mono ?_; rintro e w1 ⟨rfl, hb⟩; obtain ⟨d, os, rfl⟩ := regrow_of hb; clear hb))
  all_goals first
    | (exfalso; omega)
    | exact bodyPost_ret (v := .tuple #[au0, .int .i64 0, .int .i64 4]) (by simp [results, Try.results34, go_sem]) rfl ⟨rfl, below_re (((Below.refl _ _).alloc (Nat.le_refl _) _).alloc (by simp) _) (by simp; omega) _ _⟩
theorem rrev_ok1 (id cur : ByteArray) (ap rv cl ex st tt un pa : Int) (n : Int) (w : World) (hs1 : id.size ≤ maxLen) (hs2 : cur.size ≤ maxLen) (h : cko id cur ap rv cl ex st tt un pa = 0) (hn : 0 < n) (hm : n ≤ ap - rv - cl - ex) :
    Calls Try.prog 34 #[au id cur ap rv cl ex st tt un pa, .int .i64 n] w fun e w' => e = .returned (.tuple #[au id cur ap (rv + n) cl ex (sttI ap (rv + n) cl ex) tt un pa, .int .i64 n, .int .i64 0]) ∧ Below w.heap.size w w' := by
  obtain ⟨h4, h5⟩ := cko_0 h
  obtain ⟨⟨a1, a2⟩, ⟨b1, b2⟩, ⟨c1, c2⟩, ⟨d1, d2⟩, e1, -, ⟨f1, f2, -⟩, -, -⟩ := chk_0 h4
  have h' : (cko id cur ap rv cl ex st tt un pa != 0) = false := by simp [h]
  have hz := Lib.hid h4
  clear h4 h h5
  have hq : inB n 0 (ap - rv - cl - ex) = true := by simp [inB]; omega
  have hne : (n == 0) = false := by simp; omega
  go_enter Try.func34, Try.ntmps34
  go_wp2_with (first | (go_at_call 40; refine (rcko_any id cur ap rv cl ex st tt un pa _ hs1 hs2).mono ?_; rintro e w1 ⟨rfl, hb⟩; obtain ⟨d, os, rfl⟩ := regrow_of hb; clear hb) | (go_at_call 31; refine (within_any _ _ _ _).mono ?_; rintro e w' ⟨rfl, rfl⟩) | (go_at_call 14; refine (ropen_ok id cur ap rv cl ex st tt un pa _ hs1 hs2 (hz.out)).mono ?_; rintro e w1 ⟨rfl, hb⟩; obtain ⟨d, os, rfl⟩ := regrow_of hb; clear hb) | (go_at_call 32; refine (state_b _ _ _ _ _ _ _ _ _ _ _ (by omega) (by omega) (by omega) (by omega) (by omega) (by omega) (by omega) (by omega)).mono ?_; rintro e w1 ⟨rfl, hb⟩; obtain ⟨d, os, rfl⟩ := regrow_of hb; clear hb))
  all_goals first
    | (exfalso; omega)
    | exact bodyPost_ret (v := .tuple #[au id cur ap (rv + n) cl ex (sttI ap (rv + n) cl ex) tt un pa, .int .i64 n, .int .i64 0]) (by simp [results, Try.results34, go_sem]) rfl ⟨rfl, below_re (((Below.refl _ _).alloc (Nat.le_refl _) _).alloc (by simp) _) (by simp; omega) _ _⟩
theorem rrev_ok0 (id cur : ByteArray) (ap rv cl ex st tt un pa : Int)  (w : World) (hs1 : id.size ≤ maxLen) (hs2 : cur.size ≤ maxLen) (h : cko id cur ap rv cl ex st tt un pa = 0) :
    Calls Try.prog 34 #[au id cur ap rv cl ex st tt un pa, .int .i64 0] w fun e w' => e = .returned (.tuple #[au id cur ap (rv + (ap - rv - cl - ex)) cl ex (sttI ap (rv + (ap - rv - cl - ex)) cl ex) tt un pa, .int .i64 (ap - rv - cl - ex), .int .i64 0]) ∧ Below w.heap.size w w' := by
  obtain ⟨h4, h5⟩ := cko_0 h
  obtain ⟨⟨a1, a2⟩, ⟨b1, b2⟩, ⟨c1, c2⟩, ⟨d1, d2⟩, e1, -, ⟨f1, f2, -⟩, -, -⟩ := chk_0 h4
  have h' : (cko id cur ap rv cl ex st tt un pa != 0) = false := by simp [h]
  have hz := Lib.hid h4
  clear h4 h h5
  have hq : inB 0 0 (ap - rv - cl - ex) = true := by simp [inB]; omega
  go_enter Try.func34, Try.ntmps34
  go_wp2_with (first | (go_at_call 40; refine (rcko_any id cur ap rv cl ex st tt un pa _ hs1 hs2).mono ?_; rintro e w1 ⟨rfl, hb⟩; obtain ⟨d, os, rfl⟩ := regrow_of hb; clear hb) | (go_at_call 31; refine (within_any _ _ _ _).mono ?_; rintro e w' ⟨rfl, rfl⟩) | (go_at_call 14; refine (ropen_ok id cur ap rv cl ex st tt un pa _ hs1 hs2 (hz.out)).mono ?_; rintro e w1 ⟨rfl, hb⟩; obtain ⟨d, os, rfl⟩ := regrow_of hb; clear hb) | (go_at_call 32; refine (state_b _ _ _ _ _ _ _ _ _ _ _ (by omega) (by omega) (by omega) (by omega) (by omega) (by omega) (by omega) (by omega)).mono ?_; rintro e w1 ⟨rfl, hb⟩; obtain ⟨d, os, rfl⟩ := regrow_of hb; clear hb))
  all_goals first
    | (exfalso; omega)
    | exact bodyPost_ret (v := .tuple #[au id cur ap (rv + (ap - rv - cl - ex)) cl ex (sttI ap (rv + (ap - rv - cl - ex)) cl ex) tt un pa, .int .i64 (ap - rv - cl - ex), .int .i64 0]) (by simp [results, Try.results34, go_sem]) rfl ⟨rfl, below_re (((Below.refl _ _).alloc (Nat.le_refl _) _).alloc (by simp) _) (by simp; omega) _ _⟩
theorem rexp_e0 (id cur : ByteArray) (ap rv cl ex st tt un pa : Int) (n : Int) (w : World) (hs1 : id.size ≤ maxLen) (hs2 : cur.size ≤ maxLen) (h : ¬ cko id cur ap rv cl ex st tt un pa = 0) :
    Calls Try.prog 35 #[au id cur ap rv cl ex st tt un pa, .int .i64 n] w fun e w' => e = .returned (.tuple #[au0, .int .i64 0, .int .i64 (cko id cur ap rv cl ex st tt un pa)]) ∧ Below w.heap.size w w' := by
  have h' : (cko id cur ap rv cl ex st tt un pa != 0) = true := by simp [h]
  clear h
  go_enter Try.func35, Try.ntmps35
  go_wp2_with (first | (go_at_call 40; refine (rcko_any id cur ap rv cl ex st tt un pa _ hs1 hs2).mono ?_; rintro e w1 ⟨rfl, hb⟩; obtain ⟨d, os, rfl⟩ := regrow_of hb; clear hb) | (go_at_call 31; refine (within_any _ _ _ _).mono ?_; rintro e w' ⟨rfl, rfl⟩) | (go_at_call 14; refine (ropen_ok id cur ap rv cl ex st tt un pa _ hs1 hs2 (hz.out)).mono ?_; rintro e w1 ⟨rfl, hb⟩; obtain ⟨d, os, rfl⟩ := regrow_of hb; clear hb) | (go_at_call 32; refine (state_b _ _ _ _ _ _ _ _ _ _ _ (by omega) (by omega) (by omega) (by omega) (by omega) (by omega) (by omega) (by omega)).mono ?_; rintro e w1 ⟨rfl, hb⟩; obtain ⟨d, os, rfl⟩ := regrow_of hb; clear hb))
  all_goals first
    | (exfalso; omega)
    | exact bodyPost_ret (v := .tuple #[au0, .int .i64 0, .int .i64 (cko id cur ap rv cl ex st tt un pa)]) (by simp [results, Try.results35, go_sem]) rfl ⟨rfl, below_re (((Below.refl _ _).alloc (Nat.le_refl _) _).alloc (by simp) _) (by simp; omega) _ _⟩
theorem rexp_e1 (id cur : ByteArray) (ap rv cl ex st tt un pa : Int) (n : Int) (w : World) (hs1 : id.size ≤ maxLen) (hs2 : cur.size ≤ maxLen) (h : cko id cur ap rv cl ex st tt un pa = 0) (hn : n < un) :
    Calls Try.prog 35 #[au id cur ap rv cl ex st tt un pa, .int .i64 n] w fun e w' => e = .returned (.tuple #[au0, .int .i64 0, .int .i64 14]) ∧ Below w.heap.size w w' := by
  obtain ⟨h4, h5⟩ := cko_0 h
  obtain ⟨⟨a1, a2⟩, ⟨b1, b2⟩, ⟨c1, c2⟩, ⟨d1, d2⟩, e1, -, ⟨f1, f2, -⟩, -, -⟩ := chk_0 h4
  have h' : (cko id cur ap rv cl ex st tt un pa != 0) = false := by simp [h]
  have hz := Lib.hid h4
  clear h4 h h5
  go_enter Try.func35, Try.ntmps35
  go_wp2_with (first | (go_at_call 40; refine (rcko_any id cur ap rv cl ex st tt un pa _ hs1 hs2).mono ?_; rintro e w1 ⟨rfl, hb⟩; obtain ⟨d, os, rfl⟩ := regrow_of hb; clear hb) | (go_at_call 31; refine (within_any _ _ _ _).mono ?_; rintro e w' ⟨rfl, rfl⟩) | (go_at_call 14; refine (ropen_ok id cur ap rv cl ex st tt un pa _ hs1 hs2 (hz.out)).mono ?_; rintro e w1 ⟨rfl, hb⟩; obtain ⟨d, os, rfl⟩ := regrow_of hb; clear hb) | (go_at_call 32; refine (state_b _ _ _ _ _ _ _ _ _ _ _ (by omega) (by omega) (by omega) (by omega) (by omega) (by omega) (by omega) (by omega)).mono ?_; rintro e w1 ⟨rfl, hb⟩; obtain ⟨d, os, rfl⟩ := regrow_of hb; clear hb))
  all_goals first
    | (exfalso; omega)
    | exact bodyPost_ret (v := .tuple #[au0, .int .i64 0, .int .i64 14]) (by simp [results, Try.results35, go_sem]) rfl ⟨rfl, below_re (((Below.refl _ _).alloc (Nat.le_refl _) _).alloc (by simp) _) (by simp; omega) _ _⟩
theorem rexp_ok (id cur : ByteArray) (ap rv cl ex st tt un pa : Int) (n : Int) (w : World) (hs1 : id.size ≤ maxLen) (hs2 : cur.size ≤ maxLen) (h : cko id cur ap rv cl ex st tt un pa = 0) (hn : un ≤ n) :
    Calls Try.prog 35 #[au id cur ap rv cl ex st tt un pa, .int .i64 n] w fun e w' => e = .returned (.tuple #[au id cur ap rv cl (ex + (ap - rv - cl - ex)) (sttI ap rv cl (ex + (ap - rv - cl - ex))) tt un pa, .int .i64 (ap - rv - cl - ex), .int .i64 0]) ∧ Below w.heap.size w w' := by
  obtain ⟨h4, h5⟩ := cko_0 h
  obtain ⟨⟨a1, a2⟩, ⟨b1, b2⟩, ⟨c1, c2⟩, ⟨d1, d2⟩, e1, -, ⟨f1, f2, -⟩, -, -⟩ := chk_0 h4
  have h' : (cko id cur ap rv cl ex st tt un pa != 0) = false := by simp [h]
  have hz := Lib.hid h4
  clear h4 h h5
  go_enter Try.func35, Try.ntmps35
  go_wp2_with (first | (go_at_call 40; refine (rcko_any id cur ap rv cl ex st tt un pa _ hs1 hs2).mono ?_; rintro e w1 ⟨rfl, hb⟩; obtain ⟨d, os, rfl⟩ := regrow_of hb; clear hb) | (go_at_call 31; refine (within_any _ _ _ _).mono ?_; rintro e w' ⟨rfl, rfl⟩) | (go_at_call 14; refine (ropen_ok id cur ap rv cl ex st tt un pa _ hs1 hs2 (hz.out)).mono ?_; rintro e w1 ⟨rfl, hb⟩; obtain ⟨d, os, rfl⟩ := regrow_of hb; clear hb) | (go_at_call 32; refine (state_b _ _ _ _ _ _ _ _ _ _ _ (by omega) (by omega) (by omega) (by omega) (by omega) (by omega) (by omega) (by omega)).mono ?_; rintro e w1 ⟨rfl, hb⟩; obtain ⟨d, os, rfl⟩ := regrow_of hb; clear hb))
  all_goals first
    | (exfalso; omega)
    | exact bodyPost_ret (v := .tuple #[au id cur ap rv cl (ex + (ap - rv - cl - ex)) (sttI ap rv cl (ex + (ap - rv - cl - ex))) tt un pa, .int .i64 (ap - rv - cl - ex), .int .i64 0]) (by simp [results, Try.results35, go_sem]) rfl ⟨rfl, below_re (((Below.refl _ _).alloc (Nat.le_refl _) _).alloc (by simp) _) (by simp; omega) _ _⟩
end Go.Proofs.Ytlkbghdeingimaa
