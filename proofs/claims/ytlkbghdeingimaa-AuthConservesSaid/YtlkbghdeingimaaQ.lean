import Derived.Test.YtlkbghdeingimaaN
set_option linter.unusedVariables false
set_option linter.unusedSimpArgs false
namespace Go.Proofs.Ytlkbghdeingimaa
open Go.Sort Go.ChangeShapes Go.WideShapes Go.ChangeAt Go.RowKit
theorem raise_e0 (id cur : ByteArray) (ap rv cl ex st tt un pa : Int) (n u : Int) (w : World) (hs1 : id.size ≤ maxLen) (hs2 : cur.size ≤ maxLen) (h : ¬ cko id cur ap rv cl ex st tt un pa = 0) :
    Calls Try.prog 21 #[au id cur ap rv cl ex st tt un pa, .int .i64 n, .int .i64 u] w fun e w' => e = .returned (.tuple #[au0, .int .i64 (cko id cur ap rv cl ex st tt un pa)]) ∧ Below w.heap.size w w' := by
  have h' : (cko id cur ap rv cl ex st tt un pa != 0) = true := by simp [h]
  clear h
  go_enter Try.func21, Try.ntmps21
  go_wp2_with (first | (go_at_call 37; refine (cko_any id cur ap rv cl ex st tt un pa _ hs1 hs2).mono ?_; rintro e w1 ⟨rfl, hb⟩; obtain ⟨d, os, rfl⟩ := regrow_of hb; clear hb) | (go_at_call 26; refine (amt_any _ _ _).mono ?_; rintro e w' ⟨rfl, rfl⟩) | (go_at_call 20; refine (open_b _ _ _ _ _ _ _ _ _ _ _ (by omega) (by omega) (by omega) (by omega) (by omega) (by omega) (by omega) (by omega)).mono ?_; rintro e w1 ⟨rfl, hb⟩; obtain ⟨d, os, rfl⟩ := regrow_of hb; clear hb) | (go_at_call 28; refine (settled_x _ _ _ _ _ _ _ _ _ _ _ (by omega) (by omega) (by omega) (by omega) (by omega) (by omega) (by omega) (by omega)).mono ?_; rintro e w1 ⟨rfl, hb⟩; obtain ⟨d, os, rfl⟩ := regrow_of hb; clear hb))
  all_goals first
    | (exfalso; omega)
    | exact bodyPost_ret (v := .tuple #[au0, .int .i64 (cko id cur ap rv cl ex st tt un pa)]) (by simp [results, Try.results21, go_sem]) rfl ⟨rfl, below_re (((Below.refl _ _).alloc (Nat.le_refl _) _).alloc (by simp) _) (by simp; omega) _ _⟩
theorem raise_e1a (id cur : ByteArray) (ap rv cl ex st tt un pa : Int) (n u : Int) (w : World) (hs1 : id.size ≤ maxLen) (hs2 : cur.size ≤ maxLen) (h : cko id cur ap rv cl ex st tt un pa = 0) (hn : n < 1) :
    Calls Try.prog 21 #[au id cur ap rv cl ex st tt un pa, .int .i64 n, .int .i64 u] w fun e w' => e = .returned (.tuple #[au0, .int .i64 4]) ∧ Below w.heap.size w w' := by
  obtain ⟨h4, h5⟩ := cko_0 h
  obtain ⟨⟨a1, a2⟩, ⟨b1, b2⟩, ⟨c1, c2⟩, ⟨d1, d2⟩, e1, -, ⟨f1, f2, -⟩, -, -⟩ := chk_0 h4
  have h' : (cko id cur ap rv cl ex st tt un pa != 0) = false := by simp [h]
  have hz := Lib.hid h4
  clear h4 h h5
  go_enter Try.func21, Try.ntmps21
  go_wp2_with (first | (go_at_call 37; refine (cko_any id cur ap rv cl ex st tt un pa _ hs1 hs2).mono ?_; rintro e w1 ⟨rfl, hb⟩; obtain ⟨d, os, rfl⟩ := regrow_of hb; clear hb) | (go_at_call 26; refine (amt_any _ _ _).mono ?_; rintro e w' ⟨rfl, rfl⟩) | (go_at_call 20; refine (open_b _ _ _ _ _ _ _ _ _ _ _ (by omega) (by omega) (by omega) (by omega) (by omega) (by omega) (by omega) (by omega)).mono ?_; rintro e w1 ⟨rfl, hb⟩; obtain ⟨d, os, rfl⟩ := regrow_of hb; clear hb) | (go_at_call 28; refine (settled_x _ _ _ _ _ _ _ _ _ _ _ (by omega) (by omega) (by omega) (by omega) (by omega) (by omega) (by omega) (by omega)).mono ?_; rintro e w1 ⟨rfl, hb⟩; obtain ⟨d, os, rfl⟩ := regrow_of hb; clear hb))
  all_goals first
    | (exfalso; omega)
    | exact bodyPost_ret (v := .tuple #[au0, .int .i64 4]) (by simp [results, Try.results21, go_sem]) rfl ⟨rfl, below_re (((Below.refl _ _).alloc (Nat.le_refl _) _).alloc (by simp) _) (by simp; omega) _ _⟩
theorem raise_e1b (id cur : ByteArray) (ap rv cl ex st tt un pa : Int) (n u : Int) (w : World) (hs1 : id.size ≤ maxLen) (hs2 : cur.size ≤ maxLen) (h : cko id cur ap rv cl ex st tt un pa = 0) (hn : 1 ≤ n) (hm : 999999999999 - ap < n) :
    Calls Try.prog 21 #[au id cur ap rv cl ex st tt un pa, .int .i64 n, .int .i64 u] w fun e w' => e = .returned (.tuple #[au0, .int .i64 4]) ∧ Below w.heap.size w w' := by
  obtain ⟨h4, h5⟩ := cko_0 h
  obtain ⟨⟨a1, a2⟩, ⟨b1, b2⟩, ⟨c1, c2⟩, ⟨d1, d2⟩, e1, -, ⟨f1, f2, -⟩, -, -⟩ := chk_0 h4
  have h' : (cko id cur ap rv cl ex st tt un pa != 0) = false := by simp [h]
  have hz := Lib.hid h4
  clear h4 h h5
  go_enter Try.func21, Try.ntmps21
  go_wp2_with (first | (go_at_call 37; refine (cko_any id cur ap rv cl ex st tt un pa _ hs1 hs2).mono ?_; rintro e w1 ⟨rfl, hb⟩; obtain ⟨d, os, rfl⟩ := regrow_of hb; clear hb) | (go_at_call 26; refine (amt_any _ _ _).mono ?_; rintro e w' ⟨rfl, rfl⟩) | (go_at_call 20; refine (open_b _ _ _ _ _ _ _ _ _ _ _ (by omega) (by omega) (by omega) (by omega) (by omega) (by omega) (by omega) (by omega)).mono ?_; rintro e w1 ⟨rfl, hb⟩; obtain ⟨d, os, rfl⟩ := regrow_of hb; clear hb) | (go_at_call 28; refine (settled_x _ _ _ _ _ _ _ _ _ _ _ (by omega) (by omega) (by omega) (by omega) (by omega) (by omega) (by omega) (by omega)).mono ?_; rintro e w1 ⟨rfl, hb⟩; obtain ⟨d, os, rfl⟩ := regrow_of hb; clear hb))
  all_goals first
    | (exfalso; omega)
    | exact bodyPost_ret (v := .tuple #[au0, .int .i64 4]) (by simp [results, Try.results21, go_sem]) rfl ⟨rfl, below_re (((Below.refl _ _).alloc (Nat.le_refl _) _).alloc (by simp) _) (by simp; omega) _ _⟩
theorem raise_e1 (id cur : ByteArray) (ap rv cl ex st tt un pa : Int) (n u : Int) (w : World) (hs1 : id.size ≤ maxLen) (hs2 : cur.size ≤ maxLen) (h : cko id cur ap rv cl ex st tt un pa = 0) (hn : n < 1 ∨ 1 ≤ n ∧ 999999999999 - ap < n) :
    Calls Try.prog 21 #[au id cur ap rv cl ex st tt un pa, .int .i64 n, .int .i64 u] w fun e w' => e = .returned (.tuple #[au0, .int .i64 4]) ∧ Below w.heap.size w w' := by
  rcases hn with hn | ⟨hn, hm⟩
  · exact raise_e1a id cur ap rv cl ex st tt un pa n u w hs1 hs2 h hn
  · exact raise_e1b id cur ap rv cl ex st tt un pa n u w hs1 hs2 h hn hm
theorem raise_e2a (id cur : ByteArray) (ap rv cl ex st tt un pa : Int) (n u : Int) (w : World) (hs1 : id.size ≤ maxLen) (hs2 : cur.size ≤ maxLen) (h : cko id cur ap rv cl ex st tt un pa = 0) (n1 : 1 ≤ n) (n2 : n ≤ 999999999999 - ap) (hn : u < un) :
    Calls Try.prog 21 #[au id cur ap rv cl ex st tt un pa, .int .i64 n, .int .i64 u] w fun e w' => e = .returned (.tuple #[au0, .int .i64 14]) ∧ Below w.heap.size w w' := by
  obtain ⟨h4, h5⟩ := cko_0 h
  obtain ⟨⟨a1, a2⟩, ⟨b1, b2⟩, ⟨c1, c2⟩, ⟨d1, d2⟩, e1, -, ⟨f1, f2, -⟩, -, -⟩ := chk_0 h4
  have h' : (cko id cur ap rv cl ex st tt un pa != 0) = false := by simp [h]
  have hz := Lib.hid h4
  clear h4 h h5
  go_enter Try.func21, Try.ntmps21
  go_wp2_with (first | (go_at_call 37; refine (cko_any id cur ap rv cl ex st tt un pa _ hs1 hs2).mono ?_; rintro e w1 ⟨rfl, hb⟩; obtain ⟨d, os, rfl⟩ := regrow_of hb; clear hb) | (go_at_call 26; refine (amt_any _ _ _).mono ?_; rintro e w' ⟨rfl, rfl⟩) | (go_at_call 20; refine (open_b _ _ _ _ _ _ _ _ _ _ _ (by omega) (by omega) (by omega) (by omega) (by omega) (by omega) (by omega) (by omega)).mono ?_; rintro e w1 ⟨rfl, hb⟩; obtain ⟨d, os, rfl⟩ := regrow_of hb; clear hb) | (go_at_call 28; refine (settled_x _ _ _ _ _ _ _ _ _ _ _ (by omega) (by omega) (by omega) (by omega) (by omega) (by omega) (by omega) (by omega)).mono ?_; rintro e w1 ⟨rfl, hb⟩; obtain ⟨d, os, rfl⟩ := regrow_of hb; clear hb))
  all_goals first
    | (exfalso; omega)
    | exact bodyPost_ret (v := .tuple #[au0, .int .i64 14]) (by simp [results, Try.results21, go_sem]) rfl ⟨rfl, below_re (((Below.refl _ _).alloc (Nat.le_refl _) _).alloc (by simp) _) (by simp; omega) _ _⟩
theorem raise_e2b (id cur : ByteArray) (ap rv cl ex st tt un pa : Int) (n u : Int) (w : World) (hs1 : id.size ≤ maxLen) (hs2 : cur.size ≤ maxLen) (h : cko id cur ap rv cl ex st tt un pa = 0) (n1 : 1 ≤ n) (n2 : n ≤ 999999999999 - ap) (hn : un ≤ u) (hm : 1099511627776 < u) :
    Calls Try.prog 21 #[au id cur ap rv cl ex st tt un pa, .int .i64 n, .int .i64 u] w fun e w' => e = .returned (.tuple #[au0, .int .i64 14]) ∧ Below w.heap.size w w' := by
  obtain ⟨h4, h5⟩ := cko_0 h
  obtain ⟨⟨a1, a2⟩, ⟨b1, b2⟩, ⟨c1, c2⟩, ⟨d1, d2⟩, e1, -, ⟨f1, f2, -⟩, -, -⟩ := chk_0 h4
  have h' : (cko id cur ap rv cl ex st tt un pa != 0) = false := by simp [h]
  have hz := Lib.hid h4
  clear h4 h h5
  go_enter Try.func21, Try.ntmps21
  go_wp2_with (first | (go_at_call 37; refine (cko_any id cur ap rv cl ex st tt un pa _ hs1 hs2).mono ?_; rintro e w1 ⟨rfl, hb⟩; obtain ⟨d, os, rfl⟩ := regrow_of hb; clear hb) | (go_at_call 26; refine (amt_any _ _ _).mono ?_; rintro e w' ⟨rfl, rfl⟩) | (go_at_call 20; refine (open_b _ _ _ _ _ _ _ _ _ _ _ (by omega) (by omega) (by omega) (by omega) (by omega) (by omega) (by omega) (by omega)).mono ?_; rintro e w1 ⟨rfl, hb⟩; obtain ⟨d, os, rfl⟩ := regrow_of hb; clear hb) | (go_at_call 28; refine (settled_x _ _ _ _ _ _ _ _ _ _ _ (by omega) (by omega) (by omega) (by omega) (by omega) (by omega) (by omega) (by omega)).mono ?_; rintro e w1 ⟨rfl, hb⟩; obtain ⟨d, os, rfl⟩ := regrow_of hb; clear hb))
  all_goals first
    | (exfalso; omega)
    | exact bodyPost_ret (v := .tuple #[au0, .int .i64 14]) (by simp [results, Try.results21, go_sem]) rfl ⟨rfl, below_re (((Below.refl _ _).alloc (Nat.le_refl _) _).alloc (by simp) _) (by simp; omega) _ _⟩
theorem raise_ok (id cur : ByteArray) (ap rv cl ex st tt un pa : Int) (n u : Int) (w : World) (hs1 : id.size ≤ maxLen) (hs2 : cur.size ≤ maxLen) (h : cko id cur ap rv cl ex st tt un pa = 0) (n1 : 1 ≤ n) (n2 : n ≤ 999999999999 - ap) (u1 : un ≤ u) (u2 : u ≤ 1099511627776) :
    Calls Try.prog 21 #[au id cur ap rv cl ex st tt un pa, .int .i64 n, .int .i64 u] w fun e w' => e = .returned (.tuple #[au id cur (ap + n) rv cl ex st tt u pa, .int .i64 0]) ∧ Below w.heap.size w w' := by
  obtain ⟨h4, h5⟩ := cko_0 h
  obtain ⟨⟨a1, a2⟩, ⟨b1, b2⟩, ⟨c1, c2⟩, ⟨d1, d2⟩, e1, -, ⟨f1, f2, -⟩, -, -⟩ := chk_0 h4
  have h' : (cko id cur ap rv cl ex st tt un pa != 0) = false := by simp [h]
  have hz := Lib.hid h4
  clear h4 h h5
  go_enter Try.func21, Try.ntmps21
  go_wp2_with (first | (go_at_call 37; refine (cko_any id cur ap rv cl ex st tt un pa _ hs1 hs2).mono ?_; rintro e w1 ⟨rfl, hb⟩; obtain ⟨d, os, rfl⟩ := regrow_of hb; clear hb) | (go_at_call 26; refine (amt_any _ _ _).mono ?_; rintro e w' ⟨rfl, rfl⟩) | (go_at_call 20; refine (open_b _ _ _ _ _ _ _ _ _ _ _ (by omega) (by omega) (by omega) (by omega) (by omega) (by omega) (by omega) (by omega)).mono ?_; rintro e w1 ⟨rfl, hb⟩; obtain ⟨d, os, rfl⟩ := regrow_of hb; clear hb) | (go_at_call 28; refine (settled_x _ _ _ _ _ _ _ _ _ _ _ (by omega) (by omega) (by omega) (by omega) (by omega) (by omega) (by omega) (by omega)).mono ?_; rintro e w1 ⟨rfl, hb⟩; obtain ⟨d, os, rfl⟩ := regrow_of hb; clear hb))
  all_goals first
    | (exfalso; omega)
    | exact bodyPost_ret (v := .tuple #[au id cur (ap + n) rv cl ex st tt u pa, .int .i64 0]) (by simp [results, Try.results21, go_sem]) rfl ⟨rfl, below_re (((Below.refl _ _).alloc (Nat.le_refl _) _).alloc (by simp) _) (by simp; omega) _ _⟩
theorem rev_e0 (id cur : ByteArray) (ap rv cl ex st tt un pa : Int) (n : Int) (w : World) (hs1 : id.size ≤ maxLen) (hs2 : cur.size ≤ maxLen) (h : ¬ cko id cur ap rv cl ex st tt un pa = 0) :
    Calls Try.prog 22 #[au id cur ap rv cl ex st tt un pa, .int .i64 n] w fun e w' => e = .returned (.tuple #[au0, .int .i64 0, .int .i64 (cko id cur ap rv cl ex st tt un pa)]) ∧ Below w.heap.size w w' := by
  have h' : (cko id cur ap rv cl ex st tt un pa != 0) = true := by simp [h]
  clear h
  go_enter Try.func22, Try.ntmps22
  go_wp2_with (first | (go_at_call 37; refine (cko_any id cur ap rv cl ex st tt un pa _ hs1 hs2).mono ?_; rintro e w1 ⟨rfl, hb⟩; obtain ⟨d, os, rfl⟩ := regrow_of hb; clear hb) | (go_at_call 26; refine (amt_any _ _ _).mono ?_; rintro e w' ⟨rfl, rfl⟩) | (go_at_call 20; refine (open_b _ _ _ _ _ _ _ _ _ _ _ (by omega) (by omega) (by omega) (by omega) (by omega) (by omega) (by omega) (by omega)).mono ?_; rintro e w1 ⟨rfl, hb⟩; obtain ⟨d, os, rfl⟩ := regrow_of hb; clear hb) | (go_at_call 28; refine (settled_x _ _ _ _ _ _ _ _ _ _ _ (by omega) (by omega) (by omega) (by omega) (by omega) (by omega) (by omega) (by omega)).mono ?_; rintro e w1 ⟨rfl, hb⟩; obtain ⟨d, os, rfl⟩ := regrow_of hb; clear hb))
  all_goals first
    | (exfalso; omega)
    | exact bodyPost_ret (v := .tuple #[au0, .int .i64 0, .int .i64 (cko id cur ap rv cl ex st tt un pa)]) (by simp [results, Try.results22, go_sem]) rfl ⟨rfl, below_re (((Below.refl _ _).alloc (Nat.le_refl _) _).alloc (by simp) _) (by simp; omega) _ _⟩
theorem rev_e1a (id cur : ByteArray) (ap rv cl ex st tt un pa : Int) (n : Int) (w : World) (hs1 : id.size ≤ maxLen) (hs2 : cur.size ≤ maxLen) (h : cko id cur ap rv cl ex st tt un pa = 0) (hn : n < 0) :
    Calls Try.prog 22 #[au id cur ap rv cl ex st tt un pa, .int .i64 n] w fun e w' => e = .returned (.tuple #[au0, .int .i64 0, .int .i64 4]) ∧ Below w.heap.size w w' := by
  obtain ⟨h4, h5⟩ := cko_0 h
  obtain ⟨⟨a1, a2⟩, ⟨b1, b2⟩, ⟨c1, c2⟩, ⟨d1, d2⟩, e1, -, ⟨f1, f2, -⟩, -, -⟩ := chk_0 h4
  have h' : (cko id cur ap rv cl ex st tt un pa != 0) = false := by simp [h]
  have hz := Lib.hid h4
  clear h4 h h5
  go_enter Try.func22, Try.ntmps22
  go_wp2_with (first | (go_at_call 37; refine (cko_any id cur ap rv cl ex st tt un pa _ hs1 hs2).mono ?_; rintro e w1 ⟨rfl, hb⟩; obtain ⟨d, os, rfl⟩ := regrow_of hb; clear hb) | (go_at_call 26; refine (amt_any _ _ _).mono ?_; rintro e w' ⟨rfl, rfl⟩) | (go_at_call 20; refine (open_b _ _ _ _ _ _ _ _ _ _ _ (by omega) (by omega) (by omega) (by omega) (by omega) (by omega) (by omega) (by omega)).mono ?_; rintro e w1 ⟨rfl, hb⟩; obtain ⟨d, os, rfl⟩ := regrow_of hb; clear hb) | (go_at_call 28; refine (settled_x _ _ _ _ _ _ _ _ _ _ _ (by omega) (by omega) (by omega) (by omega) (by omega) (by omega) (by omega) (by omega)).mono ?_; rintro e w1 ⟨rfl, hb⟩; obtain ⟨d, os, rfl⟩ := regrow_of hb; clear hb))
  all_goals first
    | (exfalso; omega)
    | exact bodyPost_ret (v := .tuple #[au0, .int .i64 0, .int .i64 4]) (by simp [results, Try.results22, go_sem]) rfl ⟨rfl, below_re (((Below.refl _ _).alloc (Nat.le_refl _) _).alloc (by simp) _) (by simp; omega) _ _⟩
theorem rev_e1b (id cur : ByteArray) (ap rv cl ex st tt un pa : Int) (n : Int) (w : World) (hs1 : id.size ≤ maxLen) (hs2 : cur.size ≤ maxLen) (h : cko id cur ap rv cl ex st tt un pa = 0) (hn : 0 ≤ n) (hm : ap - rv - cl - ex < n) :
    Calls Try.prog 22 #[au id cur ap rv cl ex st tt un pa, .int .i64 n] w fun e w' => e = .returned (.tuple #[au0, .int .i64 0, .int .i64 4]) ∧ Below w.heap.size w w' := by
  obtain ⟨h4, h5⟩ := cko_0 h
  obtain ⟨⟨a1, a2⟩, ⟨b1, b2⟩, ⟨c1, c2⟩, ⟨d1, d2⟩, e1, -, ⟨f1, f2, -⟩, -, -⟩ := chk_0 h4
  have h' : (cko id cur ap rv cl ex st tt un pa != 0) = false := by simp [h]
  have hz := Lib.hid h4
  clear h4 h h5
  go_enter Try.func22, Try.ntmps22
  go_wp2_with (first | (go_at_call 37; refine (cko_any id cur ap rv cl ex st tt un pa _ hs1 hs2).mono ?_; rintro e w1 ⟨rfl, hb⟩; obtain ⟨d, os, rfl⟩ := regrow_of hb; clear hb) | (go_at_call 26; refine (amt_any _ _ _).mono ?_; rintro e w' ⟨rfl, rfl⟩) | (go_at_call 20; refine (open_b _ _ _ _ _ _ _ _ _ _ _ (by omega) (by omega) (by omega) (by omega) (by omega) (by omega) (by omega) (by omega)).mono ?_; rintro e w1 ⟨rfl, hb⟩; obtain ⟨d, os, rfl⟩ := regrow_of hb; clear hb) | (go_at_call 28; refine (settled_x _ _ _ _ _ _ _ _ _ _ _ (by omega) (by omega) (by omega) (by omega) (by omega) (by omega) (by omega) (by omega)).mono ?_; rintro e w1 ⟨rfl, hb⟩; obtain ⟨d, os, rfl⟩ := regrow_of hb; clear hb))
  all_goals first
    | (exfalso; omega)
    | exact bodyPost_ret (v := .tuple #[au0, .int .i64 0, .int .i64 4]) (by simp [results, Try.results22, go_sem]) rfl ⟨rfl, below_re (((Below.refl _ _).alloc (Nat.le_refl _) _).alloc (by simp) _) (by simp; omega) _ _⟩
theorem rev_ok1 (id cur : ByteArray) (ap rv cl ex st tt un pa : Int) (n : Int) (w : World) (hs1 : id.size ≤ maxLen) (hs2 : cur.size ≤ maxLen) (h : cko id cur ap rv cl ex st tt un pa = 0) (hn : 0 < n) (hm : n ≤ ap - rv - cl - ex) :
    Calls Try.prog 22 #[au id cur ap rv cl ex st tt un pa, .int .i64 n] w fun e w' => e = .returned (.tuple #[au id cur ap (rv + n) cl ex (sttI ap (rv + n) cl ex) tt un pa, .int .i64 n, .int .i64 0]) ∧ Below w.heap.size w w' := by
  obtain ⟨h4, h5⟩ := cko_0 h
  obtain ⟨⟨a1, a2⟩, ⟨b1, b2⟩, ⟨c1, c2⟩, ⟨d1, d2⟩, e1, -, ⟨f1, f2, -⟩, -, -⟩ := chk_0 h4
  have h' : (cko id cur ap rv cl ex st tt un pa != 0) = false := by simp [h]
  have hz := Lib.hid h4
  clear h4 h h5
  have hne : (n == 0) = false := by simp; omega
  go_enter Try.func22, Try.ntmps22
  go_wp2_with (first | (go_at_call 37; refine (cko_any id cur ap rv cl ex st tt un pa _ hs1 hs2).mono ?_; rintro e w1 ⟨rfl, hb⟩; obtain ⟨d, os, rfl⟩ := regrow_of hb; clear hb) | (go_at_call 26; refine (amt_any _ _ _).mono ?_; rintro e w' ⟨rfl, rfl⟩) | (go_at_call 20; refine (open_b _ _ _ _ _ _ _ _ _ _ _ (by omega) (by omega) (by omega) (by omega) (by omega) (by omega) (by omega) (by omega)).mono ?_; rintro e w1 ⟨rfl, hb⟩; obtain ⟨d, os, rfl⟩ := regrow_of hb; clear hb) | (go_at_call 28; refine (settled_x _ _ _ _ _ _ _ _ _ _ _ (by omega) (by omega) (by omega) (by omega) (by omega) (by omega) (by omega) (by omega)).mono ?_; rintro e w1 ⟨rfl, hb⟩; obtain ⟨d, os, rfl⟩ := regrow_of hb; clear hb))
  all_goals first
    | (exfalso; omega)
    | exact bodyPost_ret (v := .tuple #[au id cur ap (rv + n) cl ex (sttI ap (rv + n) cl ex) tt un pa, .int .i64 n, .int .i64 0]) (by simp [results, Try.results22, go_sem]) rfl ⟨rfl, below_re (((Below.refl _ _).alloc (Nat.le_refl _) _).alloc (by simp) _) (by simp; omega) _ _⟩
theorem rev_ok0 (id cur : ByteArray) (ap rv cl ex st tt un pa : Int)  (w : World) (hs1 : id.size ≤ maxLen) (hs2 : cur.size ≤ maxLen) (h : cko id cur ap rv cl ex st tt un pa = 0) :
    Calls Try.prog 22 #[au id cur ap rv cl ex st tt un pa, .int .i64 0] w fun e w' => e = .returned (.tuple #[au id cur ap (rv + (ap - rv - cl - ex)) cl ex (sttI ap (rv + (ap - rv - cl - ex)) cl ex) tt un pa, .int .i64 (ap - rv - cl - ex), .int .i64 0]) ∧ Below w.heap.size w w' := by
  obtain ⟨h4, h5⟩ := cko_0 h
  obtain ⟨⟨a1, a2⟩, ⟨b1, b2⟩, ⟨c1, c2⟩, ⟨d1, d2⟩, e1, -, ⟨f1, f2, -⟩, -, -⟩ := chk_0 h4
  have h' : (cko id cur ap rv cl ex st tt un pa != 0) = false := by simp [h]
  have hz := Lib.hid h4
  clear h4 h h5
  go_enter Try.func22, Try.ntmps22
  go_wp2_with (first | (go_at_call 37; refine (cko_any id cur ap rv cl ex st tt un pa _ hs1 hs2).mono ?_; rintro e w1 ⟨rfl, hb⟩; obtain ⟨d, os, rfl⟩ := regrow_of hb; clear hb) | (go_at_call 26; refine (amt_any _ _ _).mono ?_; rintro e w' ⟨rfl, rfl⟩) | (go_at_call 20; refine (open_b _ _ _ _ _ _ _ _ _ _ _ (by omega) (by omega) (by omega) (by omega) (by omega) (by omega) (by omega) (by omega)).mono ?_; rintro e w1 ⟨rfl, hb⟩; obtain ⟨d, os, rfl⟩ := regrow_of hb; clear hb) | (go_at_call 28; refine (settled_x _ _ _ _ _ _ _ _ _ _ _ (by omega) (by omega) (by omega) (by omega) (by omega) (by omega) (by omega) (by omega)).mono ?_; rintro e w1 ⟨rfl, hb⟩; obtain ⟨d, os, rfl⟩ := regrow_of hb; clear hb))
  all_goals first
    | (exfalso; omega)
    | exact bodyPost_ret (v := .tuple #[au id cur ap (rv + (ap - rv - cl - ex)) cl ex (sttI ap (rv + (ap - rv - cl - ex)) cl ex) tt un pa, .int .i64 (ap - rv - cl - ex), .int .i64 0]) (by simp [results, Try.results22, go_sem]) rfl ⟨rfl, below_re (((Below.refl _ _).alloc (Nat.le_refl _) _).alloc (by simp) _) (by simp; omega) _ _⟩
theorem exp_e0 (id cur : ByteArray) (ap rv cl ex st tt un pa : Int) (n : Int) (w : World) (hs1 : id.size ≤ maxLen) (hs2 : cur.size ≤ maxLen) (h : ¬ cko id cur ap rv cl ex st tt un pa = 0) :
    Calls Try.prog 23 #[au id cur ap rv cl ex st tt un pa, .int .i64 n] w fun e w' => e = .returned (.tuple #[au0, .int .i64 0, .int .i64 (cko id cur ap rv cl ex st tt un pa)]) ∧ Below w.heap.size w w' := by
  have h' : (cko id cur ap rv cl ex st tt un pa != 0) = true := by simp [h]
  clear h
  go_enter Try.func23, Try.ntmps23
  go_wp2_with (first | (go_at_call 37; refine (cko_any id cur ap rv cl ex st tt un pa _ hs1 hs2).mono ?_; rintro e w1 ⟨rfl, hb⟩; obtain ⟨d, os, rfl⟩ := regrow_of hb; clear hb) | (go_at_call 26; refine (amt_any _ _ _).mono ?_; rintro e w' ⟨rfl, rfl⟩) | (go_at_call 20; refine (open_b _ _ _ _ _ _ _ _ _ _ _ (by omega) (by omega) (by omega) (by omega) (by omega) (by omega) (by omega) (by omega)).mono ?_; rintro e w1 ⟨rfl, hb⟩; obtain ⟨d, os, rfl⟩ := regrow_of hb; clear hb) | (go_at_call 28; refine (settled_x _ _ _ _ _ _ _ _ _ _ _ (by omega) (by omega) (by omega) (by omega) (by omega) (by omega) (by omega) (by omega)).mono ?_; rintro e w1 ⟨rfl, hb⟩; obtain ⟨d, os, rfl⟩ := regrow_of hb; clear hb))
  all_goals first
    | (exfalso; omega)
    | exact bodyPost_ret (v := .tuple #[au0, .int .i64 0, .int .i64 (cko id cur ap rv cl ex st tt un pa)]) (by simp [results, Try.results23, go_sem]) rfl ⟨rfl, below_re (((Below.refl _ _).alloc (Nat.le_refl _) _).alloc (by simp) _) (by simp; omega) _ _⟩
theorem exp_e1 (id cur : ByteArray) (ap rv cl ex st tt un pa : Int) (n : Int) (w : World) (hs1 : id.size ≤ maxLen) (hs2 : cur.size ≤ maxLen) (h : cko id cur ap rv cl ex st tt un pa = 0) (hn : n < un) :
    Calls Try.prog 23 #[au id cur ap rv cl ex st tt un pa, .int .i64 n] w fun e w' => e = .returned (.tuple #[au0, .int .i64 0, .int .i64 14]) ∧ Below w.heap.size w w' := by
  obtain ⟨h4, h5⟩ := cko_0 h
  obtain ⟨⟨a1, a2⟩, ⟨b1, b2⟩, ⟨c1, c2⟩, ⟨d1, d2⟩, e1, -, ⟨f1, f2, -⟩, -, -⟩ := chk_0 h4
  have h' : (cko id cur ap rv cl ex st tt un pa != 0) = false := by simp [h]
  have hz := Lib.hid h4
  clear h4 h h5
  go_enter Try.func23, Try.ntmps23
  go_wp2_with (first | (go_at_call 37; refine (cko_any id cur ap rv cl ex st tt un pa _ hs1 hs2).mono ?_; rintro e w1 ⟨rfl, hb⟩; obtain ⟨d, os, rfl⟩ := regrow_of hb; clear hb) | (go_at_call 26; refine (amt_any _ _ _).mono ?_; rintro e w' ⟨rfl, rfl⟩) | (go_at_call 20; refine (open_b _ _ _ _ _ _ _ _ _ _ _ (by omega) (by omega) (by omega) (by omega) (by omega) (by omega) (by omega) (by omega)).mono ?_; rintro e w1 ⟨rfl, hb⟩; obtain ⟨d, os, rfl⟩ := regrow_of hb; clear hb) | (go_at_call 28; refine (settled_x _ _ _ _ _ _ _ _ _ _ _ (by omega) (by omega) (by omega) (by omega) (by omega) (by omega) (by omega) (by omega)).mono ?_; rintro e w1 ⟨rfl, hb⟩; obtain ⟨d, os, rfl⟩ := regrow_of hb; clear hb))
  all_goals first
    | (exfalso; omega)
    | exact bodyPost_ret (v := .tuple #[au0, .int .i64 0, .int .i64 14]) (by simp [results, Try.results23, go_sem]) rfl ⟨rfl, below_re (((Below.refl _ _).alloc (Nat.le_refl _) _).alloc (by simp) _) (by simp; omega) _ _⟩
theorem exp_ok (id cur : ByteArray) (ap rv cl ex st tt un pa : Int) (n : Int) (w : World) (hs1 : id.size ≤ maxLen) (hs2 : cur.size ≤ maxLen) (h : cko id cur ap rv cl ex st tt un pa = 0) (hn : un ≤ n) :
    Calls Try.prog 23 #[au id cur ap rv cl ex st tt un pa, .int .i64 n] w fun e w' => e = .returned (.tuple #[au id cur ap rv cl (ex + (ap - rv - cl - ex)) (sttI ap rv cl (ex + (ap - rv - cl - ex))) tt un pa, .int .i64 (ap - rv - cl - ex), .int .i64 0]) ∧ Below w.heap.size w w' := by
  obtain ⟨h4, h5⟩ := cko_0 h
  obtain ⟨⟨a1, a2⟩, ⟨b1, b2⟩, ⟨c1, c2⟩, ⟨d1, d2⟩, e1, -, ⟨f1, f2, -⟩, -, -⟩ := chk_0 h4
  have h' : (cko id cur ap rv cl ex st tt un pa != 0) = false := by simp [h]
  have hz := Lib.hid h4
  clear h4 h h5
  go_enter Try.func23, Try.ntmps23
  go_wp2_with (first | (go_at_call 37; refine (cko_any id cur ap rv cl ex st tt un pa _ hs1 hs2).mono ?_; rintro e w1 ⟨rfl, hb⟩; obtain ⟨d, os, rfl⟩ := regrow_of hb; clear hb) | (go_at_call 26; refine (amt_any _ _ _).mono ?_; rintro e w' ⟨rfl, rfl⟩) | (go_at_call 20; refine (open_b _ _ _ _ _ _ _ _ _ _ _ (by omega) (by omega) (by omega) (by omega) (by omega) (by omega) (by omega) (by omega)).mono ?_; rintro e w1 ⟨rfl, hb⟩; obtain ⟨d, os, rfl⟩ := regrow_of hb; clear hb) | (go_at_call 28; refine (settled_x _ _ _ _ _ _ _ _ _ _ _ (by omega) (by omega) (by omega) (by omega) (by omega) (by omega) (by omega) (by omega)).mono ?_; rintro e w1 ⟨rfl, hb⟩; obtain ⟨d, os, rfl⟩ := regrow_of hb; clear hb))
  all_goals first
    | (exfalso; omega)
    | exact bodyPost_ret (v := .tuple #[au id cur ap rv cl (ex + (ap - rv - cl - ex)) (sttI ap rv cl (ex + (ap - rv - cl - ex))) tt un pa, .int .i64 (ap - rv - cl - ex), .int .i64 0]) (by simp [results, Try.results23, go_sem]) rfl ⟨rfl, below_re (((Below.refl _ _).alloc (Nat.le_refl _) _).alloc (by simp) _) (by simp; omega) _ _⟩
end Go.Proofs.Ytlkbghdeingimaa
