import Derived.Test.YtlkbghdeingimaaM
set_option linter.unusedVariables false
set_option linter.unusedSimpArgs false
namespace Go.Proofs.Ytlkbghdeingimaa
open Go.Sort Go.ChangeShapes Go.WideShapes Go.ChangeAt Go.RowKit
theorem clear_f2 (id cur : ByteArray) (ap rv cl ex st tt un pa n : Int) (w : World) (hs1 : id.size ≤ maxLen) (hs2 : cur.size ≤ maxLen) (hok : clrE id cur ap rv cl ex st tt un pa n = 0) (hle : ¬ n ≤ ap - rv - cl - ex) :
    Calls Try.prog 19 #[au id cur ap rv cl ex st tt un pa, .int .i64 n, .bool false] w fun e w' => e = .returned (.tuple #[au id cur ap rv (cl + (ap - rv - cl - ex)) ex (sttI ap rv (cl + (ap - rv - cl - ex)) ex) tt un (pa + 1), .int .i64 (ap - rv - cl - ex), .int .i64 0, .int .i64 0]) ∧ Below w.heap.size w w' := by
  obtain ⟨h, h2, h3⟩ := clear_pre hok
  obtain ⟨h4, h5⟩ := cko_0 h
  obtain ⟨⟨a1, a2⟩, ⟨b1, b2⟩, ⟨c1, c2⟩, ⟨d1, d2⟩, e1, -, ⟨f1, f2, -⟩, -, -⟩ := chk_0 h4
  obtain ⟨n1, n2⟩ := amtB_le h2
  have h' : (cko id cur ap rv cl ex st tt un pa != 0) = false := by simp [h]
  clear h4 h hok h5
  go_enter Try.func19, Try.ntmps19
  go_wp2_with (first | (go_at_call 37; refine (cko_any id cur ap rv cl ex st tt un pa _ hs1 hs2).mono ?_; rintro e w1 ⟨rfl, hb⟩; obtain ⟨d, os, rfl⟩ := regrow_of hb; clear hb) | (go_at_call 26; refine (amt_any _ _ _).mono ?_; rintro e w' ⟨rfl, rfl⟩) | (go_at_call 20; refine (open_b _ _ _ _ _ _ _ _ _ _ _ (by omega) (by omega) (by omega) (by omega) (by omega) (by omega) (by omega) (by omega)).mono ?_; rintro e w1 ⟨rfl, hb⟩; obtain ⟨d, os, rfl⟩ := regrow_of hb; clear hb) | (go_at_call 28; refine (settled_x id cur ap rv (cl + (ap - rv - cl - ex)) ex st tt un (pa + 1) _ (by omega) (by omega) (by omega) (by omega) (by omega) (by omega) (by omega) (by omega)).mono ?_; rintro e w1 ⟨rfl, hb⟩; obtain ⟨d, os, rfl⟩ := regrow_of hb; clear hb))
  all_goals first
    | (exfalso; omega)
    | exact bodyPost_ret (v := .tuple #[au id cur ap rv (cl + (ap - rv - cl - ex)) ex (sttI ap rv (cl + (ap - rv - cl - ex)) ex) tt un (pa + 1), .int .i64 (ap - rv - cl - ex), .int .i64 0, .int .i64 0]) (by simp [results, Try.results19, go_sem]) rfl ⟨rfl, below_re (((Below.refl _ _).alloc (Nat.le_refl _) _).alloc (by simp) _) (by simp; omega) _ _⟩
theorem clear_t1 (id cur : ByteArray) (ap rv cl ex st tt un pa n : Int) (w : World) (hs1 : id.size ≤ maxLen) (hs2 : cur.size ≤ maxLen) (hok : clrE id cur ap rv cl ex st tt un pa n = 0) (hle : n ≤ ap - rv - cl - ex) :
    Calls Try.prog 19 #[au id cur ap rv cl ex st tt un pa, .int .i64 n, .bool true] w fun e w' => e = .returned (.tuple #[au id cur ap (rv + (ap - rv - (cl + n) - ex)) (cl + n) ex (sttI ap (rv + (ap - rv - (cl + n) - ex)) (cl + n) ex) tt un (pa + 1), .int .i64 n, .int .i64 (ap - rv - (cl + n) - ex), .int .i64 0]) ∧ Below w.heap.size w w' := by
  obtain ⟨h, h2, h3⟩ := clear_pre hok
  obtain ⟨h4, h5⟩ := cko_0 h
  obtain ⟨⟨a1, a2⟩, ⟨b1, b2⟩, ⟨c1, c2⟩, ⟨d1, d2⟩, e1, -, ⟨f1, f2, -⟩, -, -⟩ := chk_0 h4
  obtain ⟨n1, n2⟩ := amtB_le h2
  have h' : (cko id cur ap rv cl ex st tt un pa != 0) = false := by simp [h]
  clear h4 h hok h5
  go_enter Try.func19, Try.ntmps19
  go_wp2_with (first | (go_at_call 37; refine (cko_any id cur ap rv cl ex st tt un pa _ hs1 hs2).mono ?_; rintro e w1 ⟨rfl, hb⟩; obtain ⟨d, os, rfl⟩ := regrow_of hb; clear hb) | (go_at_call 26; refine (amt_any _ _ _).mono ?_; rintro e w' ⟨rfl, rfl⟩) | (go_at_call 20; refine (open_b _ _ _ _ _ _ _ _ _ _ _ (by omega) (by omega) (by omega) (by omega) (by omega) (by omega) (by omega) (by omega)).mono ?_; rintro e w1 ⟨rfl, hb⟩; obtain ⟨d, os, rfl⟩ := regrow_of hb; clear hb) | (go_at_call 28; refine (settled_x id cur ap (rv + (ap - rv - (cl + n) - ex)) (cl + n) ex st tt un (pa + 1) _ (by omega) (by omega) (by omega) (by omega) (by omega) (by omega) (by omega) (by omega)).mono ?_; rintro e w1 ⟨rfl, hb⟩; obtain ⟨d, os, rfl⟩ := regrow_of hb; clear hb))
  all_goals first
    | (exfalso; omega)
    | exact bodyPost_ret (v := .tuple #[au id cur ap (rv + (ap - rv - (cl + n) - ex)) (cl + n) ex (sttI ap (rv + (ap - rv - (cl + n) - ex)) (cl + n) ex) tt un (pa + 1), .int .i64 n, .int .i64 (ap - rv - (cl + n) - ex), .int .i64 0]) (by simp [results, Try.results19, go_sem]) rfl ⟨rfl, below_re (((Below.refl _ _).alloc (Nat.le_refl _) _).alloc (by simp) _) (by simp; omega) _ _⟩
theorem clear_t2 (id cur : ByteArray) (ap rv cl ex st tt un pa n : Int) (w : World) (hs1 : id.size ≤ maxLen) (hs2 : cur.size ≤ maxLen) (hok : clrE id cur ap rv cl ex st tt un pa n = 0) (hle : ¬ n ≤ ap - rv - cl - ex) :
    Calls Try.prog 19 #[au id cur ap rv cl ex st tt un pa, .int .i64 n, .bool true] w fun e w' => e = .returned (.tuple #[au id cur ap (rv + (ap - rv - (cl + (ap - rv - cl - ex)) - ex)) (cl + (ap - rv - cl - ex)) ex (sttI ap (rv + (ap - rv - (cl + (ap - rv - cl - ex)) - ex)) (cl + (ap - rv - cl - ex)) ex) tt un (pa + 1), .int .i64 (ap - rv - cl - ex), .int .i64 (ap - rv - (cl + (ap - rv - cl - ex)) - ex), .int .i64 0]) ∧ Below w.heap.size w w' := by
  obtain ⟨h, h2, h3⟩ := clear_pre hok
  obtain ⟨h4, h5⟩ := cko_0 h
  obtain ⟨⟨a1, a2⟩, ⟨b1, b2⟩, ⟨c1, c2⟩, ⟨d1, d2⟩, e1, -, ⟨f1, f2, -⟩, -, -⟩ := chk_0 h4
  obtain ⟨n1, n2⟩ := amtB_le h2
  have h' : (cko id cur ap rv cl ex st tt un pa != 0) = false := by simp [h]
  clear h4 h hok h5
  go_enter Try.func19, Try.ntmps19
  go_wp2_with (first | (go_at_call 37; refine (cko_any id cur ap rv cl ex st tt un pa _ hs1 hs2).mono ?_; rintro e w1 ⟨rfl, hb⟩; obtain ⟨d, os, rfl⟩ := regrow_of hb; clear hb) | (go_at_call 26; refine (amt_any _ _ _).mono ?_; rintro e w' ⟨rfl, rfl⟩) | (go_at_call 20; refine (open_b _ _ _ _ _ _ _ _ _ _ _ (by omega) (by omega) (by omega) (by omega) (by omega) (by omega) (by omega) (by omega)).mono ?_; rintro e w1 ⟨rfl, hb⟩; obtain ⟨d, os, rfl⟩ := regrow_of hb; clear hb) | (go_at_call 28; refine (settled_x id cur ap (rv + (ap - rv - (cl + (ap - rv - cl - ex)) - ex)) (cl + (ap - rv - cl - ex)) ex st tt un (pa + 1) _ (by omega) (by omega) (by omega) (by omega) (by omega) (by omega) (by omega) (by omega)).mono ?_; rintro e w1 ⟨rfl, hb⟩; obtain ⟨d, os, rfl⟩ := regrow_of hb; clear hb))
  all_goals first
    | (exfalso; omega)
    | exact bodyPost_ret (v := .tuple #[au id cur ap (rv + (ap - rv - (cl + (ap - rv - cl - ex)) - ex)) (cl + (ap - rv - cl - ex)) ex (sttI ap (rv + (ap - rv - (cl + (ap - rv - cl - ex)) - ex)) (cl + (ap - rv - cl - ex)) ex) tt un (pa + 1), .int .i64 (ap - rv - cl - ex), .int .i64 (ap - rv - (cl + (ap - rv - cl - ex)) - ex), .int .i64 0]) (by simp [results, Try.results19, go_sem]) rfl ⟨rfl, below_re (((Below.refl _ _).alloc (Nat.le_refl _) _).alloc (by simp) _) (by simp; omega) _ _⟩
end Go.Proofs.Ytlkbghdeingimaa
