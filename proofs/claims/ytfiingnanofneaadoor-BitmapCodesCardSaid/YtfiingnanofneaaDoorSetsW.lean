/- BitmapSets: the walk. -/
import Derived.Test.YtfiingnanofneaaDoorSets
import Derived.Deep.RegionHeld3
import Derived.Deep.DeepCutAuto
set_option linter.unusedVariables false
set_option linter.unusedSimpArgs false
namespace Go.Proofs.YtfiingnanofneaaDoor
open Go.Sort Go.ChangeShapes Go.WideShapes Go.ChangeAt Go.RowKit
theorem rhas_no (a b : Nat) (n : Int) (h : n < 2 ∨ 128 < n) (w : World) :
    Calls Tryd.prog 14 #[bm a b, .int .i64 n] w fun e w' => e = .returned (.bool false) ∧ Below w.heap.size w w' := by
  unfold bm
  by_cases h1 : n < 2
  · have k1 : decide (2 ≤ n) = false := decide_eq_false (by omega)
    clear h
    go_enter Tryd.func14, Tryd.ntmps14
    go_wp2_with fail
    go_quiet (fail)
    go_wp2_with fail
    go_ret
    exact ⟨rfl, below_drewN (al (Below.refl _ _)) _⟩
  · have h2 : 128 < n := by omega
    have k1 : decide (2 ≤ n) = true := decide_eq_true (by omega)
    have k2 : decide (n ≤ 128) = false := decide_eq_false (by omega)
    clear h
    go_enter Tryd.func14, Tryd.ntmps14
    go_wp2_with fail
    go_quiet (fail)
    go_wp2_with fail
    go_ret
    exact ⟨rfl, below_drewN (al (Below.refl _ _)) _⟩
theorem in_range {n : Int} (h : ¬ (n < 2 ∨ 128 < n)) : ∃ m : Nat, n = m ∧ 2 ≤ m ∧ m ≤ 128 := ⟨n.toNat, by omega, by omega, by omega⟩
theorem set_both (a b : Nat) (n : Int) (ha : a < B64) (hb : b < B64) : ∃ p q E : Nat,
    (∀ w, Calls Tryd.prog 9 #[bm a b, .int .i64 n] w fun e w' => e = .returned (.tuple #[bm p q, .int .i64 E]) ∧ Below w.heap.size w w') ∧
    (∀ w, Calls Tryd.prog 10 #[bm a b, .int .i64 n] w fun e w' => e = .returned (.tuple #[bm p q, .int .i64 E]) ∧ Below w.heap.size w w') := by
  by_cases h : n < 2 ∨ 128 < n
  · exact ⟨0, 0, 4, fun w => set_no a b n h w, fun w => rset_any a b n 0 0 4 ha hb (ofR_bad _ n h) w⟩
  · obtain ⟨m, rfl, h1, h2⟩ := in_range h
    exact ⟨_, _, 0, fun w => set_ok a b m ha hb h1 h2 w, fun w => rset_any a b m _ _ 0 ha hb (of_add a b m hb h1 h2) w⟩
theorem clear_both (a b : Nat) (n : Int) (ha : a < B64) (hb : b < B64) : ∃ p q E : Nat,
    (∀ w, Calls Tryd.prog 11 #[bm a b, .int .i64 n] w fun e w' => e = .returned (.tuple #[bm p q, .int .i64 E]) ∧ Below w.heap.size w w') ∧
    (∀ w, Calls Tryd.prog 12 #[bm a b, .int .i64 n] w fun e w' => e = .returned (.tuple #[bm p q, .int .i64 E]) ∧ Below w.heap.size w w') := by
  by_cases h : n < 2 ∨ 128 < n
  · exact ⟨0, 0, 4, fun w => clear_no a b n h w, fun w => rclear_no a b n ha hb h w⟩
  · obtain ⟨m, rfl, h1, h2⟩ := in_range h
    exact ⟨_, _, 0, fun w => clear_ok a b m ha hb h1 h2 w, fun w => rclear_ok a b m ha hb h1 h2 w⟩
theorem has_both (a b : Nat) (n : Int) (ha : a < B64) (hb : b < B64) : ∃ t : Bool,
    (∀ w, Calls Tryd.prog 13 #[bm a b, .int .i64 n] w fun e w' => e = .returned (.bool t) ∧ Below w.heap.size w w') ∧
    (∀ w, Calls Tryd.prog 14 #[bm a b, .int .i64 n] w fun e w' => e = .returned (.bool t) ∧ Below w.heap.size w w') := by
  by_cases h : n < 2 ∨ 128 < n
  · exact ⟨false, fun w => has_no a b n h w, fun w => rhas_no a b n h w⟩
  · obtain ⟨m, rfl, h1, h2⟩ := in_range h
    exact ⟨_, fun w => has_ok a b m ha hb h1 h2 w, fun w => rhas_ok a b m ha hb h1 h2 w⟩
theorem same_bel (A1 A2 : Option Addr) (n c1 c2 : Nat) (zs : List Int) (w : World) (h1 : Ints w A1 n c1 zs) (h2 : Ints w A2 n c2 zs) :
    Calls Tryd.prog 15 #[.slice A1 n c1, .slice A2 n c2] w fun e w' => e = .returned (.bool true) ∧ Below w.heap.size w w' :=
  (same_any A1 A2 n c1 c2 zs w h1 h2).mono fun e w' ⟨he, m, hm⟩ => ⟨he, by rw [hm]; exact below_drewN (Below.refl _ _) m⟩
/-- what the region's loads want, and what is known of its world -/
abbrev S7 (w : World) (g k : Nat) (a b x y u v : Value) (w' : World) : Prop :=
  w'.cell? ⟨w.heap.size, 0, none⟩ = some a ∧ w'.cell? ⟨w.heap.size, 1, none⟩ = some b ∧ w'.cell? ⟨g, 0, none⟩ = some x ∧ w'.cell? ⟨g, 1, none⟩ = some y ∧ w'.cell? ⟨k, 0, none⟩ = some u ∧ w'.cell? ⟨k, 1, none⟩ = some v ∧
    w'.cell? ⟨4, 15, none⟩ = some (.int .u8 4) ∧ Below w.heap.size w w'
theorem cell_call {W w1 : World} {p : Addr} {v : Value} (h : W.cell? p = some v) (hb : Below W.heap.size W w1) : w1.cell? p = some v := (hb.cell (block_lt_of_cell h)).trans h
theorem S7.call {w : World} {g k : Nat} {a b x y u v : Value} {W w1 : World} (h : S7 w g k a b x y u v W) (hb : Below W.heap.size W w1) : S7 w g k a b x y u v w1 := by
  obtain ⟨h0, h1, h2, h3, h4, h5, h6, h7⟩ := h
  exact ⟨cell_call h0 hb, cell_call h1 hb, cell_call h2 hb, cell_call h3 hb, cell_call h4 hb, cell_call h5 hb, cell_call h6 hb, below_call h7 hb⟩
theorem S7.drew {w : World} {g k : Nat} {a b x y u v : Value} {W : World} (h : S7 w g k a b x y u v W) : S7 w g k a b x y u v W.drew :=
  ⟨h.1, h.2.1, h.2.2.1, h.2.2.2.1, h.2.2.2.2.1, h.2.2.2.2.2.1, h.2.2.2.2.2.2.1, h.2.2.2.2.2.2.2.drew⟩
theorem S7.tab {w : World} {g k : Nat} {a b x y u v : Value} {W : World} (h : S7 w g k a b x y u v W) : Tab W := h.2.2.2.2.2.2.1
theorem S7.bel {w : World} {g k : Nat} {a b x y u v : Value} {W : World} (h : S7 w g k a b x y u v W) : Below w.heap.size w W := h.2.2.2.2.2.2.2
theorem Below.drew_call {W w1 : World} (h : Below W.drew.heap.size W.drew w1) : Below W.heap.size W w1 := (Below.drew (Below.refl _ _)).trans h
theorem wf_u64 {a : Int} (h : (Lit.int .u64 a).wf = true) : ∃ m : Nat, a = m ∧ m < B64 := by
  simp [Lit.wf, IntKind.min, IntKind.max, IntKind.signed, IntKind.bits] at h
  exact ⟨a.toNat, by omega, by unfold B64; omega⟩
namespace bitmapSets
@[go_sem] theorem lt_m1 (n a : Nat) : (n < n + 1 + a + 1) = True := by simp; omega
@[go_sem] theorem lt_m2 (n a b : Nat) : (n < n + 1 + a + 1 + b) = True := by simp; omega
@[go_sem] theorem lt_m5 (n a b : Nat) : (n < n + 1 + a + 1 + b + 1) = True := by simp; omega
@[go_sem] theorem lt_m7 (n a b c : Nat) : (n < n + 1 + a + 1 + b + 1 + c) = True := by simp; omega
@[go_sem] theorem lt_m8 (n a b c d : Nat) : (n < n + 1 + a + 1 + b + 1 + c + d) = True := by simp; omega
@[go_sem] theorem lt_m9 (n a b c d : Nat) : (n < n + 1 + a + 1 + b + 1 + (c + d)) = True := by simp; omega
@[go_sem] theorem lt_n1 (n b : Nat) : (n < n + 1 + b + 1) = True := by simp; omega
@[go_sem] theorem lt_n2 (n b c d : Nat) : (n < n + 1 + b + 1 + c + d) = True := by simp; omega
@[go_sem] theorem lt_n3 (n b c d : Nat) : (n < n + 1 + b + 1 + (c + d)) = True := by simp; omega
@[go_sem] theorem lt_n4 (n b c : Nat) : (n < n + 1 + b + c) = True := by simp; omega
@[go_sem] theorem lt_n5 (n b c : Nat) : (n < n + 1 + (b + c)) = True := by simp; omega
set_option maxHeartbeats 4000000 in
set_option maxRecDepth 100000 in
theorem walkN (a b : Nat) (n : Int) (w : World) (ha : a < B64) (hb : b < B64) (hT : Tab w) :
    Calls Tryd.prog 3 #[bm a b, .int .i64 n] w fun e w' => e = .returned (.bool true) ∧ Below w.heap.size w w' := by
  obtain ⟨p, q, E, S1, S2⟩ := set_both a b n ha hb
  obtain ⟨x, y, F, C1, C2⟩ := clear_both a b n ha hb
  obtain ⟨t, T1, T2⟩ := has_both a b n ha hb
  replace S1 := Lib.hid S1
  replace S2 := Lib.hid S2
  replace C1 := Lib.hid C1
  replace C2 := Lib.hid C2
  replace T1 := Lib.hid T1
  replace T2 := Lib.hid T2
  have L1 : Hid (∀ w, _) := Lib.hid (fun w => list_any a b ha hb w)
  have L2 : Hid (∀ w, _) := Lib.hid (fun w => rlist_any a b ha hb w)
  have N1 : Hid (∀ w, _) := Lib.hid (fun w => count_any a b ha hb w)
  have N2 : Hid (∀ w, _) := Lib.hid (fun w => rcount_any a b ha hb w)
  have HT := Lib.hid hT
  generalize nums a b 127 = l at *
  unfold bm at *
  clear hT ha hb
  go_enter Tryd.func3, Tryd.ntmps3
  go_wp2_with fail
  refine (S1.out _).mono ?_
  rintro e w1 ⟨rfl, hb⟩
  obtain ⟨d1, o1, rfl⟩ := regrow_of hb
  clear hb
  go_wp2_with fail
  refine (S2.out _).mono ?_
  rintro e w1 ⟨rfl, hb⟩
  obtain ⟨d2, o2, rfl⟩ := regrow_of hb
  clear hb
  go_wp2_with fail
  refine (C1.out _).mono ?_
  rintro e w1 ⟨rfl, hb⟩
  obtain ⟨d3, o3, rfl⟩ := regrow_of hb
  clear hb
  go_wp2_with fail
  refine (C2.out _).mono ?_
  rintro e w1 ⟨rfl, hb⟩
  obtain ⟨d4, o4, rfl⟩ := regrow_of hb
  clear hb
  go_wp2_with fail
  have hB := bre (al (o := .cells #[.int .u64 x, .int .u64 y] 24) (bre (al (o := .cells #[.int .u64 x, .int .u64 y] 24) (bre (al (o := .cells #[.int .u64 a, .int .u64 b] 24) (Below.refl w.heap.size w)) d1 o1)) d2 o2)) d4 (o3 ++ o4)
  have hTW := HT.out.call hB
  obtain ⟨r0, r1, -, -, -⟩ := cell2 (((((Blk.new w 24 #[.int .u64 a, .int .u64 b]).call (below_regrown _ d1 o1)).alloc (.cells #[.int .u64 x, .int .u64 y] 24)).call (below_regrown _ d2 o2)).alloc (.cells #[.int .u64 x, .int .u64 y] 24) |>.call (below_regrown _ d4 (o3 ++ o4)))
  obtain ⟨s0, s1, -, -, -⟩ := cell2 ((((Blk.new (grow (redrawn (w.alloc (.cells #[.int .u64 a, .int .u64 b] 24)) d1) o1) 24 #[.int .u64 x, .int .u64 y]).call (below_regrown _ d2 o2)).alloc (.cells #[.int .u64 x, .int .u64 y] 24)).call (below_regrown _ d4 (o3 ++ o4)))
  obtain ⟨u0, u1, -, -, -⟩ := cell2 ((Blk.new (grow (redrawn ((grow (redrawn (w.alloc (.cells #[.int .u64 a, .int .u64 b] 24)) d1) o1).alloc (.cells #[.int .u64 x, .int .u64 y] 24)) d2) o2) 24 #[.int .u64 x, .int .u64 y]).call (below_regrown _ d4 (o3 ++ o4)))
  have e1 : (grow (redrawn (w.alloc (.cells #[.int .u64 a, .int .u64 b] 24)) d1) o1).heap.size = w.heap.size + 1 + o1.size := by simp [go_sem]
  have e2 : (grow (redrawn ((grow (redrawn (w.alloc (.cells #[.int .u64 a, .int .u64 b] 24)) d1) o1).alloc (.cells #[.int .u64 x, .int .u64 y] 24)) d2) o2).heap.size = w.heap.size + 1 + o1.size + 1 + o2.size := by simp [go_sem]
  rw [e1] at s0 s1
  rw [e2] at u0 u1
  have hS : S7 w _ _ _ _ _ _ _ _ _ := ⟨r0, r1, s0, s1, u0, u1, hTW, hB⟩
  clear hB hTW r0 r1 s0 s1 u0 u1 e1 e2
  generalize grow (redrawn ((grow (redrawn ((grow (redrawn (w.alloc (.cells #[.int .u64 a, .int .u64 b] 24)) d1) o1).alloc (.cells #[.int .u64 x, .int .u64 y] 24)) d2) o2).alloc (.cells #[.int .u64 x, .int .u64 y] 24)) d4) (o3 ++ o4) = W at *
  generalize w.heap.size + 1 + o1.size + 1 + o2.size = k at *
  generalize w.heap.size + 1 + o1.size = g at *
  go_region_held3 (fun w' => w'.cell? ⟨w.heap.size, 0, none⟩ = some (.int .u64 a) ∧ w'.cell? ⟨w.heap.size, 1, none⟩ = some (.int .u64 b) ∧ w'.cell? ⟨g, 0, none⟩ = some (.int .u64 x) ∧ w'.cell? ⟨g, 1, none⟩ = some (.int .u64 y) ∧ w'.cell? ⟨k, 0, none⟩ = some (.int .u64 x) ∧ w'.cell? ⟨k, 1, none⟩ = some (.int .u64 y) ∧
      w'.cell? ⟨4, 15, none⟩ = some (.int .u8 4) ∧ Below w.heap.size w w')
    (first | (exact S7.drew (by assumption)) | (exact S7.call (by assumption) (by assumption)))
    (first
      | (go_at_call 13; refine (T1.out _).mono ?_; rintro e w1 ⟨rfl, hb1⟩)
      | (go_at_call 14; refine (T2.out _).mono ?_; rintro e w2 ⟨rfl, hb2⟩)
      | (go_at_call 16; refine (L1.out _).mono ?_; rintro e w3 ⟨v3, rfl, ho3, hb3⟩; obtain ⟨A3, c3, rfl, hI3⟩ := own_ints ho3; clear ho3)
      | (go_at_call 17; refine (L2.out _).mono ?_; rintro e w4 ⟨v4, rfl, ho4, hb4⟩; obtain ⟨A4, c4, rfl, hI4⟩ := own_ints ho4; clear ho4)
      | (go_at_call 15; refine (same_bel _ _ _ _ _ (ints l) _ (Ints.call (by assumption) (by assumption)) (by assumption)).mono ?_; rintro e w5 ⟨rfl, hb5⟩)
      | (go_at_call 18; refine (N1.out _).mono ?_; rintro e w6 ⟨rfl, hb6⟩)
      | (go_at_call 19; refine (N2.out _).mono ?_; rintro e w7 ⟨rfl, hb7⟩)
      | (go_at_call 20; refine (awake_any _ (S7.tab (by assumption))).mono ?_; rintro e w8 ⟨rfl, hb8⟩))
  all_goals
    have hBel : Below w.heap.size w w8 := S7.bel (by assumption)
    have HBel := Lib.hid hBel
    clear hBel
    go_wp2_with fail
    go_ret
    exact ⟨rfl, HBel.out⟩
theorem walk (a b : Int) (n : Int) (w : World) (ha : (Lit.int .u64 a).wf = true) (hb : (Lit.int .u64 b).wf = true) (hn : (Lit.int .i64 n).wf = true) (hT : Tab w) :
    Calls Tryd.prog 3 #[.agg #[.int .u64 a, .int .u64 b], .int .i64 n] w fun e w' => e = .returned (.bool true) ∧ Below w.heap.size w w' := by
  obtain ⟨A, rfl, hA⟩ := wf_u64 ha
  obtain ⟨B, rfl, hB⟩ := wf_u64 hb
  exact walkN A B n w hA hB hT
end bitmapSets
end Go.Proofs.YtfiingnanofneaaDoor
