/- BitmapCounts: the walk. -/
import Derived.Test.YtfiingnanofneaaDoorSetsW
set_option linter.unusedVariables false
set_option linter.unusedSimpArgs false
namespace Go.Proofs.YtfiingnanofneaaDoor
open Go.Sort Go.ChangeShapes Go.WideShapes Go.ChangeAt Go.RowKit
theorem has_mod (a b m : Nat) (h1 : 2 ≤ m) : hasB (a % B63) b m = hasB a b m := by
  unfold hasB
  by_cases h : m ≤ 64
  · rw [if_pos h, if_pos h, mod63_bit, decide_eq_true (by omega), Bool.true_and]
  · rw [if_neg h, if_neg h]
theorem has_or (a b c d m : Nat) (h1 : 2 ≤ m) : hasB ((a ||| c) % B63) (b ||| d) m = (hasB a b m || hasB c d m) := by
  rw [has_mod _ _ _ h1]
  unfold hasB
  split <;> rw [Nat.testBit_or]
theorem has_minus (a b c d m : Nat) (h1 : 2 ≤ m) (h2 : m ≤ 128) (ha : a < B64) (hb : b < B64) : hasB ((c &&& nt a) % B63) (d &&& nt b) m = (hasB c d m && !hasB a b m) := by
  rw [has_mod _ _ _ h1]
  unfold hasB
  split
  · rw [Nat.testBit_and, nt_bit a _ ha, decide_eq_true (by omega), Bool.true_and]
  · rw [Nat.testBit_and, nt_bit b _ hb, decide_eq_true (by omega), Bool.true_and]
theorem nums_mod (a b : Nat) : nums (a % B63) b 127 = nums a b 127 :=
  List.filter_congr fun m hm => has_mod a b m (List.mem_range'_1.1 hm).1
theorem of_nums (a b : Nat) (hb : b < B64) : ofR (ints (nums a b 127)) = .tuple #[bm (a % B63) b, .int .i64 (0 : Nat)] := by
  refine of_set _ _ _ (fun m => hasB a b m) (fun m => mem_nums a b m) ?_ ?_
  · intro i
    rw [mod63_bit]
    by_cases hi : i ≤ 62
    · rw [has_low a b i hi]
    · simp [hi]
  · intro i
    by_cases hi : i ≤ 63
    · rw [has_high a b i hi]; simp [hi]
    · rw [bit_high hb (by omega)]; simp [hi]
theorem len_or (p q : Nat → Bool) (l : List Nat) : (l.filter fun m => p m || q m).length = (l.filter p).length + (l.filter fun m => q m && !p m).length := by
  induction l with
  | nil => rfl
  | cons m l ih =>
    cases hp : p m <;> cases hq : q m <;> simp [hp, hq, ih] <;> omega
theorem len_union (a b c d : Nat) (ha : a < B64) (hb : b < B64) :
    (nums ((a ||| c) % B63) (b ||| d) 127).length = (nums a b 127).length + (nums ((c &&& nt a) % B63) (d &&& nt b) 127).length := by
  have e1 : nums ((a ||| c) % B63) (b ||| d) 127 = (List.range' 2 127).filter fun m => hasB a b m || hasB c d m :=
    List.filter_congr fun m hm => has_or a b c d m (List.mem_range'_1.1 hm).1
  have e2 : nums ((c &&& nt a) % B63) (d &&& nt b) 127 = (List.range' 2 127).filter fun m => hasB c d m && !hasB a b m :=
    List.filter_congr fun m hm => by have := List.mem_range'_1.1 hm; exact has_minus a b c d m this.1 (by omega) ha hb
  rw [e1, e2]
  exact len_or _ _ _
theorem len_self (a b : Nat) (ha : a < B64) (hb : b < B64) : (nums ((a &&& nt a) % B63) (b &&& nt b) 127).length = 0 := by
  have e2 : nums ((a &&& nt a) % B63) (b &&& nt b) 127 = (List.range' 2 127).filter fun m => hasB a b m && !hasB a b m :=
    List.filter_congr fun m hm => by have := List.mem_range'_1.1 hm; exact has_minus a b a b m this.1 (by omega) ha hb
  rw [e2]
  simp
theorem mod_lt' (a : Nat) : a % B63 < B64 := Nat.lt_trans (Nat.mod_lt _ (by decide)) (by decide)
namespace bitmapCounts
set_option maxHeartbeats 8000000 in
set_option maxRecDepth 100000 in
theorem walkN (a b c d : Nat) (w : World) (ha : a < B64) (hb : b < B64) (hc : c < B64) (hd : d < B64) (hT : Tab w) :
    Calls Tryd.prog 8 #[bm a b, bm c d] w fun e w' => e = .returned (.bool true) ∧ Below w.heap.size w w' := by
  have L1 : Hid (∀ w, _) := Lib.hid (fun w => list_any a b ha hb w)
  have l2 := fun w => list_any (a % B63) b (mod_lt' a) hb w
  rw [nums_mod] at l2
  have L2 := Lib.hid l2
  have HO := Lib.hid (of_nums a b hb)
  have U1 : Hid (∀ w, _) := Lib.hid (fun w => union_any a b c d ha hb hc hd w)
  have u2 := fun w => union_any c d a b hc hd ha hb w
  rw [Nat.or_comm c a, Nat.or_comm d b] at u2
  have U2 := Lib.hid u2
  have M1 : Hid (∀ w, _) := Lib.hid (fun w => minus_any c d a b hc hd ha hb w)
  have M2 : Hid (∀ w, _) := Lib.hid (fun w => minus_any a b a b ha hb ha hb w)
  have N1 : Hid (∀ w, _) := Lib.hid (fun w => count_any ((a ||| c) % B63) (b ||| d) (mod_lt' _) (or_lt hb hd) w)
  have N2 : Hid (∀ w, _) := Lib.hid (fun w => count_any a b ha hb w)
  have N3 : Hid (∀ w, _) := Lib.hid (fun w => count_any ((c &&& nt a) % B63) (d &&& nt b) (mod_lt' _) (and_lt' hd) w)
  have n4 := fun w => count_any ((a &&& nt a) % B63) (b &&& nt b) (mod_lt' _) (and_lt' hb) w
  rw [len_self a b ha hb] at n4
  have N4 := Lib.hid n4
  have hlen := len_union a b c d ha hb
  have hl1 := nums_len a b 127
  have hl2 := nums_len ((c &&& nt a) % B63) (d &&& nt b) 127
  have HT := Lib.hid hT
  clear hT l2 u2 n4
  generalize (nums ((a ||| c) % B63) (b ||| d) 127).length = lu at *
  generalize (nums ((c &&& nt a) % B63) (d &&& nt b) 127).length = lm at *
  generalize (a ||| c) % B63 = p at *
  generalize b ||| d = q at *
  generalize (c &&& nt a) % B63 = r at *
  generalize d &&& nt b = s at *
  generalize (a &&& nt a) % B63 = t at *
  generalize b &&& nt b = u at *
  generalize a % B63 = x at *
  generalize nums a b 127 = l at *
  have hsum : IntKind.i64.wrap ((l.length : Int) + (lm : Int)) = (lu : Int) := by rw [IntWalk.i64_in _ (by omega)]; omega
  have HS := Lib.hid hsum
  unfold bm at *
  clear ha hb hc hd hlen hl1 hl2 hsum
  go_enter Tryd.func8, Tryd.ntmps8
  go_wp2_with fail
  refine (L1.out _).mono ?_
  rintro e w1 ⟨v1, rfl, ho1, hb1⟩
  obtain ⟨A1, c1, rfl, hI1⟩ := own_ints ho1
  have HI1 := Lib.hid hI1
  have HB1 := Lib.hid (below_call (al (al (Below.refl w.heap.size w))) hb1)
  have hk1 := ((Blk.new w 24 #[.int .u64 a, .int .u64 b]).alloc (.cells #[.int .u64 c, .int .u64 d] 24)).call hb1
  have hk2 : Blk w1 (w.heap.size + 1) 24 #[.int .u64 c, .int .u64 d] := by have := (Blk.new (w.alloc (.cells #[.int .u64 a, .int .u64 b] 24)) 24 #[.int .u64 c, .int .u64 d]).call hb1; simpa using this
  have HK1 := Lib.hid hk1
  have HK2 := Lib.hid hk2
  clear hk1 hk2 ho1 hI1 hb1
  go_wp2_with fail
  refine (of_any _ _ _ _ _ HI1.out).mono ?_
  rintro e w2 ⟨rfl, hb2⟩
  rw [HO.out]
  have HB2 := Lib.hid (below_call HB1.out hb2)
  have HK3 := Lib.hid (HK1.out.call hb2)
  have HK4 := Lib.hid (HK2.out.call hb2)
  clear hb2
  go_wp2_with fail
  obtain ⟨r0, r1, -, -, -⟩ := cell2 (HK3.out.alloc (.cells #[.int .u64 x, .int .u64 b] 24))
  obtain ⟨s0, s1, -, -, -⟩ := cell2 (HK4.out.alloc (.cells #[.int .u64 x, .int .u64 b] 24))
  obtain ⟨u0, u1, -, -, -⟩ := cell2 (Blk.new w2 24 #[.int .u64 x, .int .u64 b])
  have hB := al (o := .cells #[.int .u64 x, .int .u64 b] 24) HB2.out
  have hTW := HT.out.call hB
  have hS : S7 w _ _ _ _ _ _ _ _ _ := ⟨r0, r1, s0, s1, u0, u1, hTW, hB⟩
  clear hB hTW r0 r1 s0 s1 u0 u1
  generalize w2.alloc (.cells #[.int .u64 x, .int .u64 b] 24) = W at *
  generalize w2.heap.size = k at *
  have hsum := HS.out
  go_region_held3 (fun w' => w'.cell? ⟨w.heap.size, 0, none⟩ = some (.int .u64 a) ∧ w'.cell? ⟨w.heap.size, 1, none⟩ = some (.int .u64 b) ∧ w'.cell? ⟨w.heap.size + 1, 0, none⟩ = some (.int .u64 c) ∧ w'.cell? ⟨w.heap.size + 1, 1, none⟩ = some (.int .u64 d) ∧ w'.cell? ⟨k, 0, none⟩ = some (.int .u64 x) ∧ w'.cell? ⟨k, 1, none⟩ = some (.int .u64 b) ∧
      w'.cell? ⟨4, 15, none⟩ = some (.int .u8 4) ∧ Below w.heap.size w w')
    (first | (exact S7.drew (by assumption)) | (exact S7.call (by assumption) (by assumption)))
    (first
      | (go_at_call 16; (with_reducible refine (L2.out _).mono ?_); rintro e w3 ⟨v3, rfl, ho3, hb3⟩; obtain ⟨A3, c3, rfl, hI3⟩ := own_ints ho3; clear ho3)
      | (go_at_call 16; (with_reducible refine (L1.out _).mono ?_); rintro e w4 ⟨v4, rfl, ho4, hb4⟩; obtain ⟨A4, c4, rfl, hI4⟩ := own_ints ho4; clear ho4)
      | (go_at_call 15; refine (same_bel _ _ _ _ _ (ints l) _ (Ints.call (by assumption) (by assumption)) (by assumption)).mono ?_; rintro e w5 ⟨rfl, hb5⟩)
      | (go_at_call 23; (with_reducible refine (U1.out _).mono ?_); rintro e w6 ⟨rfl, hb6⟩)
      | (go_at_call 23; (with_reducible refine (U2.out _).mono ?_); rintro e w7 ⟨rfl, hb7⟩)
      | (go_at_call 25; (with_reducible refine (M1.out _).mono ?_); rintro e w8 ⟨rfl, hb8⟩)
      | (go_at_call 25; (with_reducible refine (M2.out _).mono ?_); rintro e w9 ⟨rfl, hb9⟩)
      | (go_at_call 18; (with_reducible refine (N1.out _).mono ?_); rintro e wa ⟨rfl, hba⟩)
      | (go_at_call 18; (with_reducible refine (N2.out _).mono ?_); rintro e wb ⟨rfl, hbb⟩)
      | (go_at_call 18; (with_reducible refine (N3.out _).mono ?_); rintro e wc ⟨rfl, hbc⟩)
      | (go_at_call 18; (with_reducible refine (N4.out _).mono ?_); rintro e wd ⟨rfl, hbd⟩)
      | (go_at_call 20; refine (awake_any _ (S7.tab (by assumption))).mono ?_; rintro e we ⟨rfl, hbe⟩))
  all_goals
    have hBel : Below w.heap.size w we := S7.bel (by assumption)
    have HBel := Lib.hid hBel
    clear hBel
    go_wp2_with fail
    go_ret
    exact ⟨rfl, HBel.out⟩
theorem walk (a b c d : Int) (w : World) (ha : (Lit.int .u64 a).wf = true) (hb : (Lit.int .u64 b).wf = true) (hc : (Lit.int .u64 c).wf = true) (hd : (Lit.int .u64 d).wf = true) (hT : Tab w) :
    Calls Tryd.prog 8 #[.agg #[.int .u64 a, .int .u64 b], .agg #[.int .u64 c, .int .u64 d]] w fun e w' => e = .returned (.bool true) ∧ Below w.heap.size w w' := by
  obtain ⟨A, rfl, hA⟩ := wf_u64 ha
  obtain ⟨B, rfl, hB⟩ := wf_u64 hb
  obtain ⟨C, rfl, hC⟩ := wf_u64 hc
  obtain ⟨D, rfl, hD⟩ := wf_u64 hd
  exact walkN A B C D w hA hB hC hD hT
end bitmapCounts
end Go.Proofs.YtfiingnanofneaaDoor
