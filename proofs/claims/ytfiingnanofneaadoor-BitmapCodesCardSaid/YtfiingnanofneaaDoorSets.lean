/- Set and Clear of the reference. -/
import Derived.Test.YtfiingnanofneaaDoorR
set_option linter.unusedVariables false
set_option linter.unusedSimpArgs false
namespace Go.Proofs.YtfiingnanofneaaDoor
open Go.Sort Go.ChangeShapes Go.WideShapes Go.ChangeAt Go.RowKit
theorem ofR_bad (zs : List Int) (n : Int) (h : n < 2 ∨ 128 < n) : ofR (zs ++ [n]) = .tuple #[bm 0 0, .int .i64 4] := by
  unfold ofR
  rw [if_neg]
  unfold okZ
  rw [List.all_append]
  have : okN n = false := decide_eq_false (by omega)
  simp [this]
theorem of_add (a b m : Nat) (hb : b < B64) (h1 : 2 ≤ m) (h2 : m ≤ 128) : ofR (ints (nums a b 127) ++ [(m : Int)]) = .tuple #[bm ((a ||| b0 m) % B63) (b ||| b1 m), .int .i64 0] := by
  have e : ints (nums a b 127) ++ [(m : Int)] = ints (nums a b 127 ++ [m]) := by simp [ints]
  rw [e]
  refine of_set _ _ _ (fun j => hasB a b j || decide (j = m)) ?_ ?_ ?_
  · intro j
    rw [List.mem_append, mem_nums, List.mem_singleton, Bool.or_eq_true, decide_eq_true_eq]
    constructor
    · rintro (⟨g1, g2⟩ | rfl)
      · exact ⟨g1, .inl g2⟩
      · exact ⟨⟨h1, h2⟩, .inr rfl⟩
    · rintro ⟨g1, g2 | g2⟩
      · exact .inl ⟨g1, g2⟩
      · exact .inr g2
  · intro i
    rw [mod63_bit, Nat.testBit_or, b0_bit]
    by_cases hi : i ≤ 62
    · rw [has_low a b i hi]
      congr 2
      exact decide_eq_decide.2 (by omega)
    · simp [hi]
  · intro i
    rw [Nat.testBit_or, b1_bit]
    by_cases hi : i ≤ 63
    · rw [has_high a b i hi, decide_eq_true hi, Bool.true_and]
      congr 1
      exact decide_eq_decide.2 (by omega)
    · rw [bit_high hb (by omega), decide_eq_false hi, Bool.false_and, Bool.false_or]
      exact decide_eq_false (by omega)
theorem of_one (m : Nat) (h1 : 2 ≤ m) (h2 : m ≤ 128) : ofR [(m : Int)] = .tuple #[bm (b0 m) (b1 m), .int .i64 0] := by
  unfold ofR
  have : okZ [(m : Int)] = true := by simp [okZ, okN]; omega
  rw [if_pos this]
  simp [foldO, stepO]
def vals (zs : List Int) : List Value := zs.map fun n => .int .i64 n
theorem vals_ints (l : List Nat) : ivals l = vals (ints l) := by simp [ivals, vals, ints]
theorem own_vals {w : World} {B n : Nat} {v : Value} {zs : List Int} (hn : n = zs.length) (h : w.ownsRow B 3 1 v n (vals zs)) : ∃ a cap, v = .slice a n cap ∧ Ints w a n cap zs := by
  subst hn
  rcases h.2 with ⟨rfl, hn⟩ | ⟨g, cap, cur, rfl, hb, hg, hc, hm, hs, ht⟩
  · exact ⟨none, 0, by rw [hn], rfl, by omega, Nat.zero_le _, fun i hi => absurd hi (by omega)⟩
  · refine ⟨_, cap, rfl, rfl, hc, hm, fun i hi => ⟨g, 0, rfl, ?_, ?_⟩⟩
    · rcases Nat.lt_or_ge g w.heap.size with hlt | hge
      · exact hlt
      · rw [Array.getElem?_eq_none hge] at hg; cases hg
    · rw [Nat.zero_add, h.cellAt i (by omega)]
      have hi2 : i < (vals zs).length := by simpa [vals] using hi
      rw [List.getElem?_eq_getElem hi2, List.getD_eq_getElem?_getD, List.getElem?_eq_getElem hi]
      simp [vals]
/-- a slice of one number -/
theorem one_ints (w : World) (n : Int) (t : TypeId) : Ints (w.alloc (.cells #[.int .i64 n] t)) (some ⟨w.heap.size, 0, none⟩) 1 1 [n] := by
  refine ⟨rfl, Nat.le_refl _, by decide, fun i hi => ⟨_, 0, rfl, by simp, ?_⟩⟩
  obtain rfl : i = 0 := by omega
  exact (Blk.new w t #[.int .i64 n]).cell 0
set_option maxHeartbeats 1000000 in
theorem rset_any (a b : Nat) (n : Int) (x y E : Nat) (ha : a < B64) (hb : b < B64) (hr : ofR (ints (nums a b 127) ++ [n]) = .tuple #[bm x y, .int .i64 E]) (w : World) :
    Calls Tryd.prog 10 #[bm a b, .int .i64 n] w fun e w' => e = .returned (.tuple #[bm x y, .int .i64 E]) ∧ Below w.heap.size w w' := by
  have HL : Hid (∀ w, _) := Lib.hid (fun w => rlist_any a b ha hb w)
  have HR := Lib.hid hr
  have hn := nums_len a b 127
  have hln : (ints (nums a b 127)).length = (nums a b 127).length := by simp [ints]
  generalize nums a b 127 = l at *
  obtain ⟨i0, hi, hz0, hz1, hz2⟩ := info_parts info3
  have HLN := Lib.hid hln
  have hn2 := Lib.hid hn
  unfold bm at *
  clear hr hln hn
  go_enter Tryd.func10, Tryd.ntmps10
  go_wp2_with fail
  refine (HL.out _).mono ?_
  rintro e w1 ⟨v, rfl, ho, hb1⟩
  have ho' : w1.ownsRow (w.heap.size + 1 + 1 + 1) 3 1 v l.length (ivals l) := by simpa using ho
  have HO := Lib.hid ho'
  have HB := Lib.hid (below_call (al (al (Below.refl w.heap.size w))) hb1)
  have hs1 : w.heap.size + 1 + 1 ≤ w1.heap.size := by have := hb1.size; simpa using this
  have hk : Blk w1 (w.heap.size + 1) 24 #[.int .u64 0, .int .u64 0] := by have := (Blk.new (w.alloc (.cells #[.int .u64 a, .int .u64 b] 24)) 24 #[.int .u64 0, .int .u64 0]).call hb1; simpa using this
  have HK := Lib.hid hk
  clear hb1 ho ho' hk
  have hn := hn2.out
  go_wp2_with (at_builtin; refine wpList_append_own _ rfl _ _ 30 rfl (w.heap.size + 1 + 1 + 1) 3 i0 (.int .i64 0) 1 8 Tryd.underlying30 hi hz0 hz1 hz2 rfl (by decide) _ _ _ rfl (HO.out.alloc _) ⟨w1.heap.size, 0, none⟩ 1 1 [.int .i64 n] rfl rfl ?c1 ?c2 ?c3 ?c4 ?c5 ?_)
  case c1 =>
    intro j u hj
    match j, hj with
    | 0, hj => simp at hj; subst hj; simp [Addr.add]
  case c2 => intro u hu; simp at hu; subst hu; rfl
  case c3 => unfold maxLen; omega
  case c4 => omega
  case c5 => simp; omega
  intro v' w2 hown' hgrow _
  have HB2 := Lib.hid (own_app HO.out (by omega) HB.out hgrow)
  have HK2 := Lib.hid (blk_app HO.out (by omega) HK.out hgrow)
  have hvv : (ivals l ++ [Value.int .i64 n]) = vals (ints l ++ [n]) := by rw [vals_ints]; simp [vals]
  rw [hvv] at hown'
  have hln := HLN.out
  obtain ⟨A, cap, rfl, hI⟩ := own_vals (by simp [hln]) hown'
  have HI := Lib.hid hI
  clear hown' hgrow hI hln hvv hn
  go_wp2_with fail
  refine (rof_any _ _ _ _ _ HI.out).mono ?_
  rintro e w3 ⟨rfl, hb3⟩
  rw [HR.out]
  have HB3 := Lib.hid (below_call HB2.out hb3)
  have HK3 := Lib.hid (HK2.out.call hb3)
  clear hb3
  obtain ⟨r0, r1, r2, r3, r4⟩ := cell2 HK3.out
  go_wp2_with fail
  have HK4 := blk_upd2 (.int .u64 x) (.int .u64 y) HK3.out
  have HB4 := below_upd2 (.int .u64 x) (.int .u64 y) HB3.out (show w.heap.size ≤ w.heap.size + 1 by omega)
  obtain ⟨y0, y1, -, -, -⟩ := cell2 HK4
  exact bodyPost_ret (v := .tuple #[.agg #[.int .u64 x, .int .u64 y], .int .i64 E]) (by simp [results, Tryd.results10, go_sem, y0, y1]) rfl ⟨rfl, HB4⟩
theorem rclear_ok (a b m : Nat) (ha : a < B64) (hb : b < B64) (h1 : 2 ≤ m) (h2 : m ≤ 128) (w : World) :
    Calls Tryd.prog 12 #[bm a b, .int .i64 m] w fun e w' => e = .returned (.tuple #[bm ((a &&& nt (b0 m)) % B63) (b &&& nt (b1 m)), .int .i64 0]) ∧ Below w.heap.size w w' := by
  have HR := Lib.hid (of_one m h1 h2)
  have HM : Hid (∀ w, _) := Lib.hid (fun w => rminus_any a b (b0 m) (b1 m) ha hb (b0_lt m h1) (b1_lt m h1) w)
  generalize b0 m = p at *
  generalize b1 m = q at *
  generalize (a &&& nt p) % B63 = x at *
  generalize b &&& nt q = y at *
  have hI : Ints (((w.alloc (.cells #[.int .u64 a, .int .u64 b] 24)).alloc (.cells #[.int .u64 0, .int .u64 0] 24)).alloc (.cells #[.int .i64 m] 3)) (some ⟨w.heap.size + 1 + 1, 0, none⟩) 1 1 [(m : Int)] := by have := one_ints ((w.alloc (.cells #[.int .u64 a, .int .u64 b] 24)).alloc (.cells #[.int .u64 0, .int .u64 0] 24)) (m : Int) 3; simpa using this
  have HI := Lib.hid hI
  clear hI
  unfold bm at *
  clear h1 h2
  have HK0 := Lib.hid (Blk.new w 24 #[.int .u64 a, .int .u64 b])
  have HK1 := Lib.hid (Blk.new (w.alloc (.cells #[.int .u64 a, .int .u64 b] 24)) 24 #[.int .u64 0, .int .u64 0])
  go_enter Tryd.func12, Tryd.ntmps12
  go_wp2_with fail
  refine (rof_any _ _ _ _ _ HI.out).mono ?_
  rintro e w3 ⟨rfl, hb3⟩
  rw [HR.out]
  have HB3 := Lib.hid (below_call (al (al (al (Below.refl w.heap.size w)))) hb3)
  have HK3 := Lib.hid (((HK0.out.alloc (.cells #[.int .u64 0, .int .u64 0] 24)).alloc (.cells #[.int .i64 m] 3)).call hb3)
  have hk4 : Blk w3 (w.heap.size + 1) 24 #[.int .u64 0, .int .u64 0] := by have := (HK1.out.alloc (.cells #[.int .i64 m] 3)).call hb3; simpa using this
  have HK4 := Lib.hid hk4
  clear hb3 hk4
  have HK5 := Lib.hid (HK3.out.alloc (.cells #[.int .u64 p, .int .u64 q] 24))
  have HK6 := Lib.hid (HK4.out.alloc (.cells #[.int .u64 p, .int .u64 q] 24))
  obtain ⟨r0, r1, r2, r3, r4⟩ := cell2 HK5.out
  go_wp2_with fail
  refine (HM.out _).mono ?_
  rintro e w4 ⟨rfl, hb4⟩
  have HB4 := Lib.hid (below_call (al (o := .cells #[.int .u64 p, .int .u64 q] 24) HB3.out) hb4)
  have HK7 := Lib.hid (HK6.out.call hb4)
  clear hb4 r0 r1 r2 r3 r4
  obtain ⟨r0, r1, r2, r3, r4⟩ := cell2 HK7.out
  go_wp2_with fail
  have HK8 := blk_upd2 (.int .u64 x) (.int .u64 y) HK7.out
  have HB8 := below_upd2 (.int .u64 x) (.int .u64 y) HB4.out (show w.heap.size ≤ w.heap.size + 1 by omega)
  obtain ⟨y0, y1, -, -, -⟩ := cell2 HK8
  exact bodyPost_ret (v := .tuple #[.agg #[.int .u64 x, .int .u64 y], .int .i64 0]) (by simp [results, Tryd.results12, go_sem, y0, y1]) rfl ⟨rfl, HB8⟩
theorem rclear_no (a b : Nat) (n : Int) (ha : a < B64) (hb : b < B64) (h : n < 2 ∨ 128 < n) (w : World) :
    Calls Tryd.prog 12 #[bm a b, .int .i64 n] w fun e w' => e = .returned (.tuple #[bm 0 0, .int .i64 4]) ∧ Below w.heap.size w w' := by
  have HR := Lib.hid (ofR_bad [] n h)
  have hI : Ints (((w.alloc (.cells #[.int .u64 a, .int .u64 b] 24)).alloc (.cells #[.int .u64 0, .int .u64 0] 24)).alloc (.cells #[.int .i64 n] 3)) (some ⟨w.heap.size + 1 + 1, 0, none⟩) 1 1 [n] := by have := one_ints ((w.alloc (.cells #[.int .u64 a, .int .u64 b] 24)).alloc (.cells #[.int .u64 0, .int .u64 0] 24)) n 3; simpa using this
  have HI := Lib.hid hI
  clear hI
  unfold bm at *
  clear h
  have HK1 := Lib.hid (Blk.new (w.alloc (.cells #[.int .u64 a, .int .u64 b] 24)) 24 #[.int .u64 0, .int .u64 0])
  go_enter Tryd.func12, Tryd.ntmps12
  go_wp2_with fail
  refine (rof_any _ _ _ _ _ HI.out).mono ?_
  rintro e w3 ⟨rfl, hb3⟩
  rw [show ofR [n] = ofR ([] ++ [n]) from rfl, HR.out]
  have HB3 := Lib.hid (below_call (al (al (al (Below.refl w.heap.size w)))) hb3)
  have hk4 : Blk w3 (w.heap.size + 1) 24 #[.int .u64 0, .int .u64 0] := by have := (HK1.out.alloc (.cells #[.int .i64 n] 3)).call hb3; simpa using this
  have HK4 := Lib.hid hk4
  clear hb3 hk4
  have HK6 := Lib.hid (HK4.out.alloc (.cells #[.int .u64 0, .int .u64 0] 24))
  obtain ⟨r0, r1, r2, r3, r4⟩ := cell2 HK6.out
  go_wp2_with fail
  have HK8 := blk_upd2 (.int .u64 0) (.int .u64 0) HK6.out
  have HB8 := below_upd2 (.int .u64 0) (.int .u64 0) (al (o := .cells #[.int .u64 0, .int .u64 0] 24) HB3.out) (show w.heap.size ≤ w.heap.size + 1 by omega)
  obtain ⟨y0, y1, -, -, -⟩ := cell2 HK8
  exact bodyPost_ret (v := .tuple #[.agg #[.int .u64 0, .int .u64 0], .int .i64 4]) (by simp [results, Tryd.results12, go_sem, y0, y1]) rfl ⟨rfl, HB8⟩
end Go.Proofs.YtfiingnanofneaaDoor
