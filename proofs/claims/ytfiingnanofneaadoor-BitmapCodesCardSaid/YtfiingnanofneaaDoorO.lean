/- Minus of the reference. -/
import Derived.Test.YtfiingnanofneaaDoorN
set_option linter.unusedVariables false
set_option linter.unusedSimpArgs false
namespace Go.Proofs.YtfiingnanofneaaDoor
open Go.Sort Go.ChangeShapes Go.WideShapes Go.ChangeAt Go.RowKit
theorem own_ints {w : World} {B : Nat} {v : Value} {l : List Nat} (h : w.ownsRow B 3 1 v l.length (ivals l)) : ∃ a cap, v = .slice a l.length cap ∧ Ints w a l.length cap (ints l) := by
  have hl : (ints l).length = l.length := by simp [ints]
  rcases h.2 with ⟨rfl, hn⟩ | ⟨g, cap, cur, rfl, hb, hg, hc, hm, hs, ht⟩
  · exact ⟨none, 0, by rw [hn], hl, by omega, Nat.zero_le _, fun i hi => absurd hi (by omega)⟩
  · refine ⟨_, cap, rfl, hl, hc, hm, fun i hi => ⟨g, 0, rfl, ?_, ?_⟩⟩
    · rcases Nat.lt_or_ge g w.heap.size with hlt | hge
      · exact hlt
      · rw [Array.getElem?_eq_none hge] at hg; cases hg
    · rw [Nat.zero_add, h.cellAt i (by omega)]
      have hi2 : i < (ivals l).length := by rw [ivals_len]; exact hi
      rw [List.getElem?_eq_getElem hi2, List.getD_eq_getElem?_getD, List.getElem?_eq_getElem (by rw [hl]; exact hi)]
      simp [ivals, ints]
theorem diff_len (a b c d k : Nat) : (diff a b c d k).length ≤ k := by
  have := List.length_filter_le (fun m => hasB a b m && !hasB c d m) (List.range' 2 k)
  simpa [diff] using this
theorem diff_succ (a b c d k : Nat) : diff a b c d (k + 1) = diff a b c d k ++ if (hasB a b (2 + k) && !hasB c d (2 + k)) = true then [2 + k] else [] := by
  unfold diff
  rw [List.range'_1_concat, List.filter_append]
  cases h : (hasB a b (2 + k) && !hasB c d (2 + k)) <;> simp [h]
def MRel (w : World) (a b c d : Nat) (v n : Value) (wr : World) : Prop :=
  ∃ k, k ≤ 127 ∧ n = .int .i64 ((2 + k : Nat) : Int) ∧ wr.ownsRow (w.heap.size + 1 + 1 + 1) 3 1 v (diff a b c d k).length (ivals (diff a b c d k)) ∧ Below w.heap.size w wr ∧ Blk wr w.heap.size 24 #[.int .u64 a, .int .u64 b] ∧
    Blk wr (w.heap.size + 1) 24 #[.int .u64 c, .int .u64 d] ∧ Blk wr (w.heap.size + 1 + 1) 24 #[.int .u64 0, .int .u64 0]
theorem three (w : World) (a b c d : Nat) : Below w.heap.size w (((w.alloc (.cells #[.int .u64 a, .int .u64 b] 24)).alloc (.cells #[.int .u64 c, .int .u64 d] 24)).alloc (.cells #[.int .u64 0, .int .u64 0] 24)) ∧
    Blk (((w.alloc (.cells #[.int .u64 a, .int .u64 b] 24)).alloc (.cells #[.int .u64 c, .int .u64 d] 24)).alloc (.cells #[.int .u64 0, .int .u64 0] 24)) w.heap.size 24 #[.int .u64 a, .int .u64 b] ∧
    Blk (((w.alloc (.cells #[.int .u64 a, .int .u64 b] 24)).alloc (.cells #[.int .u64 c, .int .u64 d] 24)).alloc (.cells #[.int .u64 0, .int .u64 0] 24)) (w.heap.size + 1) 24 #[.int .u64 c, .int .u64 d] ∧
    Blk (((w.alloc (.cells #[.int .u64 a, .int .u64 b] 24)).alloc (.cells #[.int .u64 c, .int .u64 d] 24)).alloc (.cells #[.int .u64 0, .int .u64 0] 24)) (w.heap.size + 1 + 1) 24 #[.int .u64 0, .int .u64 0] := by
  have e1 : ∀ (w : World) (o : Obj), (w.alloc o).heap.size = w.heap.size + 1 := fun w o => by simp [go_sem]
  refine ⟨al (al (al (Below.refl _ _))), ((Blk.new w 24 _).alloc _).alloc _, ?_, ?_⟩
  · have := (Blk.new (w.alloc (.cells #[.int .u64 a, .int .u64 b] 24)) 24 #[.int .u64 c, .int .u64 d]).alloc (.cells #[.int .u64 0, .int .u64 0] 24)
    rw [e1] at this; exact this
  · have := Blk.new ((w.alloc (.cells #[.int .u64 a, .int .u64 b] 24)).alloc (.cells #[.int .u64 c, .int .u64 d] 24)) 24 #[.int .u64 0, .int .u64 0]
    rw [e1, e1] at this; exact this
set_option maxHeartbeats 2000000 in
set_option maxRecDepth 100000 in
theorem rminus_any (a b c d : Nat) (ha : a < B64) (hb : b < B64) (hc : c < B64) (hd : d < B64) (w : World) :
    Calls Tryd.prog 26 #[bm a b, bm c d] w fun e w' => e = .returned (bm ((a &&& nt c) % B63) (b &&& nt d)) ∧ Below w.heap.size w w' := by
  have H1 : Hid (∀ (m : Nat) (w : World), 2 ≤ m → m ≤ 128 → _) := Lib.hid (fun m w h1 h2 => rhas_ok a b m ha hb h1 h2 w)
  have H2 : Hid (∀ (m : Nat) (w : World), 2 ≤ m → m ≤ 128 → _) := Lib.hid (fun m w h1 h2 => rhas_ok c d m hc hd h1 h2 w)
  have HF := Lib.hid (of_minus a b c d hb hc hd)
  generalize (a &&& nt c) % B63 = X at *
  generalize b &&& nt d = Y at *
  obtain ⟨i0, hi, hz0, hz1, hz2⟩ := info_parts info3
  obtain ⟨t1, t2, t3, t4⟩ := three w a b c d
  have T1 := Lib.hid t1
  have T2 := Lib.hid t2
  have T3 := Lib.hid t3
  have T4 := Lib.hid t4
  clear t1 t2 t3 t4
  unfold bm at *
  go_enter Tryd.func26, Tryd.ntmps26
  go_wp2_with fail
  go_loopw [5, 6] (fun v n wr => MRel w a b c d v n wr) (fun _ n _ => (129 - intOf n).toNat)
  case atStart => exact ⟨0, Nat.zero_le _, rfl, World.ownsRow_nil _ _ _ _, T1.out, T2.out, T3.out, T4.out⟩
  case round =>
    obtain ⟨k, hk, rfl, hown, hB, hkb, hkc, hkr⟩ := hrel
    have HO := Lib.hid hown
    have HB := Lib.hid hB
    have HK := Lib.hid hkb
    have HC := Lib.hid hkc
    have HR := Lib.hid hkr
    clear hown hB hkb hkc hkr T1 T2 T3 T4
    by_cases hlt : k < 127
    · have hlt' : ((2 + k : Nat) : Int) ≤ 128 := by omega
      have hlt0 : 0 ≤ ((2 + k : Nat) : Int) := by omega
      obtain ⟨q0, q1, -, -, q2⟩ := cell2 HK.out
      obtain ⟨r0, r1, -, -, r2⟩ := cell2 HC.out
      have hsz := (diff_len a b c d k)
      have hbs := HB.out.size
      have hs : diff a b c d (k + 1) = diff a b c d k ++ if (hasB a b (2 + k) && !hasB c d (2 + k)) = true then [2 + k] else [] := diff_succ a b c d k
      generalize hM : 2 + k = M at *
      have HM := Lib.hid hM
      have hM2 : 2 ≤ M := by omega
      clear hM HF
      cases h1 : hasB a b M
      · rw [h1, Bool.false_and, if_neg (by simp), List.append_nil] at hs
        have HS := Lib.hid hs
        have HH1 := H1.out M
        rw [h1] at HH1
        have HH := Lib.hid HH1
        clear hs HH1 H1 H2 h1
        go_wp2_with fail
        refine (HH.out _ (by omega) (by omega)).mono ?_
        rintro e w1 ⟨rfl, hb1⟩
        have HO1 := Lib.hid (own_below HO.out hb1)
        have HB1 := Lib.hid (below_call HB.out hb1)
        have HK1 := Lib.hid (HK.out.call hb1)
        have HC1 := Lib.hid (HC.out.call hb1)
        have HR1 := Lib.hid (HR.out.call hb1)
        clear hb1
        go_wp2_with fail
        go_roundw
        case rel => exact ⟨k + 1, by omega, by rw [← HM.out]; go_num, by rw [HS.out]; exact HO1.out, HB1.out, HK1.out, HC1.out, HR1.out⟩
        case measure => simp [intOf]; omega
      · cases h2 : hasB c d M
        · rw [h1, h2, Bool.not_false, Bool.true_and, if_pos rfl] at hs
          have HS := Lib.hid hs
          have HH1 := H1.out M
          rw [h1] at HH1
          have HH := Lib.hid HH1
          have HH2 := H2.out M
          rw [h2] at HH2
          have HG := Lib.hid HH2
          clear hs HH1 HH2 H1 H2 h1 h2
          go_wp2_with fail
          refine (HH.out _ (by omega) (by omega)).mono ?_
          rintro e w0 ⟨rfl, hb1⟩
          have HO0 := Lib.hid (own_below HO.out hb1)
          have HB0 := Lib.hid (below_call HB.out hb1)
          have HK0 := Lib.hid (HK.out.call hb1)
          have HC0 := Lib.hid (HC.out.call hb1)
          have HR0 := Lib.hid (HR.out.call hb1)
          clear hb1 q0 q1 q2 r0 r1 r2
          obtain ⟨r0, r1, -, -, r2⟩ := cell2 HC0.out
          go_wp2_with fail
          refine (HG.out _ (by omega) (by omega)).mono ?_
          rintro e w1 ⟨rfl, hb1⟩
          have HO1 := Lib.hid (own_below HO0.out hb1)
          have HB1 := Lib.hid (below_call HB0.out hb1)
          have HK1 := Lib.hid (HK0.out.call hb1)
          have HC1 := Lib.hid (HC0.out.call hb1)
          have HR1 := Lib.hid (HR0.out.call hb1)
          clear hb1 r0 r1 r2
          go_wp2_with (at_builtin; refine wpList_append_own _ rfl _ _ 30 rfl (w.heap.size + 1 + 1 + 1) 3 i0 (.int .i64 0) 1 8 Tryd.underlying30 hi hz0 hz1 hz2 rfl (by decide) _ _ _ rfl (HO1.out.alloc _) ⟨w1.heap.size, 0, none⟩ 1 1 [.int .i64 M] rfl rfl ?c1 ?c2 ?c3 ?c4 ?c5 ?_)
          case c1 =>
            intro j u hj
            match j, hj with
            | 0, hj => simp at hj; subst hj; simp [Addr.add]
          case c2 => intro u hu; simp at hu; subst hu; rfl
          case c3 => unfold maxLen; omega
          case c4 => have := HR1.out.lt; omega
          case c5 => simp; have := HR1.out.lt; omega
          intro v' w2 hown' hgrow _
          have HO2 := Lib.hid hown'
          have HB2 := Lib.hid (own_app HO1.out (by omega) HB1.out hgrow)
          have HK2 := Lib.hid (blk_app HO1.out (by omega) HK1.out hgrow)
          have HC2 := Lib.hid (blk_app HO1.out (by omega) HC1.out hgrow)
          have HR2 := Lib.hid (blk_app HO1.out (by omega) HR1.out hgrow)
          clear hown' hgrow
          go_wp2_with fail
          go_roundw
          case rel => exact ⟨k + 1, by omega, by rw [← HM.out]; go_num, by rw [HS.out]; simpa [ivals] using HO2.out, HB2.out, HK2.out, HC2.out, HR2.out⟩
          case measure => simp [intOf]; omega
        · rw [h1, h2, Bool.not_true, Bool.and_false, if_neg (by simp), List.append_nil] at hs
          have HS := Lib.hid hs
          have HH1 := H1.out M
          rw [h1] at HH1
          have HH := Lib.hid HH1
          have HH2 := H2.out M
          rw [h2] at HH2
          have HG := Lib.hid HH2
          clear hs HH1 HH2 H1 H2 h1 h2
          go_wp2_with fail
          refine (HH.out _ (by omega) (by omega)).mono ?_
          rintro e w0 ⟨rfl, hb1⟩
          have HO0 := Lib.hid (own_below HO.out hb1)
          have HB0 := Lib.hid (below_call HB.out hb1)
          have HK0 := Lib.hid (HK.out.call hb1)
          have HC0 := Lib.hid (HC.out.call hb1)
          have HR0 := Lib.hid (HR.out.call hb1)
          clear hb1 q0 q1 q2 r0 r1 r2
          obtain ⟨r0, r1, -, -, r2⟩ := cell2 HC0.out
          go_wp2_with fail
          refine (HG.out _ (by omega) (by omega)).mono ?_
          rintro e w1 ⟨rfl, hb1⟩
          have HO1 := Lib.hid (own_below HO0.out hb1)
          have HB1 := Lib.hid (below_call HB0.out hb1)
          have HK1 := Lib.hid (HK0.out.call hb1)
          have HC1 := Lib.hid (HC0.out.call hb1)
          have HR1 := Lib.hid (HR0.out.call hb1)
          clear hb1 r0 r1 r2
          go_wp2_with fail
          go_roundw
          case rel => exact ⟨k + 1, by omega, by rw [← HM.out]; go_num, by rw [HS.out]; exact HO1.out, HB1.out, HK1.out, HC1.out, HR1.out⟩
          case measure => simp [intOf]; omega
    · obtain rfl : k = 127 := by omega
      obtain ⟨A, cap, rfl, hI⟩ := own_ints HO.out
      have HO' := Lib.hid (rof_any A _ cap _ wr hI)
      have hge : ¬ ((2 + 127 : Nat) : Int) ≤ 128 := by decide
      go_wp2_with fail
      refine HO'.out.mono ?_
      rintro e w1 ⟨rfl, hb1⟩
      rw [HF.out]
      have HB1 := Lib.hid (below_call HB.out hb1)
      have HR1 := Lib.hid ((HR.out.call hb1).alloc (.cells #[.int .u64 X, .int .u64 Y] 24))
      obtain ⟨r0, r1, r2, r3, r4⟩ := cell2 HR1.out
      have HR2 := Lib.hid (blk_upd2 (.int .u64 X) (.int .u64 Y) HR1.out)
      have HB2 := Lib.hid (below_upd2 (.int .u64 X) (.int .u64 Y) (al (o := .cells #[.int .u64 X, .int .u64 Y] 24) HB1.out) (show w.heap.size ≤ w.heap.size + 1 + 1 by omega))
      clear hb1 HO'
      go_wp2_with fail
      obtain ⟨y0, y1, -, -, -⟩ := cell2 HR2.out
      exact bodyPost_ret (v := .agg #[.int .u64 X, .int .u64 Y]) (by simp [results, Tryd.results26, go_sem, y0, y1]) rfl ⟨rfl, HB2.out⟩
end Go.Proofs.YtfiingnanofneaaDoor
