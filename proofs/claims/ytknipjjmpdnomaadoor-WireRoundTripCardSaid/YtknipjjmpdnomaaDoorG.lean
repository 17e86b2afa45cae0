/- The walk of WireNumbers. -/
import Derived.Test.YtknipjjmpdnomaaDoorF
import Derived.LaidMore
import Derived.Stop.Joined
import Derived.Stop.LaidErr
import Derived.OpenShut
import Derived.Lib.LaidTab
set_option linter.unusedVariables false
set_option linter.unusedSimpArgs false
namespace Go.Proofs.YtknipjjmpdnomaaDoor
open Go.Sort Go.ChangeShapes Go.WideShapes Go.ChangeAt Go.RowKit
theorem wf_i64 {a : Int} (h : (Lit.int .i64 a).wf = true) : -9223372036854775808 ≤ a ∧ a ≤ 9223372036854775807 := by simp [Lit.wf, IntKind.min, IntKind.max, IntKind.signed, IntKind.bits] at h; omega
theorem wf_u8 {a : Int} (h : (Lit.int .u8 a).wf = true) : 0 ≤ a ∧ a ≤ 255 := by simp [Lit.wf, IntKind.min, IntKind.max, IntKind.signed, IntKind.bits] at h; omega
theorem bl_asymm (x : List UInt8) : ∀ y, Op.bytesLess x y = true → Op.bytesLess y x = false := by
  induction x with
  | nil =>
    intro y h
    cases y with
    | nil => rfl
    | cons c r => rfl
  | cons a r ih =>
    intro y h
    cases y with
    | nil => cases h
    | cons b t =>
      have h' : (decide (a < b) || (a == b && Op.bytesLess r t)) = true := h
      show (decide (b < a) || (b == a && Op.bytesLess t r)) = false
      rw [Bool.or_eq_true, decide_eq_true_iff, Bool.and_eq_true, beq_iff_eq] at h'
      rw [Bool.or_eq_false_iff, decide_eq_false_iff_not]
      rcases h' with h1 | ⟨h1, h2⟩
      · rw [UInt8.lt_iff_toNat_lt] at h1
        refine ⟨by rw [UInt8.lt_iff_toNat_lt]; omega, ?_⟩
        have : (b == a) = false := by rw [beq_eq_false_iff_ne]; intro e; rw [e] at h1; omega
        rw [this]; rfl
      · subst h1
        refine ⟨by rw [UInt8.lt_iff_toNat_lt]; omega, ?_⟩
        rw [ih t h2, Bool.and_false]
theorem bl_irr (x : List UInt8) : Op.bytesLess x x = false := by
  cases h : Op.bytesLess x x
  · rfl
  · rw [bl_asymm x x h] at h; cases h
theorem bl_num (W N M : Nat) (h1 : N < 10 ^ W) (h2 : M < 10 ^ W) : Op.bytesLess (bst (dgw W N)).toList (bst (dgw W M)).toList = decide (N < M) := by
  rw [ls_tl, ls_tl, ls_bst, ls_bst]
  rcases Nat.lt_trichotomy N M with h | h | h
  · have := bl_dgw W N M [] [] h h2
    rw [List.append_nil, List.append_nil] at this
    rw [this, decide_eq_true h]
  · subst h; rw [bl_irr, decide_eq_false (by omega)]
  · have := bl_dgw W M N [] [] h h1
    rw [List.append_nil, List.append_nil] at this
    rw [bl_asymm _ _ this, decide_eq_false (by omega)]
theorem ex_first (W N M : Nat) : ls (((bst (dgw W N) ++ bst (dgw W M)).extract 0 (bst (dgw W N) ++ bst (dgw W M)).size).extract 0 W) = dgw W N := by
  rw [ls_ex, ls_ex, ls_app, ls_bst, ls_bst, List.drop_zero, List.drop_zero, Nat.sub_zero, Nat.sub_zero, List.take_take]
  rw [List.take_append_of_le_length (by rw [dgw_len]; omega), List.take_of_length_le (by rw [dgw_len]; rw [ByteArray.size_append, bst_size, bst_size, dgw_len, dgw_len]; omega)]
theorem ex_second (W N M : Nat) : ls (((bst (dgw W N) ++ bst (dgw W M)).extract W (bst (dgw W N) ++ bst (dgw W M)).size).extract 0 W) = dgw W M := by
  have hs : (bst (dgw W N) ++ bst (dgw W M)).size = W + W := by rw [ByteArray.size_append, bst_size, bst_size, dgw_len, dgw_len]
  rw [hs, ls_ex, ls_ex, ls_app, ls_bst, ls_bst, List.drop_zero, List.drop_append_of_le_length (by rw [dgw_len]; exact Nat.le_refl _), List.drop_of_length_le (by rw [dgw_len]; exact Nat.le_refl _), List.nil_append]
  rw [show W + W - W = W by omega, Nat.sub_zero, List.take_take, Nat.min_self, List.take_of_length_le (by rw [dgw_len]; exact Nat.le_refl _)]
theorem tabP_of_wireNumbers {W : World} (h : laidMetH Tryd.prog Rows.wireNumbersRow.laid W) : TabP W := by
  rw [MakeChecks.laidMetH_plain _ _ _ (by kernel_rfl)] at h
  have h2 := h.tail.tail
  exact Lib.tabIs_of_head (g := 3) (by kernel_rfl) (by kernel_rfl) Tryd.underlying111 Tryd.underlying84 (by kernel_rfl) (by kernel_rfl) h2
theorem tabP_of_wireWrites {W : World} (h : laidMetH Tryd.prog Rows.wireWritesRow.laid W) : TabP W := by
  rw [MakeChecks.laidMetH_plain _ _ _ (by kernel_rfl)] at h
  have h2 := h.tail.tail
  exact Lib.tabIs_of_head (g := 3) (by kernel_rfl) (by kernel_rfl) Tryd.underlying111 Tryd.underlying84 (by kernel_rfl) (by kernel_rfl) h2
set_option maxHeartbeats 4000000 in
theorem wireNumbers.walk (n m b : Int) (w : World) (hn : (Lit.int .i64 n).wf = true) (hm : (Lit.int .i64 m).wf = true) (hb : (Lit.int .u8 b).wf = true) (hT : TabP w) : Calls Tryd.prog 5 #[.int .i64 n, .int .i64 m, .int .u8 b] w fun e w' => e = .returned (.bool true) ∧ Below w.heap.size w w' := by
  have HT := Lib.hid hT
  have HAW := Lib.hid awake_any
  have HNB := Lib.hid (wf_i64 hn).2
  have HMB := Lib.hid (wf_i64 hm).2
  obtain ⟨b0, b1⟩ := wf_u8 hb
  obtain ⟨W, hW⟩ : ∃ W : Nat, b % 15 + 1 = (W : Int) := ⟨(b % 15 + 1).toNat, by omega⟩
  have e1 : Int.tmod b 15 = b % 15 := Int.tmod_eq_emod_of_nonneg b0
  have hW1 : 1 ≤ W := by omega
  have hW15 : W ≤ 15 := by omega
  have H7n := Lib.hid (fun w hT => num_any n W HNB w hT)
  have H7m := Lib.hid (fun w hT => num_any m W HMB w hT)
  clear hT hn hm hb
  cases hbn : nuBad n W
  · cases hbm : nuBad m W
    · obtain ⟨en, vn⟩ := nu_ok hbn
      obtain ⟨em, vm⟩ := nu_ok hbm
      obtain ⟨-, -, n0, nlt⟩ := nu_in hbn
      obtain ⟨-, -, m0, mlt⟩ := nu_in hbm
      rw [Int.toNat_natCast] at vn vm nlt mlt
      rw [en, vn] at H7n
      rw [em, vm] at H7m
      have hl := bl_num W n.toNat m.toNat nlt mlt
      have hsA : (bst (dgw W n.toNat)).size = W := by rw [bst_size, dgw_len]
      have hsB : (bst (dgw W m.toNat)).size = W := by rw [bst_size, dgw_len]
      have hsS : (bst (dgw W n.toNat) ++ bst (dgw W m.toNat)).size = W + W := by rw [ByteArray.size_append, hsA, hsB]
      have R1 := Lib.hid (fun g w hk => rnum_ok g 0 W n.toNat (bst (dgw W n.toNat) ++ bst (dgw W m.toNat)) hW1 hW15 (by rw [hsS]; omega) (by rw [hsS]; omega) (ex_first W n.toNat m.toNat) nlt w hk)
      have R2 := Lib.hid (fun g w hk => rnum_ok g W W m.toNat (bst (dgw W n.toNat) ++ bst (dgw W m.toNat)) hW1 hW15 (by rw [hsS]; omega) (by rw [hsS]; omega) (ex_second W n.toNat m.toNat) mlt w hk)
      have RE := Lib.hid (fun g w hk => end_any g (bst (dgw W n.toNat) ++ bst (dgw W m.toNat)) (by rw [hsS]; omega) w hk)
      rw [hsS] at RE
      rw [Int.toNat_of_nonneg n0, Nat.zero_add] at R1
      rw [Int.toNat_of_nonneg m0] at R2
      have RN := Lib.hid newr_any
      have hd : decide (n.toNat < m.toNat) = decide (n < m) := by congr 1; rw [eq_iff_iff]; omega
      rw [hd] at hl
      have x1 : ((((bst (dgw W n.toNat)).size : Nat) : Int) != (W : Int)) = false := by rw [hsA]; simp
      have x2 : ((((bst (dgw W m.toNat)).size : Nat) : Int) != (W : Int)) = false := by rw [hsB]; simp
      have hA30 : (bst (dgw W n.toNat)).size ≤ 100 := by omega
      have hB30 : (bst (dgw W m.toNat)).size ≤ 100 := by omega
      generalize bst (dgw W n.toNat) = A at *
      generalize bst (dgw W m.toNat) = B at *
      clear hbn hbm en vn em vm nlt mlt hsA hsB hsS hd n0 m0
      obtain ⟨l, hlt⟩ : ∃ l, decide (n < m) = l := ⟨_, rfl⟩
      rw [hlt] at hl
      cases l
      all_goals
        go_enter Tryd.func5, Tryd.ntmps5
        go_wp2_with fail
        refine (H7n.out _ HT.out).mono ?_
        rintro e w1 ⟨rfl, hb⟩
        have B1 := Lib.hid hb
        clear hb
        go_wp2_with fail
        refine (H7m.out _ (HT.out.call B1.out)).mono ?_
        rintro e w2 ⟨rfl, hb⟩
        have B2 := Lib.hid (below_call B1.out hb)
        clear hb
        go_wp2_with fail
        refine (RN.out _ _).mono ?_
        rintro e w3 ⟨rfl, hw3⟩
        have K3 := Lib.hid (show Blk w3 w2.heap.size 59 (rd (A ++ B) 0 0) by rw [hw3]; exact Blk.new _ _ _)
        have B3 := Lib.hid (show Below w.heap.size w w3 by rw [hw3]; exact B2.out.alloc B2.out.size _)
        clear hw3
        go_wp2_with fail
        refine (R1.out _ _ K3.out).mono ?_
        rintro e w4 ⟨rfl, hk, hb⟩
        have K4 := Lib.hid hk
        have B4 := Lib.hid (B3.out.trans (hb.mono B2.out.size))
        clear hk hb
        go_wp2_with fail
        refine (R2.out _ _ K4.out).mono ?_
        rintro e w5 ⟨rfl, hk, hb⟩
        have K5 := Lib.hid hk
        have B5 := Lib.hid (B4.out.trans (hb.mono B2.out.size))
        clear hk hb
        go_wp2_with fail
        refine (RE.out _ _ K5.out).mono ?_
        rintro e w6 ⟨rfl, hb⟩
        have B6 := Lib.hid (below_call B5.out hb)
        clear hb
        go_wp2_with fail
        refine (HAW.out _ (HT.out.call B6.out)).mono ?_
        rintro e w7 ⟨rfl, hb⟩
        have B7 := Lib.hid (below_call B6.out hb)
        clear hb
        go_wp2_with fail
        go_ret
        exact ⟨rfl, B7.out⟩
    · obtain ⟨en, vn⟩ := nu_ok hbn
      obtain ⟨em, vm⟩ := nu_bad hbm
      obtain ⟨-, -, n0, -⟩ := nu_in hbn
      rw [en] at H7n
      rw [em] at H7m
      have p1 : decide (0 ≤ n) = true := decide_eq_true n0
      clear hbn hbm en vn em vm
      by_cases m0 : 0 ≤ m
      · have p2 : decide (0 ≤ m) = true := decide_eq_true m0
        go_enter Tryd.func5, Tryd.ntmps5
        go_wp2_with fail
        refine (H7n.out _ HT.out).mono ?_
        rintro e w1 ⟨rfl, hb⟩
        have B1 := Lib.hid hb
        clear hb
        go_wp2_with fail
        refine (H7m.out _ (HT.out.call B1.out)).mono ?_
        rintro e w2 ⟨rfl, hb⟩
        have B2 := Lib.hid (below_call B1.out hb)
        clear hb
        go_wp2_with fail
        refine (HAW.out _ (HT.out.call B2.out)).mono ?_
        rintro e w7 ⟨rfl, hb⟩
        have B7 := Lib.hid (below_call B2.out hb)
        clear hb
        go_wp2_with fail
        go_ret
        exact ⟨rfl, B7.out⟩
      · have p2 : decide (0 ≤ m) = false := decide_eq_false m0
        go_enter Tryd.func5, Tryd.ntmps5
        go_wp2_with fail
        refine (H7n.out _ HT.out).mono ?_
        rintro e w1 ⟨rfl, hb⟩
        have B1 := Lib.hid hb
        clear hb
        go_wp2_with fail
        refine (H7m.out _ (HT.out.call B1.out)).mono ?_
        rintro e w2 ⟨rfl, hb⟩
        have B2 := Lib.hid (below_call B1.out hb)
        clear hb
        go_wp2_with fail
        refine (HAW.out _ (HT.out.call B2.out)).mono ?_
        rintro e w7 ⟨rfl, hb⟩
        have B7 := Lib.hid (below_call B2.out hb)
        clear hb
        go_wp2_with fail
        go_ret
        exact ⟨rfl, B7.out⟩
  · obtain ⟨en, vn⟩ := nu_bad hbn
    rw [en] at H7n
    cases hbm : nuBad m W
    · obtain ⟨em, vm⟩ := nu_ok hbm
      obtain ⟨-, -, m0, -⟩ := nu_in hbm
      rw [em] at H7m
      have p1 : decide (0 ≤ m) = true := decide_eq_true m0
      clear hbn hbm en vn em vm
      by_cases n0 : 0 ≤ n
      · have p2 : decide (0 ≤ n) = true := decide_eq_true n0
        go_enter Tryd.func5, Tryd.ntmps5
        go_wp2_with fail
        refine (H7n.out _ HT.out).mono ?_
        rintro e w1 ⟨rfl, hb⟩
        have B1 := Lib.hid hb
        clear hb
        go_wp2_with fail
        refine (H7m.out _ (HT.out.call B1.out)).mono ?_
        rintro e w2 ⟨rfl, hb⟩
        have B2 := Lib.hid (below_call B1.out hb)
        clear hb
        go_wp2_with fail
        refine (HAW.out _ (HT.out.call B2.out)).mono ?_
        rintro e w7 ⟨rfl, hb⟩
        have B7 := Lib.hid (below_call B2.out hb)
        clear hb
        go_wp2_with fail
        go_ret
        exact ⟨rfl, B7.out⟩
      · have p2 : decide (0 ≤ n) = false := decide_eq_false n0
        go_enter Tryd.func5, Tryd.ntmps5
        go_wp2_with fail
        refine (H7n.out _ HT.out).mono ?_
        rintro e w1 ⟨rfl, hb⟩
        have B1 := Lib.hid hb
        clear hb
        go_wp2_with fail
        refine (H7m.out _ (HT.out.call B1.out)).mono ?_
        rintro e w2 ⟨rfl, hb⟩
        have B2 := Lib.hid (below_call B1.out hb)
        clear hb
        go_wp2_with fail
        refine (HAW.out _ (HT.out.call B2.out)).mono ?_
        rintro e w7 ⟨rfl, hb⟩
        have B7 := Lib.hid (below_call B2.out hb)
        clear hb
        go_wp2_with fail
        go_ret
        exact ⟨rfl, B7.out⟩
    · obtain ⟨em, vm⟩ := nu_bad hbm
      rw [em] at H7m
      clear hbn hbm en vn em vm
      by_cases n0 : 0 ≤ n
      · have p2 : decide (0 ≤ n) = true := decide_eq_true n0
        by_cases m0 : 0 ≤ m
        · have p1 : decide (0 ≤ m) = true := decide_eq_true m0
          go_enter Tryd.func5, Tryd.ntmps5
          go_wp2_with fail
          refine (H7n.out _ HT.out).mono ?_
          rintro e w1 ⟨rfl, hb⟩
          have B1 := Lib.hid hb
          clear hb
          go_wp2_with fail
          refine (H7m.out _ (HT.out.call B1.out)).mono ?_
          rintro e w2 ⟨rfl, hb⟩
          have B2 := Lib.hid (below_call B1.out hb)
          clear hb
          go_wp2_with fail
          refine (HAW.out _ (HT.out.call B2.out)).mono ?_
          rintro e w7 ⟨rfl, hb⟩
          have B7 := Lib.hid (below_call B2.out hb)
          clear hb
          go_wp2_with fail
          go_ret
          exact ⟨rfl, B7.out⟩
        · have p1 : decide (0 ≤ m) = false := decide_eq_false m0
          go_enter Tryd.func5, Tryd.ntmps5
          go_wp2_with fail
          refine (H7n.out _ HT.out).mono ?_
          rintro e w1 ⟨rfl, hb⟩
          have B1 := Lib.hid hb
          clear hb
          go_wp2_with fail
          refine (H7m.out _ (HT.out.call B1.out)).mono ?_
          rintro e w2 ⟨rfl, hb⟩
          have B2 := Lib.hid (below_call B1.out hb)
          clear hb
          go_wp2_with fail
          refine (HAW.out _ (HT.out.call B2.out)).mono ?_
          rintro e w7 ⟨rfl, hb⟩
          have B7 := Lib.hid (below_call B2.out hb)
          clear hb
          go_wp2_with fail
          go_ret
          exact ⟨rfl, B7.out⟩
      · have p2 : decide (0 ≤ n) = false := decide_eq_false n0
        by_cases m0 : 0 ≤ m
        · have p1 : decide (0 ≤ m) = true := decide_eq_true m0
          go_enter Tryd.func5, Tryd.ntmps5
          go_wp2_with fail
          refine (H7n.out _ HT.out).mono ?_
          rintro e w1 ⟨rfl, hb⟩
          have B1 := Lib.hid hb
          clear hb
          go_wp2_with fail
          refine (H7m.out _ (HT.out.call B1.out)).mono ?_
          rintro e w2 ⟨rfl, hb⟩
          have B2 := Lib.hid (below_call B1.out hb)
          clear hb
          go_wp2_with fail
          refine (HAW.out _ (HT.out.call B2.out)).mono ?_
          rintro e w7 ⟨rfl, hb⟩
          have B7 := Lib.hid (below_call B2.out hb)
          clear hb
          go_wp2_with fail
          go_ret
          exact ⟨rfl, B7.out⟩
        · have p1 : decide (0 ≤ m) = false := decide_eq_false m0
          go_enter Tryd.func5, Tryd.ntmps5
          go_wp2_with fail
          refine (H7n.out _ HT.out).mono ?_
          rintro e w1 ⟨rfl, hb⟩
          have B1 := Lib.hid hb
          clear hb
          go_wp2_with fail
          refine (H7m.out _ (HT.out.call B1.out)).mono ?_
          rintro e w2 ⟨rfl, hb⟩
          have B2 := Lib.hid (below_call B1.out hb)
          clear hb
          go_wp2_with fail
          refine (HAW.out _ (HT.out.call B2.out)).mono ?_
          rintro e w7 ⟨rfl, hb⟩
          have B7 := Lib.hid (below_call B2.out hb)
          clear hb
          go_wp2_with fail
          go_ret
          exact ⟨rfl, B7.out⟩
end Go.Proofs.YtknipjjmpdnomaaDoor
