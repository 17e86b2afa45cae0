/- The walk of Numbers. -/
import Derived.Test.YtagfimemiggnlaaDoorY
set_option linter.unusedVariables false
set_option linter.unusedSimpArgs false
namespace Go.Proofs.YtagfimemiggnlaaDoor
open Go.Sort Go.ChangeShapes Go.WideShapes Go.ChangeAt Go.RowKit
set_option maxHeartbeats 4000000 in
theorem panNumbers.walk (p : ByteArray) (n len : Int) (w : World) (hs : p.size ≤ maxLen) (hn : (Lit.int .i64 n).wf = true) (hl : (Lit.int .i64 len).wf = true) (hT : TabP w) : Calls Tryd.prog 8 #[.string p, .int .i64 n, .int .i64 len] w fun e w' => e = .returned (.bool true) ∧ Below w.heap.size w w' := by
  have HT := Lib.hid hT
  have HAW := Lib.hid awake_any
  clear hT hn hl
  unfold maxLen at hs
  by_cases h100 : 100 < p.size
  · have c1 : decide (100 < (p.size : Int)) = true := decide_eq_true (by omega)
    clear h100
    go_enter Tryd.func8, Tryd.ntmps8
    go_wp2_with fail
    refine (HAW.out _ (HT.out.call (Below.refl w.heap.size w))).mono ?_
    rintro e w1 ⟨rfl, hb⟩
    have B1 := Lib.hid (below_call (Below.refl w.heap.size w) hb)
    clear hb
    go_wp2_with fail
    go_ret
    exact ⟨rfl, B1.out⟩
  have c1 : decide (100 < (p.size : Int)) = false := decide_eq_false (by omega)
  by_cases hneg : n < 0
  · have c2 : decide (n < 0) = true := decide_eq_true hneg
    clear h100 hneg
    go_enter Tryd.func8, Tryd.ntmps8
    go_wp2_with fail
    refine (HAW.out _ (HT.out.call (Below.refl w.heap.size w))).mono ?_
    rintro e w1 ⟨rfl, hb⟩
    have B1 := Lib.hid (below_call (Below.refl w.heap.size w) hb)
    clear hb
    go_wp2_with fail
    go_ret
    exact ⟨rfl, B1.out⟩
  have c2 : decide (n < 0) = false := decide_eq_false hneg
  by_cases hbig : 1152921504606846976 < n
  · have c3 : decide (1152921504606846976 < n) = true := decide_eq_true hbig
    clear h100 hneg hbig
    go_enter Tryd.func8, Tryd.ntmps8
    go_wp2_with fail
    refine (HAW.out _ (HT.out.call (Below.refl w.heap.size w))).mono ?_
    rintro e w1 ⟨rfl, hb⟩
    have B1 := Lib.hid (below_call (Below.refl w.heap.size w) hb)
    clear hb
    go_wp2_with fail
    go_ret
    exact ⟨rfl, B1.out⟩
  have c3 : decide (1152921504606846976 < n) = false := decide_eq_false hbig
  obtain ⟨N, hN⟩ : ∃ N : Nat, n = N := ⟨n.toNat, by omega⟩
  have H21 := Lib.hid (fun w hT => make_any p n len (by omega) (by omega) w hT)
  have H21' := Lib.hid (fun w hT => make_any p (n + 1) len (by omega) (by omega) w hT)
  have hsum : wrap64 (n + 1) = n + 1 := IntWalk.wrap64_in _ (by omega)
  obtain ⟨n1, hn1⟩ : ∃ n1, n1 = n + 1 := ⟨_, rfl⟩
  rw [← hn1] at H21' hsum
  have HN1 := Lib.hid hn1
  have hsum2 : n + 1 = n1 := hn1.symm
  have hsum3 : IntKind.i64.wrap (n + 1) = n1 := by rw [hsum2]; exact (IntWalk.i64_in n1 (by omega))
  clear hn1 hneg hbig
  cases hE : mkBad p n len
  · obtain ⟨v1, v2, v3, v4, v5, v6⟩ := mkV_is (p := p) (N := N) (len := len) (by rw [← hN]; exact hE)
    rw [← hN] at v1 v2 v3 v4 v5 v6
    have hE0 := (mkGood_of hE).1
    have hV19 : (mkV p n len).size ≤ 100 := by have := (chk_in _ v2).2.1; omega
    have H23 := Lib.hid (fun w => index_any p (mkV p n len) (by omega) (by omega) w)
    have H15 := Lib.hid (fun w => check_any (mkV p n len) (by omega) w)
    rw [v2] at H15
    rw [v5, v6] at H23
    rw [hE0] at H21
    have x1 : (((mkV p n len).size : Int) != len) = false := by rw [v1]; simp
    have x2 : (((mkV p n len).extract 0 p.size).toList != p.toList) = false := by rw [v4]; simp
    have x2b : (((mkV p n len).extract 0 p.size).toList == p.toList) = true := by rw [v4]; simp
    have x3 : decide (((mkV p n len).size : Int) < (p.size : Int)) = false := decide_eq_false (by omega)
    have x3b : ¬ (mkV p n len).size < p.size := by omega
    have x4 := cut_h (mkV p n len) p.size v3
    have hnn : (n != n) = false := by simp
    cases hE' : mkBad p n1 len
    · have hE1 := (mkGood_of hE').1
      rw [hE1] at H21'
      have hless : Op.bytesLess (mkV p n len).toList (mkV p n1 len).toList = true := by
        rw [HN1.out, hN]; exact mkV_less (by rw [← hN]; exact hE) (by rw [← hN, ← HN1.out]; exact hE')
      generalize mkV p n len = V at *
      generalize mkV p n1 len = V1 at *
      clear hE hE' hE0 hE1 v1 v2 v3 v4 v5 v6 h100 hs hN
      go_enter Tryd.func8, Tryd.ntmps8
      go_wp2_with fail
      refine (H21.out _ (HT.out.call (Below.refl w.heap.size w))).mono ?_
      rintro e w1 ⟨rfl, hb⟩
      have B1 := Lib.hid (below_call (Below.refl w.heap.size w) hb)
      clear hb
      go_wp2_with fail
      refine (H21'.out _ (HT.out.call B1.out)).mono ?_
      rintro e w2 ⟨rfl, hb⟩
      have B2 := Lib.hid (below_call B1.out hb)
      clear hb
      go_wp2_with fail
      refine (H23.out _).mono ?_
      rintro e w3 ⟨rfl, hb⟩
      have B3 := Lib.hid (below_call B2.out hb)
      clear hb
      go_wp2_with fail
      refine (H15.out _).mono ?_
      rintro e w4 ⟨rfl, hb⟩
      have B4 := Lib.hid (below_call B3.out hb)
      clear hb
      go_wp2_with fail
      refine (HAW.out _ (HT.out.call B4.out)).mono ?_
      rintro e w5 ⟨rfl, hb⟩
      have B5 := Lib.hid (below_call B4.out hb)
      clear hb
      go_wp2_with fail
      go_ret
      exact ⟨rfl, B5.out⟩
    · obtain ⟨hE1, hV1⟩ := mkBad_of hE'
      rw [hE1, hV1] at H21'
      generalize mkV p n len = V at *
      clear hE hE' hE0 hE1 hV1 v1 v2 v3 v4 v5 v6 h100 hs hN
      go_enter Tryd.func8, Tryd.ntmps8
      go_wp2_with fail
      refine (H21.out _ (HT.out.call (Below.refl w.heap.size w))).mono ?_
      rintro e w1 ⟨rfl, hb⟩
      have B1 := Lib.hid (below_call (Below.refl w.heap.size w) hb)
      clear hb
      go_wp2_with fail
      refine (H21'.out _ (HT.out.call B1.out)).mono ?_
      rintro e w2 ⟨rfl, hb⟩
      have B2 := Lib.hid (below_call B1.out hb)
      clear hb
      go_wp2_with fail
      refine (H23.out _).mono ?_
      rintro e w3 ⟨rfl, hb⟩
      have B3 := Lib.hid (below_call B2.out hb)
      clear hb
      go_wp2_with fail
      refine (H15.out _).mono ?_
      rintro e w4 ⟨rfl, hb⟩
      have B4 := Lib.hid (below_call B3.out hb)
      clear hb
      go_wp2_with fail
      refine (HAW.out _ (HT.out.call B4.out)).mono ?_
      rintro e w5 ⟨rfl, hb⟩
      have B5 := Lib.hid (below_call B4.out hb)
      clear hb
      go_wp2_with fail
      go_ret
      exact ⟨rfl, B5.out⟩
  · obtain ⟨hE0, hV0⟩ := mkBad_of hE
    obtain ⟨hE1, hV1⟩ := mkBad_of (show mkBad p n1 len = true by rw [HN1.out, hN]; exact mk_next (by rw [← hN]; exact hE))
    rw [hE0, hV0] at H21
    rw [hE1, hV1] at H21'
    clear hE hE0 hV0 hE1 hV1 h100 hs hN
    go_enter Tryd.func8, Tryd.ntmps8
    go_wp2_with fail
    refine (H21.out _ (HT.out.call (Below.refl w.heap.size w))).mono ?_
    rintro e w1 ⟨rfl, hb⟩
    have B1 := Lib.hid (below_call (Below.refl w.heap.size w) hb)
    clear hb
    go_wp2_with fail
    refine (H21'.out _ (HT.out.call B1.out)).mono ?_
    rintro e w2 ⟨rfl, hb⟩
    have B2 := Lib.hid (below_call B1.out hb)
    clear hb
    go_wp2_with fail
    refine (HAW.out _ (HT.out.call B2.out)).mono ?_
    rintro e w3 ⟨rfl, hb⟩
    have B3 := Lib.hid (below_call B2.out hb)
    clear hb
    go_wp2_with fail
    go_ret
    exact ⟨rfl, B3.out⟩
end Go.Proofs.YtagfimemiggnlaaDoor
