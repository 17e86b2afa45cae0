/- The walk of ChecksumOpens. -/
import Derived.Test.YtdciiegdgpepbaaH
import Derived.Test.YtdciiegdgpepbaaM
set_option linter.unusedVariables false
set_option linter.unusedSimpArgs false
namespace Go.Proofs.Ytdciiegdgpepbaa
open Go.ChangeShapes Go.WideShapes Go.ChangeAt Go.RowKit
theorem sealOf_size (s : ByteArray) : (sealOf s).size = s.size + 8 := by unfold sealOf; rw [ByteArray.size_append, sealB_size]
theorem opens_head (s : ByteArray) (w : World) (h : s.size ≤ 300) : openS (sealOf s) = s ∧ openE (sealOf s) = 0 := by
  have := open_app s (crcOf s) (crcOf_lt s)
  simpa [sealOf] using this
theorem laid (w : World) (t : ByteArray) (cap : Nat) : ∃ w5, w.drew.alloc (.cells (bytesRow t cap) 5 ((bytesRow t cap).size, (bytesRow t cap).size + 1)) = w5 ∧
    (∀ j, j < t.size → w5.cell? ⟨w.heap.size, j, none⟩ = some (.int .u8 (byteAt t j : Int))) ∧ (∀ j, j < t.size → w5.frozen? ⟨w.heap.size, j, none⟩ = false) ∧ w.heap.size < w5.heap.size ∧ Below w.heap.size w w5 := by
  refine ⟨_, rfl, fun j hj => ?_, fun j hj => ?_, ?_, ?_⟩
  · exact (World.cell?_alloc_mark w.drew _ 5 _ j).trans (row_at t cap hj)
  · have := row_size t cap
    have hh : (w.drew.alloc (.cells (bytesRow t cap) 5 ((bytesRow t cap).size, (bytesRow t cap).size + 1))).heap[w.heap.size]? = some (.cells (bytesRow t cap) 5 ((bytesRow t cap).size, (bytesRow t cap).size + 1)) := by
      show (w.heap.push _)[w.heap.size]? = _
      simp
    unfold World.frozen?
    rw [hh]
    show (decide ((bytesRow t cap).size ≤ j) && decide (j < (bytesRow t cap).size + 1)) = false
    rw [decide_eq_false (by omega)]
    rfl
  · show _ < (w.heap.push _).size
    simp
  · exact (Below.refl _ _).drew.alloc (Nat.le_refl _) _
theorem conv_back (w5 : World) (n4 : Nat) (t : ByteArray) (m v cap : Nat) (hc : ∀ j, j < t.size → w5.cell? ⟨n4, j, none⟩ = some (.int .u8 (byteAt t j : Int))) (hm : m < t.size) (hv : v < 256) :
    (convert 38 9 (.slice (some ⟨n4, 0, none⟩) t.size cap)).run Try.prog (w5.setCell ⟨n4, m, none⟩ (.int .u8 (v : Int))).drew = .ok (.string (setB t m (UInt8.ofNat v))) (w5.setCell ⟨n4, m, none⟩ (.int .u8 (v : Int))).drew := by
  have hsz := setB_size t m (UInt8.ofNat v)
  have hlen : (setB t m (UInt8.ofNat v)).data.toList.length = t.size := by rw [Array.length_toList]; exact hsz
  have h := run_convert_bytes_back (P := Try.prog) (w5.setCell ⟨n4, m, none⟩ (.int .u8 (v : Int))).drew 38 9 5 ⟨n4, 0, none⟩ cap (setB t m (UInt8.ofNat v)).data.toList Try.underlying38 Try.underlying5 Try.underlying9 (fun j hj => by
    have ha : (⟨n4, 0, none⟩ : Addr).add j = ⟨n4, j, none⟩ := by simp [Addr.add]; intro h; exact h.symm
    rw [ha]
    have hj' : j < t.size := by rw [← hlen]; exact hj
    have hb : ((setB t m (UInt8.ofNat v)).data.toList[j]'hj).toNat = byteAt (setB t m (UInt8.ofNat v)) j := by
      rw [byteAt_data _ (by rw [hsz]; exact hj')]
      rw [Array.getElem_toList]
    rw [hb]
    show (w5.setCell ⟨n4, m, none⟩ (.int .u8 (v : Int))).cell? ⟨n4, j, none⟩ = _
    by_cases hjm : j = m
    · subst hjm
      rw [byteAt_setB_eq t _ hm, UInt8.toNat_ofNat', Nat.mod_eq_of_lt hv]
      exact World.cell?_setCell_same _ _ _ (by rw [hc j hj'])
    · rw [byteAt_setB_ne t _ hjm, World.cell?_setCell_other _ _ _ _ (by intro h; exact hjm (by injection h with _ h2; exact h2.symm))]
      exact hc j hj')
  rw [hlen] at h
  exact h
theorem checksumOpens.walk (s : ByteArray) (at_ by_ : Int) (w : World) (hs : s.size ≤ maxLen) (ha : (Lit.int .u16 at_).wf = true) (hby : (Lit.int .u8 by_).wf = true) :
    Calls Try.prog 7 #[.string s, .int .u16 at_, .int .u8 by_] w fun e w' => e = .returned (.bool true) ∧ Below w.heap.size w w' := by
  have hsm := hs
  unfold maxLen at hs
  have b16 := bounds_u16 ha
  have b8 := bounds_u8 hby
  go_enter Try.func7, Try.ntmps7
  by_cases h : 300 < s.size
  · go_wp2_with fail
    refine (awake_any _).mono ?_
    rintro e w1 ⟨rfl, hb1⟩
    go_wp2_with fail
    go_ret
    exact ⟨rfl, hb1⟩
  · have hsz := sealOf_size s
    obtain ⟨hS, hE⟩ := opens_head s w (by omega)
    go_wp2_with fail
    refine (Seal_any s _ (by omega)).mono ?_
    rintro e w1 ⟨rfl, hb1⟩
    go_wp2_with fail
    refine (Open_any _ _ (by omega)).mono ?_
    rw [hS, hE]
    rintro e w2 ⟨rfl, hb2⟩
    clear hS hE
    go_wp2_with fail
    refine (Open_any s _ (by omega)).mono ?_
    rintro e w3 ⟨rfl, hb3⟩
    have hsy : (openS s).size ≤ 2000 := by
      unfold openS bodyOf; split
      · show 0 ≤ 2000; omega
      · split
        · rw [ByteArray.size_extract]; omega
        · show 0 ≤ 2000; omega
    have hB3 : Below w.heap.size w w3 := below_call (below_call hb1 hb2) hb3
    have HB := Lib.hid hB3
    clear hB3 hb1 hb2 hb3
    have tail : ∀ (F : Array Value) (W : World), True := fun _ _ => trivial
    clear tail
    rcases openE_cases s with h0 | h0 | h0
    · have hcl := open_then s h0
      rw [h0]
      have HCL := Lib.hid hcl
      clear hcl h0
      go_wp2_with fail
      refine (Seal_any (openS s) _ hsy).mono ?_
      rw [HCL.out]
      rintro e w4 ⟨rfl, hb4⟩
      have HB4 := Lib.hid (below_call HB.out hb4)
      clear hb4
      by_cases hz : by_ = 0
      · go_wp2_with fail
        refine (awake_any _).mono ?_
        rintro e w5 ⟨rfl, hb5⟩
        go_wp2_with fail
        go_ret
        exact ⟨rfl, below_call HB4.out hb5⟩
      · have hz' : (by_ == 0) = false := by simp; omega
        by_cases hl0 : s.size = 0
        · have hl' : ((s.size : Int) == 0) = true := beq_iff_eq.2 (by omega)
          go_wp2_with fail
          refine (awake_any _).mono ?_
          rintro e w5 ⟨rfl, hb5⟩
          go_wp2_with fail
          go_ret
          exact ⟨rfl, below_call HB4.out hb5⟩
        · have hl' : ((s.size : Int) == 0) = false := beq_eq_false_iff_ne.2 (by omega)
          go_wp2_with fail
          rw [run_bytes_of_string w4 9 38 5 (sealOf s) Try.underlying9 Try.underlying38 Try.underlying5]
          obtain ⟨w5, hW5, hc5, hf5, hn5, hB5⟩ := laid w4 (sealOf s) (grownCap w4 (sealOf s).size 0 5)
          rw [hW5]
          have HC5 := Lib.hid hc5
          have HF5 := Lib.hid hf5
          have HB5 := Lib.hid (below_call HB4.out hB5)
          have hN := HB4.out.size
          clear hW5 hc5 hf5 hB5
          generalize grownCap w4 (sealOf s).size 0 5 = cap
          generalize w4.heap.size = n4 at hn5 HC5 HF5 hN
          obtain ⟨m, hm, hlt⟩ : ∃ m : Nat, at_ % (s.size : Int) = (m : Int) ∧ m < s.size := ⟨(at_ % (s.size : Int)).toNat, by have := Int.emod_nonneg at_ (show (s.size : Int) ≠ 0 by omega); omega, by have := Int.emod_lt_of_pos at_ (show (0 : Int) < s.size by omega); have := Int.emod_nonneg at_ (show (s.size : Int) ≠ 0 by omega); omega⟩
          have hcm := HC5.out m (by omega)
          have hfm := HF5.out m (by omega)
          have hbm := byteAt_lt (sealOf s) m
          have hbx := u8_xor (byteAt (sealOf s) m : Int) by_ (by omega) (by omega) (by omega) (by omega)
          have hv : byteAt (sealOf s) m ^^^ by_.toNat < 256 := Nat.xor_lt_two_pow (n := 8) hbm (by omega)
          have hcv := conv_back w5 n4 (sealOf s) m (byteAt (sealOf s) m ^^^ by_.toNat) cap HC5.out (by omega) hv
          rw [hsz] at hcv
          have hTe : openE (setB (sealOf s) m (UInt8.ofNat (byteAt (sealOf s) m ^^^ by_.toNat))) = 9 := by
            rw [show byteAt (sealOf s) m = byteAt s m from byteAt_append s _ hlt]
            exact open_turn s hlt (by omega) (by omega)
          have hTs := setB_size (sealOf s) m (UInt8.ofNat (byteAt (sealOf s) m ^^^ by_.toNat))
          generalize setB (sealOf s) m (UInt8.ofNat (byteAt (sealOf s) m ^^^ by_.toNat)) = T at hcv hTe hTs
          have HCV := Lib.hid hcv
          have HTE := Lib.hid hTe
          clear hcv hTe
          go_wp2_with fail
          go_region
          go_wp2_with fail
          rw [HCV.out]
          go_wp2_with fail
          refine (Open_any T _ (by omega)).mono ?_
          rw [HTE.out]
          rintro e w6 ⟨rfl, hb6⟩
          go_wp2_with fail
          refine (awake_any _).mono ?_
          rintro e w7 ⟨rfl, hb7⟩
          go_wp2_with fail
          go_ret
          exact ⟨rfl, below_call (below_call ((HB5.out.setCell (p := ⟨n4, m, none⟩) hN _).drew) hb6) hb7⟩
    · have hy := open_else s (by omega)
      rw [h0, hy]
      clear hy h0
      by_cases hz : by_ = 0
      · go_wp2_with fail
        refine (awake_any _).mono ?_
        rintro e w5 ⟨rfl, hb5⟩
        go_wp2_with fail
        go_ret
        exact ⟨rfl, below_call HB.out hb5⟩
      · have hz' : (by_ == 0) = false := by simp; omega
        by_cases hl0 : s.size = 0
        · have hl' : ((s.size : Int) == 0) = true := beq_iff_eq.2 (by omega)
          go_wp2_with fail
          refine (awake_any _).mono ?_
          rintro e w5 ⟨rfl, hb5⟩
          go_wp2_with fail
          go_ret
          exact ⟨rfl, below_call HB.out hb5⟩
        · have hl' : ((s.size : Int) == 0) = false := beq_eq_false_iff_ne.2 (by omega)
          go_wp2_with fail
          rw [run_bytes_of_string w3 9 38 5 (sealOf s) Try.underlying9 Try.underlying38 Try.underlying5]
          obtain ⟨w5, hW5, hc5, hf5, hn5, hB5⟩ := laid w3 (sealOf s) (grownCap w3 (sealOf s).size 0 5)
          rw [hW5]
          have HC5 := Lib.hid hc5
          have HF5 := Lib.hid hf5
          have HB5 := Lib.hid (below_call HB.out hB5)
          have hN := HB.out.size
          clear hW5 hc5 hf5 hB5
          generalize grownCap w3 (sealOf s).size 0 5 = cap
          generalize w3.heap.size = n4 at hn5 HC5 HF5 hN
          obtain ⟨m, hm, hlt⟩ : ∃ m : Nat, at_ % (s.size : Int) = (m : Int) ∧ m < s.size := ⟨(at_ % (s.size : Int)).toNat, by have := Int.emod_nonneg at_ (show (s.size : Int) ≠ 0 by omega); omega, by have := Int.emod_lt_of_pos at_ (show (0 : Int) < s.size by omega); have := Int.emod_nonneg at_ (show (s.size : Int) ≠ 0 by omega); omega⟩
          have hcm := HC5.out m (by omega)
          have hfm := HF5.out m (by omega)
          have hbm := byteAt_lt (sealOf s) m
          have hbx := u8_xor (byteAt (sealOf s) m : Int) by_ (by omega) (by omega) (by omega) (by omega)
          have hv : byteAt (sealOf s) m ^^^ by_.toNat < 256 := Nat.xor_lt_two_pow (n := 8) hbm (by omega)
          have hcv := conv_back w5 n4 (sealOf s) m (byteAt (sealOf s) m ^^^ by_.toNat) cap HC5.out (by omega) hv
          rw [hsz] at hcv
          have hTe : openE (setB (sealOf s) m (UInt8.ofNat (byteAt (sealOf s) m ^^^ by_.toNat))) = 9 := by
            rw [show byteAt (sealOf s) m = byteAt s m from byteAt_append s _ hlt]
            exact open_turn s hlt (by omega) (by omega)
          have hTs := setB_size (sealOf s) m (UInt8.ofNat (byteAt (sealOf s) m ^^^ by_.toNat))
          generalize setB (sealOf s) m (UInt8.ofNat (byteAt (sealOf s) m ^^^ by_.toNat)) = T at hcv hTe hTs
          have HCV := Lib.hid hcv
          have HTE := Lib.hid hTe
          clear hcv hTe
          go_wp2_with fail
          go_region
          go_wp2_with fail
          rw [HCV.out]
          go_wp2_with fail
          refine (Open_any T _ (by omega)).mono ?_
          rw [HTE.out]
          rintro e w6 ⟨rfl, hb6⟩
          go_wp2_with fail
          refine (awake_any _).mono ?_
          rintro e w7 ⟨rfl, hb7⟩
          go_wp2_with fail
          go_ret
          exact ⟨rfl, below_call (below_call ((HB5.out.setCell (p := ⟨n4, m, none⟩) hN _).drew) hb6) hb7⟩
    · have hy := open_else s (by omega)
      rw [h0, hy]
      clear hy h0
      by_cases hz : by_ = 0
      · go_wp2_with fail
        refine (awake_any _).mono ?_
        rintro e w5 ⟨rfl, hb5⟩
        go_wp2_with fail
        go_ret
        exact ⟨rfl, below_call HB.out hb5⟩
      · have hz' : (by_ == 0) = false := by simp; omega
        by_cases hl0 : s.size = 0
        · have hl' : ((s.size : Int) == 0) = true := beq_iff_eq.2 (by omega)
          go_wp2_with fail
          refine (awake_any _).mono ?_
          rintro e w5 ⟨rfl, hb5⟩
          go_wp2_with fail
          go_ret
          exact ⟨rfl, below_call HB.out hb5⟩
        · have hl' : ((s.size : Int) == 0) = false := beq_eq_false_iff_ne.2 (by omega)
          go_wp2_with fail
          rw [run_bytes_of_string w3 9 38 5 (sealOf s) Try.underlying9 Try.underlying38 Try.underlying5]
          obtain ⟨w5, hW5, hc5, hf5, hn5, hB5⟩ := laid w3 (sealOf s) (grownCap w3 (sealOf s).size 0 5)
          rw [hW5]
          have HC5 := Lib.hid hc5
          have HF5 := Lib.hid hf5
          have HB5 := Lib.hid (below_call HB.out hB5)
          have hN := HB.out.size
          clear hW5 hc5 hf5 hB5
          generalize grownCap w3 (sealOf s).size 0 5 = cap
          generalize w3.heap.size = n4 at hn5 HC5 HF5 hN
          obtain ⟨m, hm, hlt⟩ : ∃ m : Nat, at_ % (s.size : Int) = (m : Int) ∧ m < s.size := ⟨(at_ % (s.size : Int)).toNat, by have := Int.emod_nonneg at_ (show (s.size : Int) ≠ 0 by omega); omega, by have := Int.emod_lt_of_pos at_ (show (0 : Int) < s.size by omega); have := Int.emod_nonneg at_ (show (s.size : Int) ≠ 0 by omega); omega⟩
          have hcm := HC5.out m (by omega)
          have hfm := HF5.out m (by omega)
          have hbm := byteAt_lt (sealOf s) m
          have hbx := u8_xor (byteAt (sealOf s) m : Int) by_ (by omega) (by omega) (by omega) (by omega)
          have hv : byteAt (sealOf s) m ^^^ by_.toNat < 256 := Nat.xor_lt_two_pow (n := 8) hbm (by omega)
          have hcv := conv_back w5 n4 (sealOf s) m (byteAt (sealOf s) m ^^^ by_.toNat) cap HC5.out (by omega) hv
          rw [hsz] at hcv
          have hTe : openE (setB (sealOf s) m (UInt8.ofNat (byteAt (sealOf s) m ^^^ by_.toNat))) = 9 := by
            rw [show byteAt (sealOf s) m = byteAt s m from byteAt_append s _ hlt]
            exact open_turn s hlt (by omega) (by omega)
          have hTs := setB_size (sealOf s) m (UInt8.ofNat (byteAt (sealOf s) m ^^^ by_.toNat))
          generalize setB (sealOf s) m (UInt8.ofNat (byteAt (sealOf s) m ^^^ by_.toNat)) = T at hcv hTe hTs
          have HCV := Lib.hid hcv
          have HTE := Lib.hid hTe
          clear hcv hTe
          go_wp2_with fail
          go_region
          go_wp2_with fail
          rw [HCV.out]
          go_wp2_with fail
          refine (Open_any T _ (by omega)).mono ?_
          rw [HTE.out]
          rintro e w6 ⟨rfl, hb6⟩
          go_wp2_with fail
          refine (awake_any _).mono ?_
          rintro e w7 ⟨rfl, hb7⟩
          go_wp2_with fail
          go_ret
          exact ⟨rfl, below_call (below_call ((HB5.out.setCell (p := ⟨n4, m, none⟩) hN _).drew) hb6) hb7⟩
end Go.Proofs.Ytdciiegdgpepbaa
