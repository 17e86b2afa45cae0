/- The walk of ChecksumBursts. -/
import Derived.Test.YtdciiegdgpepbaaL
import Derived.Test.YtdciiegdgpepbaaO
import Derived.Laws.ShiftsVarLaws
import Derived.Deep.DeepCutAuto
import Derived.Deep.LoopGhost
set_option linter.unusedVariables false
set_option linter.unusedSimpArgs false
namespace Go.Proofs.Ytdciiegdgpepbaa
open Go.ChangeShapes Go.WideShapes Go.ChangeAt Go.RowKit
/-- the block n holds the bytes of t, the rest stands as it stood -/
def Holds (w : World) (n : Nat) (t : ByteArray) (wr : World) : Prop :=
  (∀ j, j < t.size → wr.cell? ⟨n, j, none⟩ = some (.int .u8 (byteAt t j : Int))) ∧ (∀ j, j < t.size → wr.frozen? ⟨n, j, none⟩ = false) ∧ Below w.heap.size w wr
theorem holds_flip {w wr : World} {n q : Nat} {t : ByteArray} (h : Holds w n t wr) (hq : q / 8 < t.size) (hn : w.heap.size = n) :
    Holds w n (flipB t q) (wr.setCell ⟨n, q / 8, none⟩ (.int .u8 ((byteAt t (q / 8) ^^^ 2 ^ (q % 8) : Nat) : Int))) := by
  obtain ⟨hc, hf, hb⟩ := h
  refine ⟨fun j hj => ?_, fun j hj => ?_, hb.setCell (p := ⟨n, q / 8, none⟩) (by rw [hn]; exact Nat.le_refl _) _⟩
  · rw [flipB_size] at hj
    unfold flipB
    by_cases hjm : j = q / 8
    · subst hjm
      rw [byteAt_setB_eq t _ hj, UInt8.toNat_ofNat', Nat.mod_eq_of_lt (Nat.xor_lt_two_pow (n := 8) (byteAt_lt t _) (pow8 q))]
      exact World.cell?_setCell_same _ _ _ (hc _ hj)
    · rw [byteAt_setB_ne t _ hjm, World.cell?_setCell_other _ _ _ _ (by intro h; exact hjm (by injection h with _ h2; exact h2.symm))]
      exact hc j hj
  · rw [flipB_size] at hj
    have hz := hf j hj
    rw [← hz]
    exact World.frozen?_setCell _ _ _ _
theorem pow_mod8 {r : Nat} (h : 2 ^ r < 256) : (2 : Int) ^ r % 256 = ((2 ^ r : Nat) : Int) := by
  have e : (2 : Int) ^ r = ((2 ^ r : Nat) : Int) := by push_cast; rfl
  rw [e]
  exact Int.emod_eq_of_lt (Int.natCast_nonneg _) (Int.ofNat_lt.2 h)
def BRel (w : World) (s : ByteArray) (p X n4 : Nat) (g : Nat) (s8 s9 : Value) (wr : World) : Prop :=
  ∃ k : Nat, k ≤ 32 ∧ g = 32 - k ∧ s9 = .int .i64 k ∧ s8 = .bool (brc s p X k) ∧ Holds w n4 (brs s p X k) wr
theorem conv_same (wr : World) (n4 : Nat) (t : ByteArray) (cap : Nat) (hc : ∀ j, j < t.size → wr.cell? ⟨n4, j, none⟩ = some (.int .u8 (byteAt t j : Int))) :
    (convert 38 9 (.slice (some ⟨n4, 0, none⟩) t.size cap)).run Try.prog wr = .ok (.string t) wr := by
  have h := run_convert_bytes_back (P := Try.prog) wr 38 9 5 ⟨n4, 0, none⟩ cap t.data.toList Try.underlying38 Try.underlying5 Try.underlying9 (fun j hj => by
    have ha : (⟨n4, 0, none⟩ : Addr).add j = ⟨n4, j, none⟩ := by simp [Addr.add]; intro h; exact h.symm
    rw [ha]
    have hj' : j < t.size := by simpa using hj
    have hb : (t.data.toList[j]'hj).toNat = byteAt t j := by
      rw [byteAt_data _ hj', Array.getElem_toList]
    rw [hb]
    exact hc j hj')
  rw [show t.data.toList.length = t.size from Array.length_toList] at h
  exact h
set_option maxHeartbeats 1000000 in
theorem checksumBursts.walk (s : ByteArray) (at_ x : Int) (w : World) (hs : s.size ≤ maxLen) (ha : (Lit.int .u16 at_).wf = true) (hx : (Lit.int .u32 x).wf = true) :
    Calls Try.prog 6 #[.string s, .int .u16 at_, .int .u32 x] w fun e w' => e = .returned (.bool true) ∧ Below w.heap.size w w' := by
  have hsm := hs
  unfold maxLen at hs
  have b16 := bounds_u16 ha
  have b32 := bounds_u32 hx
  go_enter Try.func6, Try.ntmps6
  by_cases h : 300 < s.size
  · go_wp2_with fail
    refine (awake_any _).mono ?_
    rintro e w1 ⟨rfl, hb1⟩
    go_wp2_with fail
    go_ret
    exact ⟨rfl, hb1⟩
  · by_cases hl0 : s.size = 0
    · have hl' : ((s.size : Int) == 0) = true := beq_iff_eq.2 (by omega)
      go_wp2_with fail
      refine (awake_any _).mono ?_
      rintro e w1 ⟨rfl, hb1⟩
      go_wp2_with fail
      go_ret
      exact ⟨rfl, hb1⟩
    · have hl' : ((s.size : Int) == 0) = false := beq_eq_false_iff_ne.2 (by omega)
      have h300 : decide (300 < (s.size : Int)) = false := decide_eq_false (by omega)
      obtain ⟨X, rfl⟩ : ∃ X : Nat, x = (X : Int) := ⟨x.toNat, by omega⟩
      go_wp2_with fail
      rw [run_bytes_of_string w 9 38 5 s Try.underlying9 Try.underlying38 Try.underlying5]
      obtain ⟨w5, hW5, hc5, hf5, hn5, hB5⟩ := laid w s (grownCap w s.size 0 5)
      rw [hW5]
      have HH : Holds w w.heap.size s w5 := ⟨hc5, hf5, hB5⟩
      clear hW5 hc5 hf5 hB5
      generalize grownCap w s.size 0 5 = cap
      obtain ⟨n4, hn4⟩ : ∃ n4, w.heap.size = n4 := ⟨_, rfl⟩
      rw [hn4] at HH hn5 ⊢
      have HN := Lib.hid hn4
      have HH5 := Lib.hid HH
      clear hn4 HH
      obtain ⟨p, hm, hlt⟩ : ∃ p : Nat, at_ % (8 * (s.size : Int)) = (p : Int) ∧ p < 8 * s.size := ⟨(at_ % (8 * (s.size : Int))).toNat, by have := Int.emod_nonneg at_ (show (8 * (s.size : Int)) ≠ 0 by omega); omega, by have := Int.emod_lt_of_pos at_ (show (0 : Int) < 8 * (s.size : Int) by omega); have := Int.emod_nonneg at_ (show (8 * (s.size : Int)) ≠ 0 by omega); omega⟩
      go_wp2_with fail
      go_loopg [8, 9] 32 (fun g s8 s9 wr => BRel w s p X n4 g s8 s9 wr)
      case atStart => exact ⟨0, Nat.zero_le _, rfl, rfl, rfl, HH5.out⟩
      case round =>
        obtain ⟨k, hk, rfl, rfl, rfl, hH⟩ := hrel
        have hTs := brs_size s p X k
        have HH := Lib.hid hH
        clear hH
        by_cases hk32 : k < 32
        · have hcs : brc s p X (k + 1) = (brc s p X k || bcond s p X k) := rfl
          have hts : brs s p X (k + 1) = if bcond s p X k then flipB (brs s p X k) (p + k) else brs s p X k := rfl
          have HCS := Lib.hid hcs
          have HTS := Lib.hid hts
          clear hcs hts
          have hA : bits .and .u32 ((X : Int) / 2 ^ k) 1 = ((X / 2 ^ k % 2 : Nat) : Int) := by
            have e : ((X / 2 ^ k : Nat) : Int) = (X : Int) / 2 ^ k := by push_cast; rfl
            rw [← e]
            exact and1 (Nat.lt_of_le_of_lt (Nat.div_le_self _ _) (by omega))
          obtain ⟨q, hq⟩ : ∃ q : Nat, (p : Int) + (k : Int) = (q : Int) := ⟨p + k, by omega⟩
          have hbc : bcond s p X k = (decide (X / 2 ^ k % 2 = 1) && decide (p + k < 8 * s.size)) := by unfold bcond; rw [Nat.testBit_eq_decide_div_mod_eq]
          have HBC := Lib.hid hbc
          clear hbc
          have hm2 := Nat.mod_two_eq_zero_or_one (X / 2 ^ k)
          by_cases h1 : X / 2 ^ k % 2 = 1
          · rw [h1] at hA
            by_cases h2 : p + k < 8 * s.size
            · have hd : decide ((q : Int) < 8 * (s.size : Int)) = true := decide_eq_true (by omega)
              have hi : (q : Int) / 8 = ((q / 8 : Nat) : Int) := by omega
              have hr : (q : Int) % 8 = ((q % 8 : Nat) : Int) := by omega
              have hcm := HH.out.1 (q / 8) (by omega)
              have hfm := HH.out.2.1 (q / 8) (by omega)
              have hbm := byteAt_lt (brs s p X k) (q / 8)
              have hil : q / 8 < s.size := by omega
              have hrl : q % 8 < 8 := by omega
              generalize hie : q / 8 = i at hi hcm hfm hbm hil
              generalize hre : q % 8 = r at hr hrl
              have hp8 : 2 ^ r < 256 := by rw [← hre]; exact pow8 q
              have hbx : bits .xor .u8 (byteAt (brs s p X k) i : Int) ((2 : Int) ^ r % 256) = ((byteAt (brs s p X k) i ^^^ 2 ^ r : Nat) : Int) := by
                rw [pow_mod8 hp8]
                exact u8_xor_nat _ _ hbm hp8
              have HI := Lib.hid hie
              have HR := Lib.hid hre
              have H1 := Lib.hid h1
              have H2 := Lib.hid h2
              have HQ := Lib.hid (show p + k = q by omega)
              clear hie hre h1 h2 hm2
              go_wp2_with fail
              go_roundg (32 - (k + 1))
              · have hb1 : bcond s p X k = true := by rw [HBC.out, decide_eq_true H1.out, decide_eq_true H2.out]; rfl
                refine ⟨k + 1, by omega, rfl, rfl, ?_, ?_⟩
                · rw [HCS.out, hb1, Bool.or_true]
                · rw [HTS.out, if_pos hb1, HQ.out]
                  have HIO := HI.out
                  have HRO := HR.out
                  subst HIO HRO
                  exact holds_flip HH.out (by omega) HN.out
              · omega
            · have hd : decide ((q : Int) < 8 * (s.size : Int)) = false := decide_eq_false (by omega)
              have H1 := Lib.hid h1
              have H2 := Lib.hid h2
              clear h1 h2 hm2
              go_wp2_with fail
              go_roundg (32 - (k + 1))
              · have hb1 : bcond s p X k = false := by rw [HBC.out, decide_eq_false H2.out, Bool.and_false]
                refine ⟨k + 1, by omega, rfl, rfl, ?_, ?_⟩
                · rw [HCS.out, hb1, Bool.or_false]
                · rw [HTS.out, if_neg (by rw [hb1]; simp)]
                  exact HH.out
              · omega
          · have h0 : X / 2 ^ k % 2 = 0 := by omega
            rw [h0] at hA
            have H1 := Lib.hid h1
            clear h1 hm2 h0
            go_wp2_with fail
            go_roundg (32 - (k + 1))
            · have hb1 : bcond s p X k = false := by rw [HBC.out, decide_eq_false H1.out, Bool.false_and]
              refine ⟨k + 1, by omega, rfl, rfl, ?_, ?_⟩
              · rw [HCS.out, hb1, Bool.or_false]
              · rw [HTS.out, if_neg (by rw [hb1]; simp)]
                exact HH.out
            · omega
        · obtain rfl : k = 32 := by omega
          have hcv := conv_same wr n4 (brs s p X 32) cap HH.out.1
          rw [hTs] at hcv
          have hB := burst_crc s p X hlt
          generalize brs s p X 32 = T at hcv hTs hB HH
          have HCV := Lib.hid hcv
          clear hcv
          cases hbr : brc s p X 32
          · rw [hbr] at hB
            have he : crcOf T = crcOf s := by simpa using hB
            clear hB
            go_wp2_with fail
            rw [HCV.out]
            go_wp2_with (go_at_call 10; refine (crc_try _ _ (by first | exact hsm | (unfold maxLen; omega))).mono ?_; rintro e w' ⟨rfl, rfl⟩)
            refine (awake_any _).mono ?_
            rintro e w1 ⟨rfl, hb1⟩
            go_wp2_with fail
            go_ret
            exact ⟨rfl, below_call HH.out.2.2 hb1⟩
          · rw [hbr] at hB
            have hne : ((crcOf T : Int) == (crcOf s : Int)) = false := beq_eq_false_iff_ne.2 (by
              intro h
              rw [Int.ofNat_inj.1 h] at hB
              simp at hB)
            have hne2 : (crcOf T == crcOf s) = false := by
              rw [bne, Bool.not_eq_true'] at hB
              exact hB
            have hne3 : ¬ crcOf T = crcOf s := by simpa using hne2
            have hne5 : ((crcOf T : Int) != (crcOf s : Int)) = true := by rw [bne, hne]; rfl
            clear hB
            go_wp2_with fail
            rw [HCV.out]
            go_wp2_with (go_at_call 10; refine (crc_try _ _ (by first | exact hsm | (unfold maxLen; omega))).mono ?_; rintro e w' ⟨rfl, rfl⟩)
            refine (awake_any _).mono ?_
            rintro e w1 ⟨rfl, hb1⟩
            go_wp2_with fail
            go_ret
            exact ⟨rfl, below_call HH.out.2.2 hb1⟩
end Go.Proofs.Ytdciiegdgpepbaa
