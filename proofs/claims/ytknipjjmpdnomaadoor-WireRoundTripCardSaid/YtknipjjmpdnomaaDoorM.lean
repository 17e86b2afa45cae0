/- Unhex of the program. -/
import Derived.Test.YtknipjjmpdnomaaDoorL
set_option linter.unusedVariables false
set_option linter.unusedSimpArgs false
namespace Go.Proofs.YtknipjjmpdnomaaDoor
open Go.Sort Go.ChangeShapes Go.WideShapes Go.ChangeAt Go.RowKit
set_option maxHeartbeats 2000000 in
theorem unhex_any (s : ByteArray) (hs : s.size ≤ 2000) (w : World) : Calls Tryd.prog 13 #[.string s] w fun e w' => e = .returned (.tuple #[.string (uV s), .int .i64 (uE s)]) ∧ Below w.heap.size w w' := by
  have hsi : (s.size : Int) ≤ 2000 := by omega
  by_cases hodd : s.size % 2 = 1
  · obtain ⟨e1, e2⟩ := u_bad (s := s) (.inl hodd)
    rw [e1, e2]
    have o1 : (s.size : Int) % 2 = 1 := by omega
    have o2 : Int.tmod (s.size : Int) 2 = 1 := by rw [Int.tmod_eq_emod_of_nonneg (by omega)]; exact o1
    clear e1 e2
    go_enter Tryd.func13, Tryd.ntmps13
    go_wp2_with fail
    exact bodyPost_ret (v := .tuple #[.string ⟨#[]⟩, .int .i64 2]) (by simp [results, Tryd.results13, go_sem]) rfl ⟨rfl, Below.refl _ _⟩
  have heven : s.size % 2 = 0 := by omega
  have o1 : (s.size : Int) % 2 = 0 := by omega
  have o2 : Int.tmod (s.size : Int) 2 = 0 := by rw [Int.tmod_eq_emod_of_nonneg (by omega)]; exact o1
  have HB := Lib.hid (fun h => u_bad (s := s) (.inr h))
  have HO := Lib.hid (fun h => u_ok (s := s) heven h)
  obtain ⟨n, hn⟩ : ∃ n, n = s.size / 2 := ⟨_, rfl⟩
  rw [← hn] at HB HO
  have hN : Hid (s.size = 2 * n) := Lib.hid (by omega)
  have HG1 := Lib.hid (getD_at s)
  have HBD := Lib.hid (okH_bad (ls s))
  have HSO : Hid (∀ k, okH (ls s) (k + 1) = (okH (ls s) k && (decide (0 ≤ pa (ls s) k) && decide (0 ≤ pb (ls s) k)))) := Lib.hid (fun k => rfl)
  have HSU : Hid (∀ k, unL (ls s) (k + 1) = unL (ls s) k ++ [UInt8.ofNat (pa (ls s) k * 16 + pb (ls s) k).toNat]) := Lib.hid (fun k => rfl)
  have HPA : Hid (∀ k, pa (ls s) k = hv ((ls s).getD (2 * k) 0).toNat) := Lib.hid (fun k => rfl)
  have HPB : Hid (∀ k, pb (ls s) k = hv ((ls s).getD (2 * k + 1) 0).toNat) := Lib.hid (fun k => rfl)
  have HL := Lib.hid (unL_len (ls s))
  have HK0 : Hid (okH (ls s) 0 = true) := Lib.hid rfl
  have HU0 : Hid (unL (ls s) 0 = []) := Lib.hid rfl
  generalize uE s = E at *
  generalize uV s = V at *
  generalize okH (ls s) = ok at *
  generalize unL (ls s) = un at *
  generalize pa (ls s) = PA at *
  generalize pb (ls s) = PB at *
  clear hodd heven hn
  go_enter Tryd.func13, Tryd.ntmps13
  go_wp2_with fail
  go_loopg [5] n (fun u y wr => ∃ (k j : Nat), Hid (u + k = n) ∧ Hid (j = 2 * k) ∧ y = .int .i64 j ∧ Hid (ok k = true) ∧ Hid (Bui w wr (un k)))
  case atStart => exact ⟨0, 0, Lib.hid rfl, Lib.hid rfl, rfl, HK0, Lib.hid (by rw [HU0.out]; exact Bui.new w)⟩
  case round =>
    obtain ⟨k, j, hk, hj, rfl, hO, hB⟩ := hrel
    by_cases hlt : k < n
    · have hlt2 : j + 1 < s.size := by have := hN.out; have := hj.out; omega
      have hlt1 : j < s.size := by omega
      have hli : (j : Int) + 1 < (s.size : Int) := by omega
      have hli2 : (j : Int) < (s.size : Int) := by omega
      have hj1 := hj.out
      have ea := HPA.out k
      rw [← hj1, HG1.out j hlt1] at ea
      have eb := HPB.out k
      rw [← hj1, HG1.out (j + 1) hlt2] at eb
      have hso := HSO.out k
      rw [hO.out, Bool.true_and] at hso
      have hsu := HSU.out k
      have hbd := HBD.out k n hlt
      have ra := hv_le s[j].toNat
      have rb := hv_le s[j + 1].toNat
      rw [← ea] at ra
      rw [← eb] at rb
      have l0 : s[j].toNat < 256 := s[j].toNat_lt
      have l1 : s[j + 1].toNat < 256 := s[j + 1].toNat_lt
      have RI := Lib.hid (fun c (h : c < 256) w => idx_hex c h w)
      rw [ea] at ra hso hsu hbd
      rw [eb] at rb hso hsu hbd
      clear ea eb
      generalize hv = H at *
      have hx0 := idx_at s j hlt1
      have hx1 : ∀ w : World, (Instr.index 9 (.string s) (.int .i64 ((j : Int) + 1))).run Tryd.prog w = .ok (.int .u8 (s[j + 1]).toNat) w := fun w => idx_at s (j + 1) hlt2 w
      generalize s[j].toNat = t0 at *
      generalize s[j + 1].toNat = t1 at *
      have HRA := Lib.hid ra
      have HRB := Lib.hid rb
      have HSU1 := Lib.hid hsu
      clear hj1 ra rb hsu
      by_cases hA : H t0 < 0
      · have dA : decide (H t0 < 0) = true := decide_eq_true hA
        have HE := Lib.hid (HB.out (hbd (by rw [decide_eq_false (by omega), Bool.false_and])))
        clear hso hbd
        go_wp2_with fail
        go_quiet ((go_at_call 30; exact Calls.quiet_of_same (RI.out _ (by assumption) _)))
        go_wp2_with fail
        exact bodyPost_ret (v := .tuple #[.string ⟨#[]⟩, .int .i64 2]) (by simp [results, Tryd.results13, go_sem]) rfl ⟨by rw [HE.out.1, HE.out.2], bdn hB.out.2 _⟩
      · have dA : decide (H t0 < 0) = false := decide_eq_false hA
        by_cases hBB : H t1 < 0
        · have dB : decide (H t1 < 0) = true := decide_eq_true hBB
          have HE := Lib.hid (HB.out (hbd (by rw [decide_eq_false (show ¬ 0 ≤ H t1 by omega), Bool.and_false])))
          clear hso hbd
          go_wp2_with fail
          go_quiet ((go_at_call 30; exact Calls.quiet_of_same (RI.out _ (by assumption) _)))
          go_wp2_with fail
          exact bodyPost_ret (v := .tuple #[.string ⟨#[]⟩, .int .i64 2]) (by simp [results, Tryd.results13, go_sem]) rfl ⟨by rw [HE.out.1, HE.out.2], bdn hB.out.2 _⟩
        · have dB : decide (H t1 < 0) = false := decide_eq_false hBB
          rw [decide_eq_true (show 0 ≤ H t0 by omega), decide_eq_true (show 0 ≤ H t1 by omega)] at hso
          have HOK := Lib.hid hso
          obtain ⟨C, hC⟩ : ∃ C : Int, H t0 * 16 + H t1 = C := ⟨_, rfl⟩
          have hC0 : 0 ≤ C := by omega
          have hC1 : C ≤ 255 := by have := HRA.out; have := HRB.out; omega
          have hA15 : H t0 ≤ 15 := HRA.out.2
          have hB15 : H t1 ≤ 15 := HRB.out.2
          rw [hC] at HSU1
          have hA0 : 0 ≤ H t0 := by omega
          have hB0 : 0 ≤ H t1 := by omega
          clear hso hbd hA hBB
          have hor := or16 (H t0) (H t1) (by omega) hA15 (by omega) hB15
          obtain ⟨P, hP⟩ : ∃ P : Int, H t0 * 16 = P := ⟨_, rfl⟩
          rw [hP, show P + H t1 = C by omega] at hor
          have hP2 : H t0 * 2 ^ 4 = P := by omega
          have HBY := Lib.hid (fun W (h : Bui w W (un k)) => h.byte (UInt8.ofNat C.toNat) (by rw [HL.out]; have := hN.out; omega))
          have hCC : ((UInt8.ofNat C.toNat).toNat : Int) = C := by rw [UInt8.toNat_ofNat']; omega
          rw [hCC, ← HSU1.out] at HBY
          clear hC hCC
          go_wp2_with fail
          go_quiet ((go_at_call 30; exact Calls.quiet_of_same (RI.out _ (by assumption) _)))
          go_wp2_with fail
          refine (HBY.out _ (hB.out.drew _)).mono ?_
          rintro e W2 ⟨rfl, hb2⟩
          have HB2 := Lib.hid hb2
          clear hb2
          go_wp2_with fail
          go_roundg (gk - 1)
          case measure => have := hk.out; omega
          case rel => exact ⟨k + 1, j + 2, Lib.hid (by have := hk.out; omega), Lib.hid (by have := hj.out; omega), by go_num, HOK, HB2⟩
    · have hge : ¬ (j : Int) < (s.size : Int) := by have := hN.out; have := hj.out; omega
      obtain rfl : k = n := by have := hk.out; omega
      have HE := Lib.hid (HO.out hO.out)
      have HC1 := Lib.hid hB.out.str
      go_wp2_with fail
      refine (HC1.out).mono ?_
      rintro e W2 ⟨rfl, hb2⟩
      have HB2 := Lib.hid hb2
      clear hb2
      go_wp2_with fail
      exact bodyPost_ret (v := .tuple #[.string (bst (un k)), .int .i64 0]) (by simp [results, Tryd.results13, go_sem]) rfl ⟨by rw [HE.out.1, HE.out.2], HB2.out⟩
end Go.Proofs.YtknipjjmpdnomaaDoor
