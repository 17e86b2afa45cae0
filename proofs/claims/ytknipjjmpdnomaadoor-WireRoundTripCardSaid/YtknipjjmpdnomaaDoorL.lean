/- Unhex of both. -/
import Derived.Test.YtknipjjmpdnomaaDoorJ
import Derived.Test.YtknipjjmpdnomaaDoorI
set_option linter.unusedVariables false
set_option linter.unusedSimpArgs false
namespace Go.Proofs.YtknipjjmpdnomaaDoor
open Go.Sort Go.ChangeShapes Go.WideShapes Go.ChangeAt Go.RowKit
theorem hv_le (c : Nat) : -1 ≤ hv c ∧ hv c ≤ 15 := by
  unfold hv
  split
  · omega
  · split <;> omega
theorem idx_hex (c : Nat) (h : c < 256) (w : World) : Calls Tryd.prog 30 #[.string ⟨#[48, 49, 50, 51, 52, 53, 54, 55, 56, 57, 97, 98, 99, 100, 101, 102]⟩, .int .u8 c] w fun e w' => e = .returned (.int .i64 (hv c)) ∧ w' = w := by
  have h1 := Tryd.strings_IndexByte ⟨#[48, 49, 50, 51, 52, 53, 54, 55, 56, 57, 97, 98, 99, 100, 101, 102]⟩ c w
  have h2 : ∀ d : Fin 256, Lib.indexByte [48, 49, 50, 51, 52, 53, 54, 55, 56, 57, 97, 98, 99, 100, 101, 102] (Nat.toUInt8 d.val) = hv d.val := by decide +kernel
  rw [Int.toNat_natCast, show (⟨#[48, 49, 50, 51, 52, 53, 54, 55, 56, 57, 97, 98, 99, 100, 101, 102]⟩ : ByteArray).data.toList = [48, 49, 50, 51, 52, 53, 54, 55, 56, 57, 97, 98, 99, 100, 101, 102] from rfl, h2 ⟨c, h⟩] at h1
  exact h1
theorem or16 (A B : Int) (h1 : 0 ≤ A) (h2 : A ≤ 15) (h3 : 0 ≤ B) (h4 : B ≤ 15) : bits .or .i64 (A * 16) B = A * 16 + B := by
  have h : ∀ a : Fin 16, ∀ b : Fin 16, bits .or .i64 (((a.val : Nat) : Int) * 16) ((b.val : Nat) : Int) = ((a.val : Nat) : Int) * 16 + ((b.val : Nat) : Int) := by decide +kernel
  have h5 := h ⟨A.toNat, by omega⟩ ⟨B.toNat, by omega⟩
  have e1 : ((A.toNat : Nat) : Int) = A := by omega
  have e2 : ((B.toNat : Nat) : Int) = B := by omega
  simp only [e1, e2] at h5
  exact h5
def pa (l : List UInt8) (k : Nat) : Int := hv (l.getD (2 * k) 0).toNat
def pb (l : List UInt8) (k : Nat) : Int := hv (l.getD (2 * k + 1) 0).toNat
def okH (l : List UInt8) : Nat → Bool
  | 0 => true
  | k + 1 => okH l k && (decide (0 ≤ pa l k) && decide (0 ≤ pb l k))
def unL (l : List UInt8) : Nat → List UInt8
  | 0 => []
  | k + 1 => unL l k ++ [UInt8.ofNat (pa l k * 16 + pb l k).toNat]
theorem unL_len (l : List UInt8) (k : Nat) : (unL l k).length = k := by
  induction k with
  | zero => rfl
  | succ k ih => show (unL l k ++ _).length = _; rw [List.length_append, ih]; rfl
theorem okH_no (l : List UInt8) (k : Nat) (h : okH l k = false) : ∀ d, okH l (k + d) = false := by
  intro d
  induction d with
  | zero => exact h
  | succ d ih => show (okH l (k + d) && _) = false; rw [ih]; rfl
theorem okH_bad (l : List UInt8) (k n : Nat) (hk : k < n) (h : (decide (0 ≤ pa l k) && decide (0 ≤ pb l k)) = false) : okH l n = false := by
  have h1 : okH l (k + 1) = false := by show (okH l k && _) = false; rw [h, Bool.and_false]
  have := okH_no l (k + 1) h1 (n - (k + 1))
  rw [show k + 1 + (n - (k + 1)) = n by omega] at this
  exact this
def uE (s : ByteArray) : Int := if s.size % 2 = 1 ∨ okH (ls s) (s.size / 2) = false then 2 else 0
def uV (s : ByteArray) : ByteArray := if uE s = 0 then bst (unL (ls s) (s.size / 2)) else ⟨#[]⟩
theorem u_bad {s : ByteArray} (h : s.size % 2 = 1 ∨ okH (ls s) (s.size / 2) = false) : uE s = 2 ∧ uV s = ⟨#[]⟩ := by
  have h1 : uE s = 2 := if_pos h
  exact ⟨h1, by unfold uV; rw [h1]; rfl⟩
theorem u_ok {s : ByteArray} (h : s.size % 2 = 0) (h2 : okH (ls s) (s.size / 2) = true) : uE s = 0 ∧ uV s = bst (unL (ls s) (s.size / 2)) := by
  have h1 : uE s = 0 := if_neg (fun c => c.elim (fun c => by omega) (fun c => by rw [h2] at c; cases c))
  exact ⟨h1, by unfold uV; rw [h1]; rfl⟩
theorem Bui.drew {w wr : World} {l : List UInt8} (h : Bui w wr l) (n : Nat) : Bui w (wr.drewN n) l := ⟨h.1, bdn h.2 n⟩
set_option maxHeartbeats 2000000 in
theorem runhex_any (s : ByteArray) (hs : s.size ≤ 2000) (w : World) : Calls Tryd.prog 14 #[.string s] w fun e w' => e = .returned (.tuple #[.string (uV s), .int .i64 (uE s)]) ∧ Below w.heap.size w w' := by
  have hsi : (s.size : Int) ≤ 2000 := by omega
  by_cases hodd : s.size % 2 = 1
  · obtain ⟨e1, e2⟩ := u_bad (s := s) (.inl hodd)
    rw [e1, e2]
    have o1 : (s.size : Int) % 2 = 1 := by omega
    have o2 : Int.tmod (s.size : Int) 2 = 1 := by rw [Int.tmod_eq_emod_of_nonneg (by omega)]; exact o1
    clear e1 e2
    go_enter Tryd.func14, Tryd.ntmps14
    go_wp2_with fail
    exact bodyPost_ret (v := .tuple #[.string ⟨#[]⟩, .int .i64 2]) (by simp [results, Tryd.results14, go_sem]) rfl ⟨rfl, Below.refl _ _⟩
  have heven : s.size % 2 = 0 := by omega
  have o1 : (s.size : Int) % 2 = 0 := by omega
  have o2 : Int.tmod (s.size : Int) 2 = 0 := by rw [Int.tmod_eq_emod_of_nonneg (by omega)]; exact o1
  have HB := Lib.hid (fun h => u_bad (s := s) (.inr h))
  have HO := Lib.hid (fun h => u_ok (s := s) heven h)
  obtain ⟨n, hn⟩ : ∃ n, n = s.size / 2 := ⟨_, rfl⟩
  rw [← hn] at HB HO
  have hN : Hid (s.size = 2 * n) := Lib.hid (by omega)
  have HG1 := Lib.hid (getD_at s)
  have HBD := Lib.hid (okH_bad (ls s))
  have HSO : Hid (∀ k, okH (ls s) (k + 1) = (okH (ls s) k && (decide (0 ≤ pa (ls s) k) && decide (0 ≤ pb (ls s) k)))) := Lib.hid (fun k => rfl)
  have HSU : Hid (∀ k, unL (ls s) (k + 1) = unL (ls s) k ++ [UInt8.ofNat (pa (ls s) k * 16 + pb (ls s) k).toNat]) := Lib.hid (fun k => rfl)
  have HPA : Hid (∀ k, pa (ls s) k = hv ((ls s).getD (2 * k) 0).toNat) := Lib.hid (fun k => rfl)
  have HPB : Hid (∀ k, pb (ls s) k = hv ((ls s).getD (2 * k + 1) 0).toNat) := Lib.hid (fun k => rfl)
  have HL := Lib.hid (unL_len (ls s))
  have HK0 : Hid (okH (ls s) 0 = true) := Lib.hid rfl
  have HU0 : Hid (unL (ls s) 0 = []) := Lib.hid rfl
  generalize uE s = E at *
  generalize uV s = V at *
  generalize okH (ls s) = ok at *
  generalize unL (ls s) = un at *
  generalize pa (ls s) = PA at *
  generalize pb (ls s) = PB at *
  clear hodd heven hn
  go_enter Tryd.func14, Tryd.ntmps14
  go_wp2_with fail
  go_loopg [4, 5] n (fun u x y wr => ∃ (k j : Nat), Hid (u + k = n) ∧ Hid (j = 2 * k) ∧ x = .string (bst (un k)) ∧ y = .int .i64 j ∧ Hid (ok k = true) ∧ Hid (Below w.heap.size w wr))
  case atStart => exact ⟨0, 0, Lib.hid rfl, Lib.hid rfl, by rw [HU0.out]; rfl, rfl, HK0, Lib.hid (Below.refl _ _)⟩
  case round =>
    obtain ⟨k, j, hk, hj, rfl, rfl, hO, hB⟩ := hrel
    by_cases hlt : k < n
    · have hlt2 : j + 1 < s.size := by have := hN.out; have := hj.out; omega
      have hlt1 : j < s.size := by omega
      have hli : (j : Int) + 1 < (s.size : Int) := by omega
      have hli2 : (j : Int) < (s.size : Int) := by omega
      have hj1 := hj.out
      have ea := HPA.out k
      rw [← hj1, HG1.out j hlt1] at ea
      have eb := HPB.out k
      rw [← hj1, HG1.out (j + 1) hlt2] at eb
      have hso := HSO.out k
      rw [hO.out, Bool.true_and] at hso
      have hsu := HSU.out k
      have hbd := HBD.out k n hlt
      have ra := hv_le s[j].toNat
      have rb := hv_le s[j + 1].toNat
      rw [← ea] at ra
      rw [← eb] at rb
      have l0 : s[j].toNat < 256 := s[j].toNat_lt
      have l1 : s[j + 1].toNat < 256 := s[j + 1].toNat_lt
      have RI := Lib.hid (fun c w => half_any c w)
      rw [ea] at ra hso hsu hbd
      rw [eb] at rb hso hsu hbd
      clear ea eb
      generalize hv = H at *
      have hx0 := idx_at s j hlt1
      have hx1 : ∀ w : World, (Instr.index 9 (.string s) (.int .i64 ((j : Int) + 1))).run Tryd.prog w = .ok (.int .u8 (s[j + 1]).toNat) w := fun w => idx_at s (j + 1) hlt2 w
      generalize s[j].toNat = t0 at *
      generalize s[j + 1].toNat = t1 at *
      have HRA := Lib.hid ra
      have HRB := Lib.hid rb
      have HSU1 := Lib.hid hsu
      clear hj1 ra rb hsu
      by_cases hA : H t0 < 0
      · have dA : decide (H t0 < 0) = true := decide_eq_true hA
        have HE := Lib.hid (HB.out (hbd (by rw [decide_eq_false (by omega), Bool.false_and])))
        clear hso hbd
        go_wp2_with fail
        go_quiet ((go_at_call 33; exact Calls.quiet_of_same (RI.out _ _)))
        go_wp2_with fail
        exact bodyPost_ret (v := .tuple #[.string ⟨#[]⟩, .int .i64 2]) (by simp [results, Tryd.results14, go_sem]) rfl ⟨by rw [HE.out.1, HE.out.2], bdn hB.out _⟩
      · have dA : decide (H t0 < 0) = false := decide_eq_false hA
        by_cases hBB : H t1 < 0
        · have dB : decide (H t1 < 0) = true := decide_eq_true hBB
          have HE := Lib.hid (HB.out (hbd (by rw [decide_eq_false (show ¬ 0 ≤ H t1 by omega), Bool.and_false])))
          clear hso hbd
          go_wp2_with fail
          go_quiet ((go_at_call 33; exact Calls.quiet_of_same (RI.out _ _)))
          go_wp2_with fail
          exact bodyPost_ret (v := .tuple #[.string ⟨#[]⟩, .int .i64 2]) (by simp [results, Tryd.results14, go_sem]) rfl ⟨by rw [HE.out.1, HE.out.2], bdn hB.out _⟩
        · have dB : decide (H t1 < 0) = false := decide_eq_false hBB
          rw [decide_eq_true (show 0 ≤ H t0 by omega), decide_eq_true (show 0 ≤ H t1 by omega)] at hso
          have HOK := Lib.hid hso
          obtain ⟨C, hC⟩ : ∃ C : Int, H t0 * 16 + H t1 = C := ⟨_, rfl⟩
          have hC0 : 0 ≤ C := by omega
          have hC1 : C ≤ 255 := by have := HRA.out; have := HRB.out; omega
          have hA15 : H t0 ≤ 15 := HRA.out.2
          have hB15 : H t1 ≤ 15 := HRB.out.2
          rw [hC] at HSU1
          have hA0 : 0 ≤ H t0 := by omega
          have hB0 : 0 ≤ H t1 := by omega
          clear hso hbd hA hBB
          obtain ⟨P, hP⟩ : ∃ P : Int, H t0 * 16 = P := ⟨_, rfl⟩
          have hC2 : P + H t1 = C := by omega
          have hP0 : 0 ≤ P := by omega
          have hP1 : P ≤ 240 := by omega
          clear hC
          have hcv : ∀ m : Nat, (convert 44 9 (.slice (some ⟨wr.heap.size, 0, none⟩) 1 1)).run Tryd.prog ((wr.drewN m).alloc (.cells #[.int .u8 C] 5)) = .ok (.string (d1 C)) ((wr.drewN m).alloc (.cells #[.int .u8 C] 5)) := fun m => conv1 (wr.drewN m) C (by omega)
          have HGK : Hid (bst (un (k + 1)) = bst (un k) ++ d1 C) := Lib.hid (ls_ext (by rw [ls_app, ls_bst, ls_bst, HSU1.out]; rfl))
          have hz : (bst (un k)).size ≤ 2000 := by rw [bst_size, HL.out]; have := hN.out; omega
          have hD : (d1 C).size ≤ 100 := by rw [d1_size]; omega
          generalize bst (un k) = G at *
          generalize d1 C = D at *
          go_wp2_with fail
          go_quiet ((go_at_call 33; exact Calls.quiet_of_same (RI.out _ _)))
          go_wp2_with fail
          go_roundg (gk - 1)
          case measure => have := hk.out; omega
          case rel => exact ⟨k + 1, j + 2, Lib.hid (by have := hk.out; omega), Lib.hid (by have := hj.out; omega), by rw [HGK.out], by go_num, HOK, Lib.hid ((bdn hB.out _).alloc (bdn hB.out _).size _)⟩
    · have hge : ¬ (j : Int) + 1 < (s.size : Int) := by have := hN.out; have := hj.out; omega
      have dge : decide ((j : Int) + 1 < (s.size : Int)) = false := decide_eq_false hge
      have hjz : j ≤ s.size := by have := hN.out; have := hj.out; have := hk.out; omega
      obtain rfl : k = n := by have := hk.out; omega
      have HE := Lib.hid (HO.out hO.out)
      go_wp2_with fail
      exact bodyPost_ret (v := .tuple #[.string (bst (un k)), .int .i64 0]) (by simp [results, Tryd.results14, go_sem]) rfl ⟨by rw [HE.out.1, HE.out.2], hB.out⟩
end Go.Proofs.YtknipjjmpdnomaaDoor
