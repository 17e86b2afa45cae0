/- Group of the reference. -/
import Derived.Test.YtagfimemiggnlaaDoorJ
set_option linter.unusedVariables false
set_option linter.unusedSimpArgs false
namespace Go.Proofs.YtagfimemiggnlaaDoor
open Go.Sort Go.ChangeShapes Go.WideShapes Go.ChangeAt Go.RowKit
theorem cut_lh (s : ByteArray) (i j : Nat) (h : i ≤ j) (hj : j ≤ s.size) (w : World) : (Instr.slice 9 (.string s) (some (.int .i64 i)) (some (.int .i64 j)) none).run Tryd.prog w = .ok (.string (s.extract i j)) w := by
  have h0 : (0 : Int) ≤ i := by omega
  have h1 : (i : Int) ≤ j := by omega
  have h2 : (j : Int) ≤ s.size := by omega
  simp [go_sem, h0, h1, h2]
theorem cut_h (s : ByteArray) (j : Nat) (hj : j ≤ s.size) (w : World) : (Instr.slice 9 (.string s) none (some (.int .i64 j)) none).run Tryd.prog w = .ok (.string (s.extract 0 j)) w := by
  have h0 : (0 : Int) ≤ j := by omega
  have h2 : (j : Int) ≤ s.size := by omega
  simp [go_sem, h0, h2]
theorem cut_l (s : ByteArray) (i : Nat) (hj : i ≤ s.size) (w : World) : (Instr.slice 9 (.string s) (some (.int .i64 i)) none none).run Tryd.prog w = .ok (.string (s.extract i s.size)) w := by
  have h0 : (0 : Int) ≤ i := by omega
  have h2 : (i : Int) ≤ s.size := by omega
  simp [go_sem, h0, h2]
theorem cut_1 (s : ByteArray) (i : Nat) (h : i < s.size) (w : World) : (Instr.slice 9 (.string s) (some (.int .i64 i)) (some (.int .i64 (i + 1))) none).run Tryd.prog w = .ok (.string (s.extract i (i + 1))) w := cut_lh s i (i + 1) (by omega) (by omega) w
def grB (s : ByteArray) : Nat → ByteArray
  | 0 => ⟨#[]⟩
  | k + 1 => (if 0 < k ∧ k % 4 = 0 then grB s k ++ ⟨#[32]⟩ else grB s k) ++ s.extract k (k + 1)
theorem grB_succ (s : ByteArray) (k : Nat) : grB s (k + 1) = (if 0 < k ∧ k % 4 = 0 then grB s k ++ ⟨#[32]⟩ else grB s k) ++ s.extract k (k + 1) := rfl
set_option maxHeartbeats 1000000 in
theorem rgroup_any (s : ByteArray) (hs : s.size ≤ 200) (w : World) : Calls Tryd.prog 20 #[.string s] w fun e w' => e = .returned (.string (grB s s.size)) ∧ w' = w := by
  have HS := Lib.hid (grB_succ s)
  obtain ⟨g, hg⟩ : ∃ g, g = grB s := ⟨_, rfl⟩
  rw [← hg] at HS ⊢
  have H0 : Hid (g 0 = ⟨#[]⟩) := Lib.hid (by rw [hg]; rfl)
  have hsi : (s.size : Int) ≤ 200 := by omega
  clear hg
  go_enter Tryd.func20, Tryd.ntmps20
  go_wp2_with fail
  go_loop [3, 4] (fun x y => ∃ (k : Nat) (G : ByteArray), k ≤ s.size ∧ x = .string G ∧ y = .int .i64 k ∧ Hid (g k = G) ∧ G.size ≤ 2 * k) (fun _ y => s.size - (intOf y).toNat)
  case atStart => exact ⟨0, _, Nat.zero_le _, rfl, rfl, H0, Nat.le_refl _⟩
  case round =>
    obtain ⟨k, G, hk, rfl, rfl, hG, hz⟩ := hrel
    have hz4 : G.size ≤ 400 := by omega
    have HZ0 := Lib.hid hz
    have HK := Lib.hid hk
    clear hk
    by_cases hlt : k < s.size
    · have hlt' : (k : Int) < (s.size : Int) := by omega
      have hn := HS.out k
      rw [hG.out] at hn
      have he : (s.extract k (k + 1)).size = 1 := by rw [ByteArray.size_extract]; omega
      have hcut := cut_1 s k hlt
      by_cases hp : 0 < k ∧ k % 4 = 0
      · rw [if_pos hp] at hn
        have HN := Lib.hid hn
        have c1 : decide (0 < (k : Int)) = true := decide_eq_true (by omega)
        have c2 : (((k : Int) % 4) == 0) = true := by rw [beq_iff_eq]; omega
        have hq : (G ++ (⟨#[32]⟩ : ByteArray)).size = G.size + 1 := ByteArray.size_append
        have HZ := Lib.hid (show (G ++ (⟨#[32]⟩ : ByteArray) ++ s.extract k (k + 1)).size ≤ 2 * (k + 1) by rw [ByteArray.size_append, hq, he]; omega)
        have h0 : 0 < k := hp.1
        clear hn hp he hq hz
        go_wp2_with fail
        go_round
        case rel => exact ⟨k + 1, _, by omega, rfl, by go_num, HN, HZ.out⟩
        case measure => simp [intOf]; omega
      · rw [if_neg hp] at hn
        have HN := Lib.hid hn
        have HZ := Lib.hid (show (G ++ s.extract k (k + 1)).size ≤ 2 * (k + 1) by rw [ByteArray.size_append, he]; omega)
        clear hn he hz
        by_cases h0 : 0 < k
        · have c1 : decide (0 < (k : Int)) = true := decide_eq_true (by omega)
          have c2 : (((k : Int) % 4) == 0) = false := by rw [beq_eq_false_iff_ne]; omega
          clear hp
          go_wp2_with fail
          go_round
          case rel => exact ⟨k + 1, _, by omega, rfl, by go_num, HN, HZ.out⟩
          case measure => simp [intOf]; omega
        · obtain rfl : k = 0 := by omega
          have hcut0 : ∀ w, (Instr.slice 9 (.string s) (some (.int .i64 0)) (some (.int .i64 1)) none).run Tryd.prog w = .ok (.string (s.extract 0 (0 + 1))) w := fun w => cut_lh s 0 1 (by omega) (by omega) w
          clear hp
          go_wp2_with fail
          go_round
          case rel => exact ⟨0 + 1, _, by omega, rfl, by go_num, HN, HZ.out⟩
          case measure => simp [intOf]; omega
    · have hge : ¬ (k : Int) < (s.size : Int) := by omega
      obtain rfl : k = s.size := by have := HK.out; omega
      have HG := Lib.hid hG.out
      go_wp2_with fail
      go_ret
      exact ⟨by rw [HG.out]; rfl, rfl⟩
end Go.Proofs.YtagfimemiggnlaaDoor
