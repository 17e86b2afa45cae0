/- half and Hex of the reference. -/
import Derived.Test.YtknipjjmpdnomaaDoorE
set_option linter.unusedVariables false
set_option linter.unusedSimpArgs false
namespace Go.Proofs.YtknipjjmpdnomaaDoor
open Go.Sort Go.ChangeShapes Go.WideShapes Go.ChangeAt Go.RowKit
theorem hex_run64 (n : Nat) (h : n < 16) : ∀ w : World, (Instr.index 9 (.string ⟨#[48, 49, 50, 51, 52, 53, 54, 55, 56, 57, 97, 98, 99, 100, 101, 102]⟩) (.int .i64 n)).run Tryd.prog w = .ok (.int .u8 (hxd n).toNat) w := by
  have : n = 0 ∨ n = 1 ∨ n = 2 ∨ n = 3 ∨ n = 4 ∨ n = 5 ∨ n = 6 ∨ n = 7 ∨ n = 8 ∨ n = 9 ∨ n = 10 ∨ n = 11 ∨ n = 12 ∨ n = 13 ∨ n = 14 ∨ n = 15 := by omega
  rcases this with rfl | rfl | rfl | rfl | rfl | rfl | rfl | rfl | rfl | rfl | rfl | rfl | rfl | rfl | rfl | rfl <;> (intro w; kernel_rfl)
def hv (c : Nat) : Int := if 48 ≤ c ∧ c ≤ 57 then (c : Int) - 48 else if 97 ≤ c ∧ c ≤ 102 then (c : Int) - 87 else -1
theorem hxd_nat (n : Nat) (h : n < 16) : (hxd n).toNat = if n < 10 then 48 + n else 87 + n := by
  unfold hxd
  by_cases h1 : n < 10
  · rw [if_pos h1, UInt8.toNat_ofNat']; omega
  · rw [if_neg h1, UInt8.toNat_ofNat']; omega
theorem hv_at (n c : Nat) (h : n < 16) (e : (hxd n).toNat = c) : hv c = n := by
  rw [hxd_nat n h] at e
  unfold hv
  split at e
  · rw [if_pos (by omega)]; omega
  · rw [if_neg (by omega), if_pos (by omega)]; omega
theorem hv_none (c : Nat) (h : ∀ n, n < 16 → (hxd n).toNat ≠ c) : hv c = -1 := by
  unfold hv
  rw [if_neg, if_neg]
  · intro hc
    have := h (c - 87) (by omega)
    rw [hxd_nat _ (by omega), if_neg (by omega)] at this
    omega
  · intro hc
    have := h (c - 48) (by omega)
    rw [hxd_nat _ (by omega), if_pos (by omega)] at this
    omega
set_option maxHeartbeats 1000000 in
theorem half_any (c : Nat) (w : World) : Calls Tryd.prog 33 #[.int .u8 c] w fun e w' => e = .returned (.int .i64 (hv c)) ∧ w' = w := by
  have HA := Lib.hid hv_at
  have HO := Lib.hid hv_none
  obtain ⟨V, hV⟩ : ∃ V, V = hv c := ⟨_, rfl⟩
  rw [← hV]
  have HV := Lib.hid hV
  clear hV
  go_enter Tryd.func33, Tryd.ntmps33
  go_wp2_with fail
  go_loop [3] (fun y => ∃ (k : Nat), k ≤ 16 ∧ y = .int .i64 k ∧ Hid (∀ n, n < k → (hxd n).toNat ≠ c)) (fun y => 16 - (intOf y).toNat)
  case atStart => exact ⟨0, Nat.zero_le _, rfl, Lib.hid (fun n hn => absurd hn (by omega))⟩
  case round =>
    obtain ⟨k, hk, rfl, hA⟩ := hrel
    by_cases hlt : k < 16
    · have x1 := hex_run64 k hlt
      have hlt' : (k : Int) < 16 := by omega
      have c1 : decide ((k : Int) < 16) = true := decide_eq_true hlt'
      by_cases h1 : (hxd k).toNat = c
      · have HX := Lib.hid (HV.out.trans (HA.out k c hlt h1))
        rw [h1] at x1
        clear h1
        go_wp2_with fail
        go_ret
        exact ⟨by rw [HX.out]; rfl, rfl⟩
      · have HH : Hid (∀ n, n < k + 1 → (hxd n).toNat ≠ c) := Lib.hid (fun n hn => by
          by_cases hnk : n < k
          · exact hA.out n hnk
          · obtain rfl : n = k := by omega
            exact h1)
        obtain ⟨x, hx⟩ : ∃ x : Nat, (hxd k).toNat = x := ⟨_, rfl⟩
        rw [hx] at x1 h1
        have c2 : ((x : Int) == (c : Int)) = false := by rw [beq_eq_false_iff_ne]; omega
        have c3 : (x == c) = false := by rw [beq_eq_false_iff_ne]; exact h1
        clear hx
        go_wp2_with fail
        go_round
        case rel => exact ⟨k + 1, by omega, by go_num, HH⟩
        case measure => simp [intOf]; omega
    · obtain rfl : k = 16 := by omega
      have HX := Lib.hid (HV.out.trans (HO.out c hA.out))
      go_wp2_with fail
      go_ret
      exact ⟨by rw [HX.out]; rfl, rfl⟩
theorem ex_hex (n : Nat) (h : n < 16) : (⟨#[48, 49, 50, 51, 52, 53, 54, 55, 56, 57, 97, 98, 99, 100, 101, 102]⟩ : ByteArray).extract n (n + 1) = bst [hxd n] := by
  have : n = 0 ∨ n = 1 ∨ n = 2 ∨ n = 3 ∨ n = 4 ∨ n = 5 ∨ n = 6 ∨ n = 7 ∨ n = 8 ∨ n = 9 ∨ n = 10 ∨ n = 11 ∨ n = 12 ∨ n = 13 ∨ n = 14 ∨ n = 15 := by omega
  rcases this with rfl | rfl | rfl | rfl | rfl | rfl | rfl | rfl | rfl | rfl | rfl | rfl | rfl | rfl | rfl | rfl <;> decide +kernel
theorem cut_hex (n : Nat) (h : n < 16) : ∀ w : World, (Instr.slice 9 (.string ⟨#[48, 49, 50, 51, 52, 53, 54, 55, 56, 57, 97, 98, 99, 100, 101, 102]⟩) (some (.int .u8 n)) (some (.int .u8 (n + 1))) none).run Tryd.prog w = .ok (.string (bst [hxd n])) w := by
  have : n = 0 ∨ n = 1 ∨ n = 2 ∨ n = 3 ∨ n = 4 ∨ n = 5 ∨ n = 6 ∨ n = 7 ∨ n = 8 ∨ n = 9 ∨ n = 10 ∨ n = 11 ∨ n = 12 ∨ n = 13 ∨ n = 14 ∨ n = 15 := by omega
  rcases this with rfl | rfl | rfl | rfl | rfl | rfl | rfl | rfl | rfl | rfl | rfl | rfl | rfl | rfl | rfl | rfl <;> (intro w; kernel_rfl)
set_option maxHeartbeats 1000000 in
theorem rhex_any (s : ByteArray) (hs : s.size ≤ 2000) (w : World) : Calls Tryd.prog 16 #[.string s] w fun e w' => e = .returned (.string (bst (heL (ls s) s.size))) ∧ Below w.heap.size w w' := by
  have HS : Hid (∀ k, bst (heL (ls s) (k + 1)) = bst (heL (ls s) k) ++ (bst [hxd (((ls s).getD k 0).toNat / 16)] ++ bst [hxd (((ls s).getD k 0).toNat % 16)])) := Lib.hid (fun k => ls_ext (by rw [ls_app, ls_app, ls_bst, ls_bst, ls_bst, ls_bst]; show heL (ls s) k ++ _ ++ _ = _; rw [List.append_assoc]))
  have HG1 := Lib.hid (getD_at s)
  have HLN : Hid (∀ k, (bst (heL (ls s) k)).size = 2 * k) := Lib.hid (fun k => by rw [bst_size]; exact heL_len (ls s) k)
  obtain ⟨g, hg⟩ : ∃ g : Nat → ByteArray, g = fun k => bst (heL (ls s) k) := ⟨_, rfl⟩
  have HG : Hid (∀ k, bst (heL (ls s) k) = g k) := Lib.hid (fun k => by rw [hg])
  have H0 : Hid (g 0 = ⟨#[]⟩) := Lib.hid (by rw [hg]; rfl)
  have hsi : (s.size : Int) ≤ 2000 := by omega
  rw [HG.out]
  clear hg
  go_enter Tryd.func16, Tryd.ntmps16
  go_wp2_with fail
  go_loopg [3, 4] s.size (fun u x y wr => ∃ (k : Nat), Hid (u + k = s.size) ∧ x = .string (g k) ∧ y = .int .i64 k ∧ Hid (Below w.heap.size w wr))
  case atStart => exact ⟨0, Lib.hid rfl, by rw [H0.out], rfl, Lib.hid (Below.refl _ _)⟩
  case round =>
    obtain ⟨k, hk, rfl, rfl, hB⟩ := hrel
    by_cases hlt : k < s.size
    · have hlt' : (k : Int) < (s.size : Int) := by omega
      have hn := HS.out k
      rw [HG1.out k hlt, HG.out, HG.out] at hn
      have hb256 : s[k].toNat < 256 := s[k].toNat_lt
      have hz : (g k).size ≤ 4000 := by rw [← HG.out, HLN.out]; omega
      have y1 := ex_hex (s[k].toNat / 16) (by omega)
      have y2 := ex_hex (s[k].toNat % 16) (by omega)
      have x1 := cut_hex (s[k].toNat / 16) (by omega)
      have x2 := cut_hex (s[k].toNat % 16) (by omega)
      have hx := idx_at s k hlt
      have z1 : (bst [hxd (s[k].toNat / 16)]).size ≤ 1 := by rw [bst_size]; simp
      have z2 : (bst [hxd (s[k].toNat % 16)]).size ≤ 1 := by rw [bst_size]; simp
      generalize bst [hxd (s[k].toNat / 16)] = A1 at *
      generalize bst [hxd (s[k].toNat % 16)] = A2 at *
      have HN := Lib.hid hn
      generalize g k = G at *
      obtain ⟨t, ht⟩ : ∃ t : Nat, t = s[k].toNat := ⟨_, rfl⟩
      rw [← ht] at x1 x2 y1 y2 hx hb256
      obtain ⟨p, hp⟩ : ∃ p : Nat, p = t / 16 := ⟨_, rfl⟩
      obtain ⟨q, hq⟩ : ∃ q : Nat, q = t % 16 := ⟨_, rfl⟩
      rw [← hp] at x1 y1
      rw [← hq] at x2 y2
      have e1 : (t : Int) / 16 = (p : Int) := by omega
      have e2 : (t : Int) % 16 = (q : Int) := by omega
      have hp16 : p < 16 := by omega
      have hq16 : q < 16 := by omega
      have HT := Lib.hid ht
      clear hn hp hq ht
      go_wp2_with fail
      go_quiet (fail)
      go_wp2_with fail
      go_quiet (fail)
      go_wp2_with fail
      go_roundg (gk - 1)
      case measure => have := hk.out; omega
      case rel => exact ⟨k + 1, Lib.hid (by have := hk.out; omega), by rw [HN.out], by go_num, Lib.hid (bdn hB.out _)⟩
    · have hge : ¬ (k : Int) < (s.size : Int) := by omega
      obtain rfl : k = s.size := by have := hk.out; omega
      go_wp2_with fail
      go_ret
      exact ⟨rfl, hB.out⟩
end Go.Proofs.YtknipjjmpdnomaaDoor
