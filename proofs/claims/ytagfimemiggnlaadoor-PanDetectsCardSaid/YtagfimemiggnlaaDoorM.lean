/- Mask of the reference. -/
import Derived.Test.YtagfimemiggnlaaDoorL
set_option linter.unusedVariables false
set_option linter.unusedSimpArgs false
namespace Go.Proofs.YtagfimemiggnlaaDoor
open Go.Sort Go.ChangeShapes Go.WideShapes Go.ChangeAt Go.RowKit
def mkR (b : Bool) (s : ByteArray) : Nat → ByteArray
  | 0 => ⟨#[]⟩
  | k + 1 => mkR b s k ++ if b = true ∧ (k < 6 ∨ s.size ≤ k + 4) then s.extract k (k + 1) else ⟨#[42]⟩
theorem mkR_succ (b : Bool) (s : ByteArray) (k : Nat) : mkR b s (k + 1) = mkR b s k ++ if b = true ∧ (k < 6 ∨ s.size ≤ k + 4) then s.extract k (k + 1) else ⟨#[42]⟩ := rfl
theorem chk_in (s : ByteArray) (h : chkP s = 0) : 12 ≤ s.size ∧ s.size ≤ 19 ∧ allD s.data.toList = true ∧ luhB s = true := by
  unfold chkP at h
  by_cases h1 : s.size < 12
  · rw [if_pos h1] at h; omega
  rw [if_neg h1] at h
  by_cases h2 : 19 < s.size
  · rw [if_pos h2] at h; omega
  rw [if_neg h2] at h
  cases h3 : allD s.data.toList
  · rw [h3, if_pos rfl] at h; omega
  rw [h3, if_neg (by simp)] at h
  cases h4 : luhB s
  · rw [h4, if_pos rfl] at h; omega
  exact ⟨by omega, by omega, rfl, rfl⟩
set_option maxHeartbeats 1000000 in
theorem rmask_no (s : ByteArray) (hs : s.size ≤ 200) (h : ¬ chkP s = 0) (w : World) : Calls Tryd.prog 18 #[.string s] w fun e w' => e = .returned (.string (mkR false s s.size)) ∧ w' = w := by
  have HS := Lib.hid (mkR_succ false s)
  have HC := Lib.hid (fun w => rcheck_any s hs w)
  generalize chkP s = P at *
  have hP : (P == 0) = false := by rw [beq_eq_false_iff_ne]; exact h
  obtain ⟨g, hg⟩ : ∃ g, g = mkR false s := ⟨_, rfl⟩
  rw [← hg] at HS ⊢
  have H0 : Hid (g 0 = ⟨#[]⟩) := Lib.hid (by rw [hg]; rfl)
  have hsi : (s.size : Int) ≤ 200 := by omega
  clear hg h
  go_enter Tryd.func18, Tryd.ntmps18
  go_wp2_with fail
  go_loop [3, 4] (fun x y => ∃ (k : Nat) (G : ByteArray), k ≤ s.size ∧ x = .string G ∧ y = .int .i64 k ∧ Hid (g k = G) ∧ G.size ≤ k) (fun _ y => s.size - (intOf y).toNat)
  case atStart => exact ⟨0, _, Nat.zero_le _, rfl, rfl, H0, Nat.le_refl _⟩
  case round =>
    obtain ⟨k, G, hk, rfl, rfl, hG, hz⟩ := hrel
    have hz4 : G.size ≤ 400 := by omega
    have HZ0 := Lib.hid hz
    have HK := Lib.hid hk
    clear hk hz
    by_cases hlt : k < s.size
    · have hlt' : (k : Int) < (s.size : Int) := by omega
      have hn := HS.out k
      rw [hG.out, if_neg (by simp)] at hn
      have HN := Lib.hid hn
      have hq : (G ++ (⟨#[42]⟩ : ByteArray)).size = G.size + 1 := ByteArray.size_append
      have HZ := Lib.hid (show (G ++ (⟨#[42]⟩ : ByteArray)).size ≤ k + 1 by have := HZ0.out; rw [hq]; omega)
      clear hn hq
      go_wp2_with (go_at_call 16; refine (HC.out _).mono ?_; rintro e w' ⟨rfl, rfl⟩)
      go_round
      case rel => exact ⟨k + 1, _, by omega, rfl, by go_num, HN, HZ.out⟩
      case measure => simp [intOf]; omega
    · have hge : ¬ (k : Int) < (s.size : Int) := by omega
      obtain rfl : k = s.size := by have := HK.out; omega
      have HG := Lib.hid hG.out
      go_wp2_with fail
      go_ret
      exact ⟨by rw [HG.out]; rfl, rfl⟩
set_option maxHeartbeats 1000000 in
theorem rmask_yes (s : ByteArray) (h : chkP s = 0) (w : World) : Calls Tryd.prog 18 #[.string s] w fun e w' => e = .returned (.string (mkR true s s.size)) ∧ w' = w := by
  obtain ⟨l0, l1, _, _⟩ := chk_in s h
  have hs : s.size ≤ 200 := by omega
  have HS := Lib.hid (mkR_succ true s)
  have HC := Lib.hid (fun w => rcheck_any s hs w)
  rw [h] at HC
  obtain ⟨g, hg⟩ : ∃ g, g = mkR true s := ⟨_, rfl⟩
  rw [← hg] at HS ⊢
  have H0 : Hid (g 0 = ⟨#[]⟩) := Lib.hid (by rw [hg]; rfl)
  have hsi : (s.size : Int) ≤ 200 := by omega
  have hsj : (12 : Int) ≤ (s.size : Int) := by omega
  clear hg h
  go_enter Tryd.func18, Tryd.ntmps18
  go_wp2_with fail
  go_loop [3, 4] (fun x y => ∃ (k : Nat) (G : ByteArray), k ≤ s.size ∧ x = .string G ∧ y = .int .i64 k ∧ Hid (g k = G) ∧ G.size ≤ k) (fun _ y => s.size - (intOf y).toNat)
  case atStart => exact ⟨0, _, Nat.zero_le _, rfl, rfl, H0, Nat.le_refl _⟩
  case round =>
    obtain ⟨k, G, hk, rfl, rfl, hG, hz⟩ := hrel
    have hz4 : G.size ≤ 400 := by omega
    have HZ0 := Lib.hid hz
    have HK := Lib.hid hk
    clear hk hz
    by_cases hlt : k < s.size
    · have hlt' : (k : Int) < (s.size : Int) := by omega
      have hn := HS.out k
      have hcut := cut_1 s k hlt
      rw [hG.out] at hn
      by_cases h6 : k < 6
      · rw [if_pos ⟨by simp, .inl h6⟩] at hn
        have HN := Lib.hid hn
        have he : (s.extract k (k + 1)).size = 1 := by rw [ByteArray.size_extract]; omega
        have HZ := Lib.hid (show (G ++ s.extract k (k + 1)).size ≤ k + 1 by have := HZ0.out; rw [ByteArray.size_append, he]; omega)
        have h6i : (k : Int) < 6 := by omega
        clear hn he
        go_wp2_with (go_at_call 16; refine (HC.out _).mono ?_; rintro e w' ⟨rfl, rfl⟩)
        go_round
        case rel => exact ⟨k + 1, _, by omega, rfl, by go_num, HN, HZ.out⟩
        case measure => simp [intOf]; omega
      · have h6i : ¬ (k : Int) < 6 := by omega
        by_cases h4 : s.size ≤ k + 4
        · rw [if_pos ⟨by simp, .inr h4⟩] at hn
          have HN := Lib.hid hn
          have he : (s.extract k (k + 1)).size = 1 := by rw [ByteArray.size_extract]; omega
          have HZ := Lib.hid (show (G ++ s.extract k (k + 1)).size ≤ k + 1 by have := HZ0.out; rw [ByteArray.size_append, he]; omega)
          have h4i : decide ((s.size : Int) - 4 ≤ (k : Int)) = true := decide_eq_true (by omega)
          have h4j : (s.size : Int) - 4 ≤ (k : Int) := by omega
          clear hn he
          go_wp2_with (go_at_call 16; refine (HC.out _).mono ?_; rintro e w' ⟨rfl, rfl⟩)
          go_round
          case rel => exact ⟨k + 1, _, by omega, rfl, by go_num, HN, HZ.out⟩
          case measure => simp [intOf]; omega
        · rw [if_neg (fun c => c.2.elim h6 h4)] at hn
          have HN := Lib.hid hn
          have hq : (G ++ (⟨#[42]⟩ : ByteArray)).size = G.size + 1 := ByteArray.size_append
          have HZ := Lib.hid (show (G ++ (⟨#[42]⟩ : ByteArray)).size ≤ k + 1 by have := HZ0.out; rw [hq]; omega)
          have h4i : decide ((s.size : Int) - 4 ≤ (k : Int)) = false := decide_eq_false (by omega)
          have h4j : ¬ (s.size : Int) - 4 ≤ (k : Int) := by omega
          clear hn hq
          go_wp2_with (go_at_call 16; refine (HC.out _).mono ?_; rintro e w' ⟨rfl, rfl⟩)
          go_round
          case rel => exact ⟨k + 1, _, by omega, rfl, by go_num, HN, HZ.out⟩
          case measure => simp [intOf]; omega
    · have hge : ¬ (k : Int) < (s.size : Int) := by omega
      obtain rfl : k = s.size := by have := HK.out; omega
      have HG := Lib.hid hG.out
      go_wp2_with fail
      go_ret
      exact ⟨by rw [HG.out]; rfl, rfl⟩
/- its value -/
theorem ls_one (s : ByteArray) (k : Nat) (h : k < s.size) : ls (s.extract k (k + 1)) = [(ls s).getD k 0] := by
  rw [ls_ex, show k + 1 - k = 1 by omega, List.getD_eq_getElem?_getD, List.getElem?_eq_getElem (by rw [← ls_size]; exact h)]
  rw [List.drop_eq_getElem_cons (by rw [← ls_size]; exact h)]
  rfl
theorem take_one (s : ByteArray) (k : Nat) (h : k < s.size) : (ls s).take (k + 1) = (ls s).take k ++ [(ls s).getD k 0] := by
  rw [List.take_succ_eq_append_getElem (by rw [← ls_size]; exact h), List.getD_eq_getElem?_getD, List.getElem?_eq_getElem (by rw [← ls_size]; exact h)]
  rfl
theorem mk_no (s : ByteArray) (k : Nat) : ls (mkR false s k) = List.replicate k 42 := by
  induction k with
  | zero => rfl
  | succ k ih => rw [mkR_succ, if_neg (by simp), ls_app, ih, List.replicate_succ']
theorem mk_a (s : ByteArray) (k : Nat) (h6 : k ≤ 6) (hk : k ≤ s.size) : ls (mkR true s k) = (ls s).take k := by
  induction k with
  | zero => rfl
  | succ k ih => rw [mkR_succ, if_pos ⟨rfl, .inl (by omega)⟩, ls_app, ih (by omega) (by omega), ls_one s k (by omega), take_one s k (by omega)]
theorem mk_b (s : ByteArray) (j : Nat) (hk : 6 + j + 4 ≤ s.size) : ls (mkR true s (6 + j)) = (ls s).take 6 ++ List.replicate j 42 := by
  induction j with
  | zero => rw [mk_a s 6 (by omega) (by omega)]; simp
  | succ j ih => rw [show 6 + (j + 1) = 6 + j + 1 by omega, mkR_succ, if_neg (by omega), ls_app, ih (by omega), List.replicate_succ', ← List.append_assoc]
theorem mk_c (s : ByteArray) (j : Nat) (hs : 10 ≤ s.size) (hj : j ≤ 4) : ls (mkR true s (s.size - 4 + j)) = (ls s).take 6 ++ List.replicate (s.size - 10) 42 ++ ((ls s).drop (s.size - 4)).take j := by
  induction j with
  | zero =>
    have := mk_b s (s.size - 10) (by omega)
    rw [show s.size - 4 + 0 = 6 + (s.size - 10) by omega, this]; simp
  | succ j ih =>
    rw [show s.size - 4 + (j + 1) = s.size - 4 + j + 1 by omega, mkR_succ, if_pos ⟨rfl, .inr (by omega)⟩, ls_app, ih (by omega), ls_one s _ (by omega)]
    have hl : j < ((ls s).drop (s.size - 4)).length := by rw [List.length_drop, ← ls_size]; omega
    rw [List.take_succ_eq_append_getElem hl, List.append_assoc, List.append_assoc, List.append_assoc]
    congr 3
    rw [List.getElem_drop, List.getD_eq_getElem?_getD, List.getElem?_eq_getElem (by rw [← ls_size]; omega)]
    rfl
theorem mk_yes (s : ByteArray) (hs : 10 ≤ s.size) : ls (mkR true s s.size) = (ls s).take 6 ++ List.replicate (s.size - 10) 42 ++ (ls s).drop (s.size - 4) := by
  have := mk_c s 4 hs (Nat.le_refl _)
  rw [show s.size - 4 + 4 = s.size by omega] at this
  rw [this, List.take_of_length_le (l := (ls s).drop (s.size - 4)) (by rw [List.length_drop, ← ls_size]; omega)]
end Go.Proofs.YtagfimemiggnlaaDoor
