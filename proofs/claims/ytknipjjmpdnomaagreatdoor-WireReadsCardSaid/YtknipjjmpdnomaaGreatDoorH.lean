/- Printable and Alpha of the reference. -/
import Derived.Test.YtknipjjmpdnomaaGreatDoorG
set_option linter.unusedVariables false
set_option linter.unusedSimpArgs false
namespace Go.Proofs.YtknipjjmpdnomaaGreatDoor
open Go.Sort Go.ChangeShapes Go.WideShapes Go.ChangeAt Go.RowKit
set_option maxHeartbeats 1000000 in
theorem rprint_any (s : ByteArray) (hs : s.size ≤ 2000) (w : World) : Calls Tryz.prog 39 #[.string s] w fun e w' => e = .returned (.bool (prn (ls s))) ∧ w' = w := by
  have HF := Lib.hid (prn_false s)
  have HT := Lib.hid (prn_take s)
  have HC : Hid (∀ c, prC c = (decide (32 ≤ c.toNat) && decide (c.toNat ≤ 126))) := Lib.hid (fun c => rfl)
  obtain ⟨B, hB⟩ : ∃ B, B = prn (ls s) := ⟨_, rfl⟩
  rw [← hB]
  have HB := Lib.hid hB
  have hsi : (s.size : Int) ≤ 2000 := by omega
  clear hB
  go_enter Tryz.func39, Tryz.ntmps39
  go_wp2_with fail
  go_loop [3] (fun y => ∃ (k : Nat), k ≤ s.size ∧ y = .int .i64 k ∧ Hid (prn ((ls s).take k) = true)) (fun y => s.size - (intOf y).toNat)
  case atStart => exact ⟨0, Nat.zero_le _, rfl, Lib.hid rfl⟩
  case round =>
    obtain ⟨k, hk, rfl, hA⟩ := hrel
    by_cases hlt : k < s.size
    · have hlt' : (k : Int) < (s.size : Int) := by omega
      have hc := HC.out s[k]
      have ht := HT.out k hlt
      rw [hA.out, Bool.true_and] at ht
      by_cases h1 : 32 ≤ s[k].toNat
      · by_cases h2 : s[k].toNat ≤ 126
        · rw [decide_eq_true h1, decide_eq_true h2] at hc
          rw [hc] at ht
          have HA := Lib.hid ht
          obtain ⟨v, hv⟩ : ∃ v : Int, (s[k].toNat : Int) = v := ⟨_, rfl⟩
          have d1 : decide (v < 32) = false := decide_eq_false (by omega)
          have d2 : decide (126 < v) = false := decide_eq_false (by omega)
          clear hc ht h1 h2
          go_wp2_with fail
          go_round
          case rel => exact ⟨k + 1, by omega, by go_num, HA⟩
          case measure => simp [intOf]; omega
        · rw [decide_eq_true h1, decide_eq_false h2] at hc
          have HX := Lib.hid (HF.out k hlt hc)
          obtain ⟨v, hv⟩ : ∃ v : Int, (s[k].toNat : Int) = v := ⟨_, rfl⟩
          have d1 : decide (v < 32) = false := decide_eq_false (by omega)
          have d2 : decide (126 < v) = true := decide_eq_true (by omega)
          clear hc ht h1 h2
          go_wp2_with fail
          go_ret
          exact ⟨by rw [HB.out, HX.out]; rfl, rfl⟩
      · rw [decide_eq_false h1, Bool.false_and] at hc
        have HX := Lib.hid (HF.out k hlt hc)
        obtain ⟨v, hv⟩ : ∃ v : Int, (s[k].toNat : Int) = v := ⟨_, rfl⟩
        have d1 : decide (v < 32) = true := decide_eq_true (by omega)
        clear hc ht h1
        go_wp2_with fail
        go_ret
        exact ⟨by rw [HB.out, HX.out]; rfl, rfl⟩
    · have hge : ¬ (k : Int) < (s.size : Int) := by omega
      obtain rfl : k = s.size := by omega
      have ha := hA.out
      rw [List.take_of_length_le (by rw [← ls_size]; exact Nat.le_refl _)] at ha
      have HX := Lib.hid ha
      clear ha
      go_wp2_with fail
      go_ret
      exact ⟨by rw [HB.out, HX.out]; rfl, rfl⟩
theorem rep_snoc (s : ByteArray) (k : Nat) : s ++ bst (List.replicate (k + 1) 32) = s ++ bst (List.replicate k 32) ++ ⟨#[32]⟩ := by
  refine ls_ext ?_
  rw [ls_app, ls_app, ls_app, ls_bst, ls_bst, List.replicate_succ', List.append_assoc]
theorem hs_last (s : ByteArray) (k : Nat) (h : s.size = k + 1) : Lib.hasSuffix (ls s) [32] = (s[k] == 32) := by
  have hl : (ls s).length = k + 1 := by rw [← ls_size]; exact h
  obtain ⟨d, c, hd⟩ : ∃ d c, ls s = d ++ [c] := by
    rcases List.eq_nil_or_concat (ls s) with h0 | ⟨d, c, h0⟩
    · rw [h0] at hl; cases hl
    · exact ⟨d, c, by rw [h0, List.concat_eq_append]⟩
  have hk : d.length = k := by rw [hd, List.length_append] at hl; simpa using hl
  have hc : s[k] = c := by
    rw [← getD_at s k (by omega), hd, getD_app_ge _ _ _ (by omega), hk, Nat.sub_self]; rfl
  rw [hc]
  unfold Lib.hasSuffix
  rw [hd]
  unfold List.isSuffixOf
  rw [List.reverse_append]
  show ((32 : UInt8) == c && true) = (c == 32)
  rw [Bool.and_true, Bool.eq_iff_iff, beq_iff_eq, beq_iff_eq]
  exact eq_comm
def spc (x : ByteArray) (k : Nat) : ByteArray := x ++ bst (List.replicate k 32)
theorem spc_ex (n : Nat) : ∀ X : ByteArray, X.size = n → ∃ x m, X = spc x m ∧ x.size + m = n ∧ Lib.hasSuffix (ls x) [32] = false := by
  induction n with
  | zero =>
    intro X hX
    refine ⟨X, 0, ls_ext (by unfold spc; rw [ls_app, ls_bst]; simp), by omega, ?_⟩
    rw [List.eq_nil_of_length_eq_zero (show (ls X).length = 0 by rw [← ls_size]; exact hX)]
    rfl
  | succ n ih =>
    intro X hX
    have hl := hs_last X n hX
    cases hb : (X[n] == 32)
    · rw [hb] at hl
      exact ⟨X, 0, ls_ext (by unfold spc; rw [ls_app, ls_bst]; simp), by omega, hl⟩
    · obtain ⟨x, m, h1, h2, h3⟩ := ih (X.extract 0 n) (by rw [ByteArray.size_extract]; omega)
      refine ⟨x, m + 1, ?_, by omega, h3⟩
      have e : X = X.extract 0 n ++ ⟨#[32]⟩ := by
        refine ls_ext ?_
        rw [ls_app, ls_ex, List.drop_zero, Nat.sub_zero]
        have := take_one X n (by omega)
        rw [List.take_of_length_le (by rw [← ls_size]; omega), getD_at X n (by omega)] at this
        rw [beq_iff_eq] at hb
        rw [hb] at this
        exact this
      have e2 : spc x (m + 1) = spc x m ++ ⟨#[32]⟩ := rep_snoc x m
      rw [e2, ← h1]
      exact e
end Go.Proofs.YtknipjjmpdnomaaGreatDoor
