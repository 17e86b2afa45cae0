/- Printable and Alpha of the reference. -/
import Derived.Test.YtknipjjmpdnomaaDoorE
set_option linter.unusedVariables false
set_option linter.unusedSimpArgs false
namespace Go.Proofs.YtknipjjmpdnomaaDoor
open Go.Sort Go.ChangeShapes Go.WideShapes Go.ChangeAt Go.RowKit
set_option maxHeartbeats 1000000 in
theorem rprint_any (s : ByteArray) (hs : s.size ≤ 2000) (w : World) : Calls Tryd.prog 29 #[.string s] w fun e w' => e = .returned (.bool (prn (ls s))) ∧ w' = w := by
  have HF := Lib.hid (prn_false s)
  have HT := Lib.hid (prn_take s)
  have HC : Hid (∀ c, prC c = (decide (32 ≤ c.toNat) && decide (c.toNat ≤ 126))) := Lib.hid (fun c => rfl)
  obtain ⟨B, hB⟩ : ∃ B, B = prn (ls s) := ⟨_, rfl⟩
  rw [← hB]
  have HB := Lib.hid hB
  have hsi : (s.size : Int) ≤ 2000 := by omega
  clear hB
  go_enter Tryd.func29, Tryd.ntmps29
  go_wp2_with fail
  go_loop [3] (fun y => ∃ (k : Nat), k ≤ s.size ∧ y = .int .i64 k ∧ Hid (prn ((ls s).take k) = true)) (fun y => s.size - (intOf y).toNat)
  case atStart => exact ⟨0, Nat.zero_le _, rfl, Lib.hid rfl⟩
  case round =>
    obtain ⟨k, hk, rfl, hA⟩ := hrel
    by_cases hlt : k < s.size
    · have hlt' : (k : Int) < (s.size : Int) := by omega
      have hc := HC.out s[k]
      have ht := HT.out k hlt
      rw [hA.out, Bool.true_and] at ht
      by_cases h1 : 32 ≤ s[k].toNat
      · by_cases h2 : s[k].toNat ≤ 126
        · rw [decide_eq_true h1, decide_eq_true h2] at hc
          rw [hc] at ht
          have HA := Lib.hid ht
          obtain ⟨v, hv⟩ : ∃ v : Int, (s[k].toNat : Int) = v := ⟨_, rfl⟩
          have d1 : decide (v < 32) = false := decide_eq_false (by omega)
          have d2 : decide (126 < v) = false := decide_eq_false (by omega)
          clear hc ht h1 h2
          go_wp2_with fail
          go_round
          case rel => exact ⟨k + 1, by omega, by go_num, HA⟩
          case measure => simp [intOf]; omega
        · rw [decide_eq_true h1, decide_eq_false h2] at hc
          have HX := Lib.hid (HF.out k hlt hc)
          obtain ⟨v, hv⟩ : ∃ v : Int, (s[k].toNat : Int) = v := ⟨_, rfl⟩
          have d1 : decide (v < 32) = false := decide_eq_false (by omega)
          have d2 : decide (126 < v) = true := decide_eq_true (by omega)
          clear hc ht h1 h2
          go_wp2_with fail
          go_ret
          exact ⟨by rw [HB.out, HX.out]; rfl, rfl⟩
      · rw [decide_eq_false h1, Bool.false_and] at hc
        have HX := Lib.hid (HF.out k hlt hc)
        obtain ⟨v, hv⟩ : ∃ v : Int, (s[k].toNat : Int) = v := ⟨_, rfl⟩
        have d1 : decide (v < 32) = true := decide_eq_true (by omega)
        clear hc ht h1
        go_wp2_with fail
        go_ret
        exact ⟨by rw [HB.out, HX.out]; rfl, rfl⟩
    · have hge : ¬ (k : Int) < (s.size : Int) := by omega
      obtain rfl : k = s.size := by omega
      have ha := hA.out
      rw [List.take_of_length_le (by rw [← ls_size]; exact Nat.le_refl _)] at ha
      have HX := Lib.hid ha
      clear ha
      go_wp2_with fail
      go_ret
      exact ⟨by rw [HB.out, HX.out]; rfl, rfl⟩
theorem rep_snoc (s : ByteArray) (k : Nat) : s ++ bst (List.replicate (k + 1) 32) = s ++ bst (List.replicate k 32) ++ ⟨#[32]⟩ := by
  refine ls_ext ?_
  rw [ls_app, ls_app, ls_app, ls_bst, ls_bst, List.replicate_succ', List.append_assoc]
theorem hs_last (s : ByteArray) (k : Nat) (h : s.size = k + 1) : Lib.hasSuffix (ls s) [32] = (s[k] == 32) := by
  have hl : (ls s).length = k + 1 := by rw [← ls_size]; exact h
  obtain ⟨d, c, hd⟩ : ∃ d c, ls s = d ++ [c] := by
    rcases List.eq_nil_or_concat (ls s) with h0 | ⟨d, c, h0⟩
    · rw [h0] at hl; cases hl
    · exact ⟨d, c, by rw [h0, List.concat_eq_append]⟩
  have hk : d.length = k := by rw [hd, List.length_append] at hl; simpa using hl
  have hc : s[k] = c := by
    rw [← getD_at s k (by omega), hd, getD_app_ge _ _ _ (by omega), hk, Nat.sub_self]; rfl
  rw [hc]
  unfold Lib.hasSuffix
  rw [hd]
  unfold List.isSuffixOf
  rw [List.reverse_append]
  show ((32 : UInt8) == c && true) = (c == 32)
  rw [Bool.and_true, Bool.eq_iff_iff, beq_iff_eq, beq_iff_eq]
  exact eq_comm
set_option maxHeartbeats 1000000 in
theorem ralpha_any (s : ByteArray) (wd : Int) (hs : s.size ≤ 2000) (w : World) :
    Calls Tryd.prog 10 #[.string s, .int .i64 wd] w fun e w' => e = .returned (.tuple #[.string (alV s wd), .int .i64 (alE s wd)]) ∧ Below w.heap.size w w' := by
  have RP := Lib.hid (fun w => rprint_any s hs w)
  have hsi : (s.size : Int) ≤ 2000 := by omega
  obtain ⟨V, hV⟩ : ∃ V, V = alV s wd := ⟨_, rfl⟩
  obtain ⟨E, hE⟩ : ∃ E, E = alE s wd := ⟨_, rfl⟩
  rw [← hV, ← hE]
  unfold alV at hV
  rw [← hE] at hV
  unfold alE at hE
  by_cases h1 : wd < 1
  · rw [if_pos (.inl h1)] at hE
    subst hE
    rw [if_neg (by omega)] at hV
    subst hV
    have c1 : decide (wd < 1) = true := decide_eq_true h1
    clear h1
    go_enter Tryd.func10, Tryd.ntmps10
    go_wp2_with fail
    exact bodyPost_ret (v := .tuple #[.string ⟨#[]⟩, .int .i64 4]) (by simp [results, Tryd.results10, go_sem]) rfl ⟨rfl, Below.refl _ _⟩
  have c1 : decide (wd < 1) = false := decide_eq_false h1
  by_cases h2 : 255 < wd
  · rw [if_pos (.inr h2)] at hE
    subst hE
    rw [if_neg (by omega)] at hV
    subst hV
    have c2 : decide (255 < wd) = true := decide_eq_true h2
    clear h1 h2
    go_enter Tryd.func10, Tryd.ntmps10
    go_wp2_with fail
    exact bodyPost_ret (v := .tuple #[.string ⟨#[]⟩, .int .i64 4]) (by simp [results, Tryd.results10, go_sem]) rfl ⟨rfl, Below.refl _ _⟩
  have c2 : decide (255 < wd) = false := decide_eq_false h2
  rw [if_neg (by omega)] at hE
  by_cases h3 : wd < s.size
  · rw [if_pos h3] at hE
    subst hE
    rw [if_neg (by omega)] at hV
    subst hV
    have c3 : decide (wd < (s.size : Int)) = true := decide_eq_true h3
    clear h1 h2 h3
    go_enter Tryd.func10, Tryd.ntmps10
    go_wp2_with fail
    exact bodyPost_ret (v := .tuple #[.string ⟨#[]⟩, .int .i64 3]) (by simp [results, Tryd.results10, go_sem]) rfl ⟨rfl, Below.refl _ _⟩
  have c3 : decide (wd < (s.size : Int)) = false := decide_eq_false h3
  rw [if_neg h3] at hE
  cases h4 : prn (ls s)
  · rw [if_pos (.inl h4)] at hE
    subst hE
    rw [if_neg (by omega)] at hV
    subst hV
    rw [h4] at RP
    clear h1 h2 h3 h4
    go_enter Tryd.func10, Tryd.ntmps10
    go_wp2_with (go_at_call 29; refine (RP.out _).mono ?_; rintro e w' ⟨rfl, rfl⟩)
    exact bodyPost_ret (v := .tuple #[.string ⟨#[]⟩, .int .i64 2]) (by simp [results, Tryd.results10, go_sem]) rfl ⟨rfl, Below.refl _ _⟩
  rw [h4] at RP
  obtain ⟨W, rfl⟩ : ∃ W : Nat, wd = W := ⟨wd.toNat, by omega⟩
  rw [Int.toNat_natCast] at hV
  have hW : (W : Int) ≤ 255 := by omega
  have hW2 : s.size ≤ W := by omega
  cases h5 : Lib.hasSuffix (ls s) [32]
  · rw [if_neg (by rw [h4, h5]; simp)] at hE
    subst hE
    rw [if_pos rfl] at hV
    obtain ⟨g, hg⟩ : ∃ g : Nat → ByteArray, g = fun k => s ++ bst (List.replicate k 32) := ⟨_, rfl⟩
    have HG : Hid (∀ k, g (k + 1) = g k ++ ⟨#[32]⟩) := Lib.hid (fun k => by rw [hg]; exact rep_snoc s k)
    have HZ : Hid (∀ k, (g k).size = s.size + k) := Lib.hid (fun k => by rw [hg]; show (s ++ _).size = _; rw [ByteArray.size_append, bst_size, List.length_replicate])
    have HV2 : Hid (V = g (W - s.size)) := Lib.hid (by rw [hg]; exact hV)
    have HG0 : Hid (s = g 0) := Lib.hid (by rw [hg]; show s = s ++ bst []; exact ls_ext (by rw [ls_app, ls_bst, List.append_nil]))
    rcases Nat.eq_zero_or_pos s.size with h0 | h0
    · have hemp := size_zero_list h0
      have hsb : s.size ≤ 0 := by omega
      clear h1 h2 h3 h4 h5 hV hg h0
      go_enter Tryd.func10, Tryd.ntmps10
      go_wp2_with (go_at_call 29; refine (RP.out _).mono ?_; rintro e W0 ⟨rfl, rfl⟩)
      go_loopg [0] (W - s.size) (fun u y wr => wr = W0 ∧ ∃ k, Hid (u + k = W - s.size) ∧ y = .string (g k))
      case atStart => exact ⟨rfl, 0, Lib.hid (by omega), by rw [← HG0.out]⟩
      case round =>
        obtain ⟨rfl, k, hk, rfl⟩ := hrel
        have hz := HZ.out k
        have hs1 := HG.out k
        have hv := HV2.out
        by_cases hlt : s.size + k < W
        · generalize g k = G at *
          have c6 : decide ((G.size : Int) < (W : Int)) = true := decide_eq_true (by omega)
          have c6b : G.size < W := by omega
          have hG4 : G.size ≤ 400 := by omega
          have HS := Lib.hid hs1
          have HLT := Lib.hid hlt
          clear hs1 hz hlt hv HG HZ HG0
          go_wp2_with fail
          go_roundg (gk - 1)
          case measure => have := hk.out; have := HLT.out; omega
          case rel => exact ⟨rfl, k + 1, Lib.hid (by have := hk.out; have := HLT.out; omega), by rw [HS.out]⟩
        · obtain rfl : k = W - s.size := by have := hk.out; omega
          generalize g (W - s.size) = G at *
          have c6 : decide ((G.size : Int) < (W : Int)) = false := decide_eq_false (by omega)
          have c6b : ¬ G.size < W := by omega
          have HVV := Lib.hid hv
          clear hs1 hz hlt hv HG HZ HG0 hk
          go_wp2_with fail
          exact bodyPost_ret (v := .tuple #[.string G, .int .i64 0]) (by simp [results, Tryd.results10, go_sem]) rfl ⟨by rw [HVV.out], Below.refl _ _⟩
    · obtain ⟨j, hj⟩ : ∃ j, s.size = j + 1 := ⟨s.size - 1, by omega⟩
      have hemp := size_pos_list (s := s) (by omega)
      have hjl : j < s.size := by omega
      have hx := idx_at s j hjl
      have hl := hs_last s j hj
      rw [h5] at hl
      have hb : (s[j] == 32) = false := hl.symm
      obtain ⟨v, hv⟩ : ∃ v : Nat, s[j].toNat = v := ⟨_, rfl⟩
      have hv32 : v ≠ 32 := by
        intro e
        rw [beq_eq_false_iff_ne] at hb
        exact hb (UInt8.toNat_inj.1 (by rw [hv, e]; rfl))
      have hvq : ((v : Int) == 32) = false := by rw [beq_eq_false_iff_ne]; omega
      rw [hv] at hx
      have e1 : (s.size : Int) - 1 = (j : Int) := by omega
      clear h1 h2 h3 h4 h5 hV hg h0 hl hb hv
      go_enter Tryd.func10, Tryd.ntmps10
      go_wp2_with (go_at_call 29; refine (RP.out _).mono ?_; rintro e W0 ⟨rfl, rfl⟩)
      go_loopg [0] (W - s.size) (fun u y wr => wr = W0 ∧ ∃ k, Hid (u + k = W - s.size) ∧ y = .string (g k))
      case atStart => exact ⟨rfl, 0, Lib.hid (by omega), by rw [← HG0.out]⟩
      case round =>
        obtain ⟨rfl, k, hk, rfl⟩ := hrel
        have hz := HZ.out k
        have hs1 := HG.out k
        have hv := HV2.out
        by_cases hlt : s.size + k < W
        · generalize g k = G at *
          have c6 : decide ((G.size : Int) < (W : Int)) = true := decide_eq_true (by omega)
          have c6b : G.size < W := by omega
          have hG4 : G.size ≤ 400 := by omega
          have HS := Lib.hid hs1
          have HLT := Lib.hid hlt
          clear hs1 hz hlt hv HG HZ HG0
          go_wp2_with fail
          go_roundg (gk - 1)
          case measure => have := hk.out; have := HLT.out; omega
          case rel => exact ⟨rfl, k + 1, Lib.hid (by have := hk.out; have := HLT.out; omega), by rw [HS.out]⟩
        · obtain rfl : k = W - s.size := by have := hk.out; omega
          generalize g (W - s.size) = G at *
          have c6 : decide ((G.size : Int) < (W : Int)) = false := decide_eq_false (by omega)
          have c6b : ¬ G.size < W := by omega
          have HVV := Lib.hid hv
          clear hs1 hz hlt hv HG HZ HG0 hk
          go_wp2_with fail
          exact bodyPost_ret (v := .tuple #[.string G, .int .i64 0]) (by simp [results, Tryd.results10, go_sem]) rfl ⟨by rw [HVV.out], Below.refl _ _⟩
  · rw [if_pos (.inr h5)] at hE
    subst hE
    rw [if_neg (by omega)] at hV
    subst hV
    obtain ⟨j, hj⟩ : ∃ j, s.size = j + 1 := by
      refine ⟨s.size - 1, ?_⟩
      rcases Nat.eq_zero_or_pos s.size with h0 | h0
      · have : ls s = [] := List.eq_nil_of_length_eq_zero (by rw [← ls_size]; exact h0)
        rw [this] at h5
        cases h5
      · omega
    have hemp := size_pos_list (s := s) (by omega)
    have hjl : j < s.size := by omega
    have hx := idx_at s j hjl
    have hl := hs_last s j hj
    rw [h5] at hl
    have hv : s[j] = 32 := by have := hl.symm; rw [beq_iff_eq] at this; exact this
    rw [hv] at hx
    have e1 : (s.size : Int) - 1 = (j : Int) := by omega
    clear h1 h2 h3 h4 h5 hl
    go_enter Tryd.func10, Tryd.ntmps10
    go_wp2_with (go_at_call 29; refine (RP.out _).mono ?_; rintro e W0 ⟨rfl, rfl⟩)
    exact bodyPost_ret (v := .tuple #[.string ⟨#[]⟩, .int .i64 2]) (by simp [results, Tryd.results10, go_sem]) rfl ⟨rfl, Below.refl _ _⟩
end Go.Proofs.YtknipjjmpdnomaaDoor
