/- The reference's number and text. -/
import Derived.Test.YtikmaljhfckbgaaDoorL
set_option linter.unusedVariables false
set_option linter.unusedSimpArgs false
namespace Go.Proofs.YtikmaljhfckbgaaDoor
open Go.Sort Go.ChangeShapes Go.WideShapes Go.ChangeAt Go.RowKit
theorem take_k (s : ByteArray) (k : Nat) (h : k < s.size) : (ls s).take (k + 1) = (ls s).take k ++ [s[k]] := by
  rw [take_one s k h, getD_at s k h]
theorem val_k (s : ByteArray) (k : Nat) (h : k < s.size) : valF 0 ((ls s).take (k + 1)) = valF 0 ((ls s).take k) * 10 + (s[k].toNat - 48) := by
  rw [take_k s k h, valF_app, valF_cons, valF_nil]
theorem valF_mono (s : ByteArray) (k : Nat) : valF 0 ((ls s).take k) ≤ valF 0 (ls s) := by
  conv => rhs; rw [← List.take_append_drop k (ls s), valF_app]
  exact valF_ge _ _
theorem allD_k (s : ByteArray) (k : Nat) (h : k < s.size) : allD ((ls s).take (k + 1)) = (allD ((ls s).take k) && isG (s[k].toNat : Int)) := by
  rw [← isG_nat]; exact allD_take s k h
abbrev NPost (R : St) (w : World) (e : Ending) (w' : World) : Prop := e = .returned (.tuple #[.int .i64 R.v, .int .i64 R.e]) ∧ w' = w
set_option maxHeartbeats 2000000 in
set_option maxRecDepth 100000 in
theorem rnum_zero (s : ByteArray) (h1 : 1 < s.size) (hc : (s[0].toNat : Int) = 48) (hs : s.size ≤ 10000) (w : World) (R : St) (hR : Hid (R = .bad 2)) : Calls Tryd.prog 53 #[.string s] w (NPost R w) := by
  have hg : isG (s[0].toNat : Int) = true := by rw [hc]; decide
  have KG := Lib.hid (fun w => digit_any (s[0].toNat : Int) w)
  rw [hg] at KG
  have c1 : ((s[0].toNat : Int) == 48) = true := by rw [hc]; rfl
  have c2 : decide ((1 : Int) < (s.size : Int)) = true := decide_eq_true (by omega)
  have c3 : (0 : Int) < (s.size : Int) := by omega
  have c4 : (0 : Nat) < s.size := by omega
  have hsi : (s.size : Int) ≤ 10000 := by omega
  clear hc hg
  go_enter Tryd.func53, Tryd.ntmps53
  go_wp2_with fail
  refine wp_loop_rounds 1 ?_
  rw [rounds_succ]
  go_wp2_with fail
  refine (KG.out _).mono ?_
  rintro e w1 ⟨rfl, rfl⟩
  go_wp2_with fail
  go_ret2
  exact ⟨by rw [hR.out] <;> rfl, rfl⟩
set_option maxHeartbeats 2000000 in
set_option maxRecDepth 100000 in
theorem rnum_loop (s : ByteArray) (h0 : 0 < s.size) (hf : (s.size = 1) ∨ ¬ (s[0].toNat : Int) = 48) (hs : s.size ≤ 10000) (w : World) (R : St)
    (hbad : Hid (allD (ls s) = false → R = .bad 2)) (hbig : Hid (allD (ls s) = true → 9007199254740992 < valF 0 (ls s) → R = .bad 4)) (hok : Hid (allD (ls s) = true → ¬ 9007199254740992 < valF 0 (ls s) → R.v = valF 0 (ls s) ∧ R.e = 0)) : Calls Tryd.prog 53 #[.string s] w (NPost R w) := by
  have q0 := idx_at s 0 h0
  have c3 : (0 : Int) < (s.size : Int) := by omega
  have hsi : (s.size : Int) ≤ 10000 := by omega
  obtain ⟨Z, hZ⟩ : ∃ Z, ((s[0].toNat : Int) == 48) = Z := ⟨_, rfl⟩
  obtain ⟨Y, hY⟩ : ∃ Y, decide ((1 : Int) < (s.size : Int)) = Y := ⟨_, rfl⟩
  have hYZ : Y = true → Z = false := by
    intro hy
    rw [← hZ, beq_eq_false_iff_ne]
    rcases hf with h | h
    · rw [← hY] at hy; have := of_decide_eq_true hy; omega
    · exact h
  have HYZ := Lib.hid hYZ
  have HV := Lib.hid (valF_mono s)
  have HK := Lib.hid (val_k s)
  have HA := Lib.hid (allD_k s)
  have HF := Lib.hid (allD_false s)
  clear hf hYZ
  go_enter Tryd.func53, Tryd.ntmps53
  go_wp2_with fail
  go_loop [4, 5, 6] (fun n l x => ∃ (k : Nat) (N : Int) (L : Bool), k ≤ s.size ∧ x = .int .i64 k ∧ n = .int .i64 N ∧ l = .bool L ∧ 0 ≤ N ∧ N ≤ 90071992547409929 ∧ Hid (allD ((ls s).take k) = true) ∧ Hid ((L = false ∧ N = (valF 0 ((ls s).take k) : Nat) ∧ N ≤ 9007199254740992) ∨ (L = true ∧ 9007199254740992 < valF 0 ((ls s).take k)))) (fun _ _ x => s.size - (intOf x).toNat)
  case atStart => exact ⟨0, 0, false, Nat.zero_le _, rfl, rfl, rfl, by omega, by omega, Lib.hid rfl, Lib.hid (.inl ⟨rfl, rfl, by omega⟩)⟩
  case round =>
    obtain ⟨k, N, L, hk, rfl, rfl, rfl, hN0, hN1, hA, hL⟩ := hrel
    by_cases hlt : k < s.size
    · have hlt' : (k : Int) < (s.size : Int) := by omega
      have qk := idx_at s k hlt
      have hac := HA.out k hlt
      rw [hA.out, Bool.true_and] at hac
      cases hg : isG (s[k].toNat : Int)
      · have HB := Lib.hid (hbad.out (HF.out k hlt (by rw [isG_nat]; exact hg)))
        have KG := Lib.hid (fun w => digit_any (s[k].toNat : Int) w)
        rw [hg] at KG
        clear hac hg
        go_wp2_with (go_at_call 52; refine (KG.out _).mono ?_; rintro e w1 ⟨rfl, rfl⟩)
        go_ret2
        exact ⟨by rw [HB.out] <;> rfl, rfl⟩
      · have hd := (isG_iff _).1 hg
        have KG := Lib.hid (fun w => digit_any (s[k].toNat : Int) w)
        rw [hg] at KG
        rw [hg] at hac
        have HAC := Lib.hid hac
        have hkk := HK.out k hlt
        obtain ⟨c, hc⟩ : ∃ c : Int, (s[k].toNat : Int) = c := ⟨_, rfl⟩
        have hcn : s[k].toNat = c.toNat := by omega
        rw [hcn] at hkk
        have KG2 : Hid (∀ w, Calls Tryd.prog 52 #[.int .u8 c] w fun e w' => e = .returned (.bool true) ∧ w' = w) := Lib.hid (hc ▸ KG.out)
        rw [hc] at qk hd
        have w1 : IntKind.u8.wrap (c - 48) = c - 48 := by rw [IntKind.wrap_u8]; omega
        have w2 : IntKind.i64.wrap (10 * N) = 10 * N := IntWalk.i64_in _ (by omega)
        have w3 : IntKind.i64.wrap (10 * N + (c - 48)) = 10 * N + (c - 48) := IntWalk.i64_in _ (by omega)
        have w4 : IntKind.i64.wrap (c - 48) = c - 48 := IntWalk.i64_in _ (by omega)
        have HKK := Lib.hid hkk
        clear hac hg KG hkk hcn hc
        rcases hL.out with ⟨rfl, hNv, hNb⟩ | ⟨rfl, hbg⟩
        · have w5 : IntKind.i64.wrap (10 * N) = 10 * N := w2
          have HNV := Lib.hid hNv
          clear hNv
          by_cases hgr : 9007199254740992 < 10 * N + (c - 48)
          · have HF1 := Lib.hid (show 9007199254740992 < valF 0 ((ls s).take (k + 1)) by rw [HKK.out]; have := HNV.out; omega)
            have d1 : decide (9007199254740992 < 10 * N + (c - 48)) = true := decide_eq_true hgr
            cases Y
            · clear HYZ
              go_wp2_with (go_at_call 52; refine (KG2.out _).mono ?_; rintro e w1 ⟨rfl, rfl⟩)
              go_round
              case rel => exact ⟨k + 1, 10 * N + (c - 48), true, by omega, by go_num, rfl, rfl, by omega, by omega, HAC, Lib.hid (.inr ⟨rfl, HF1.out⟩)⟩
              case measure => simp [intOf]; omega
            · have hz := HYZ.out rfl
              subst hz
              clear HYZ
              go_wp2_with (go_at_call 52; refine (KG2.out _).mono ?_; rintro e w1 ⟨rfl, rfl⟩)
              go_round
              case rel => exact ⟨k + 1, 10 * N + (c - 48), true, by omega, by go_num, rfl, rfl, by omega, by omega, HAC, Lib.hid (.inr ⟨rfl, HF1.out⟩)⟩
              case measure => simp [intOf]; omega
          · have HF1 := Lib.hid (show 10 * N + (c - 48) = (valF 0 ((ls s).take (k + 1)) : Nat) by rw [HKK.out]; have := HNV.out; omega)
            have d1 : decide (9007199254740992 < 10 * N + (c - 48)) = false := decide_eq_false hgr
            cases Y
            · clear HYZ
              go_wp2_with (go_at_call 52; refine (KG2.out _).mono ?_; rintro e w1 ⟨rfl, rfl⟩)
              go_round
              case rel => exact ⟨k + 1, 10 * N + (c - 48), false, by omega, by go_num, rfl, rfl, by omega, by omega, HAC, Lib.hid (.inl ⟨rfl, HF1.out, by omega⟩)⟩
              case measure => simp [intOf]; omega
            · have hz := HYZ.out rfl
              subst hz
              clear HYZ
              go_wp2_with (go_at_call 52; refine (KG2.out _).mono ?_; rintro e w1 ⟨rfl, rfl⟩)
              go_round
              case rel => exact ⟨k + 1, 10 * N + (c - 48), false, by omega, by go_num, rfl, rfl, by omega, by omega, HAC, Lib.hid (.inl ⟨rfl, HF1.out, by omega⟩)⟩
              case measure => simp [intOf]; omega
        · have HF1 := Lib.hid (show 9007199254740992 < valF 0 ((ls s).take (k + 1)) by rw [HKK.out]; omega)
          clear hbg
          cases Y
          · clear HYZ
            go_wp2_with (go_at_call 52; refine (KG2.out _).mono ?_; rintro e w1 ⟨rfl, rfl⟩)
            go_round
            case rel => exact ⟨k + 1, N, true, by omega, by go_num, rfl, rfl, by omega, by omega, HAC, Lib.hid (.inr ⟨rfl, HF1.out⟩)⟩
            case measure => simp [intOf]; omega
          · have hz := HYZ.out rfl
            subst hz
            clear HYZ
            go_wp2_with (go_at_call 52; refine (KG2.out _).mono ?_; rintro e w1 ⟨rfl, rfl⟩)
            go_round
            case rel => exact ⟨k + 1, N, true, by omega, by go_num, rfl, rfl, by omega, by omega, HAC, Lib.hid (.inr ⟨rfl, HF1.out⟩)⟩
            case measure => simp [intOf]; omega
    · have hge : ¬ (k : Int) < (s.size : Int) := by omega
      obtain rfl : k = s.size := by omega
      have hAll := hA.out
      rw [List.take_of_length_le (by rw [← ls_size]; exact Nat.le_refl _)] at hAll
      rcases hL.out with ⟨rfl, hNv, hNb⟩ | ⟨rfl, hbg⟩
      · rw [List.take_of_length_le (by rw [← ls_size]; exact Nat.le_refl _)] at hNv
        have HB := Lib.hid (hok.out hAll (by omega))
        rw [← hNv] at HB
        clear hAll hNv hL hA hlt
        go_wp2_with fail
        go_ret2
        exact ⟨by rw [HB.out.1, HB.out.2] <;> rfl, rfl⟩
      · rw [List.take_of_length_le (by rw [← ls_size]; exact Nat.le_refl _)] at hbg
        have HB := Lib.hid (hbig.out hAll hbg)
        clear hAll hbg hL hA hlt
        go_wp2_with fail
        go_ret2
        exact ⟨by rw [HB.out] <;> rfl, rfl⟩
theorem rnum_any (s : ByteArray) (h0 : 0 < s.size) (hs : s.size ≤ 10000) (w : World) : Calls Tryd.prog 53 #[.string s] w (NPost (numB (ls s)) w) := by
  have hne : ls s ≠ [] := fun h => by rw [ls_size, h] at h0; exact absurd h0 (by simp)
  have hne2 : (!(ls s == [])) = true := by rw [beq_eq_false_iff_ne.2 hne]; rfl
  have g0 : (ls s).getD 0 0 = s[0] := getD_at s 0 h0
  have gi : (s[0].toNat : Int) = 48 ↔ s[0] = 48 := by
    constructor
    · intro h; exact UInt8.toNat_inj.1 (by show s[0].toNat = 48; omega)
    · intro h; rw [h]; rfl
  by_cases hz : 1 < s.size ∧ (s[0].toNat : Int) = 48
  · exact rnum_zero s hz.1 hz.2 hs w _ (Lib.hid (by unfold numB; rw [if_pos (.inr ⟨by rw [g0]; exact gi.1 hz.2, by rw [← ls_size]; exact hz.1⟩)]))
  · have hno : ¬ ((ls s).getD 0 0 = 48 ∧ 1 < (ls s).length) := fun h => hz ⟨by rw [ls_size]; exact h.2, gi.2 (by rw [← g0]; exact h.1)⟩
    have hif : allD (ls s) = true → numB (ls s) = if 9007199254740992 < valF 0 (ls s) then .bad 4 else .tok (ls s).length 2 [] (valF 0 (ls s)) := fun h => by
      unfold numB
      rw [if_neg]
      rintro (h2 | h2)
      · rw [h, hne2] at h2; cases h2
      · exact hno h2
    refine rnum_loop s h0 ?_ hs w _ (Lib.hid fun h => ?_) (Lib.hid fun h h2 => ?_) (Lib.hid fun h h2 => ?_)
    · by_cases h1 : s.size = 1
      · exact .inl h1
      · exact .inr (fun h => hz ⟨by omega, h⟩)
    · unfold numB; rw [h, if_pos (.inl rfl)]
    · rw [hif h, if_pos h2]
    · rw [hif h, if_neg h2]; exact ⟨rfl, rfl⟩
end Go.Proofs.YtikmaljhfckbgaaDoor
