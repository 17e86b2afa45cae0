/- The example; names. -/
import Derived.Test.YtikmaljhfckbgaaDoorT
set_option linter.unusedVariables false
set_option linter.unusedSimpArgs false
namespace Go.Proofs.YtikmaljhfckbgaaDoor
open Go.Sort Go.ChangeShapes Go.WideShapes Go.ChangeAt Go.RowKit
theorem ex_at (w : World) (v : Value) (h : LxAt w v (scan exS).l) : ∃ g cap, v = .slice (some ⟨g, 0, none⟩) 7 cap ∧ 7 ≤ cap ∧ cap ≤ maxLen ∧
    w.cell? ⟨g, 16, none⟩ = some (.int .i64 4) ∧ w.cell? ⟨g, 17, none⟩ = some (.string ⟨#[60, 61]⟩) ∧ w.cell? ⟨g, 18, none⟩ = some (.int .i64 0) ∧ w.cell? ⟨g, 19, none⟩ = some (.int .i64 19) ∧
    w.cell? ⟨g, 20, none⟩ = some (.int .i64 2) ∧ w.cell? ⟨g, 21, none⟩ = some (.string ⟨#[]⟩) ∧ w.cell? ⟨g, 22, none⟩ = some (.int .i64 100) ∧ w.cell? ⟨g, 23, none⟩ = some (.int .i64 22) ∧
    w.cell? ⟨g, 24, none⟩ = some (.int .i64 0) ∧ w.cell? ⟨g, 25, none⟩ = some (.string ⟨#[]⟩) ∧ w.cell? ⟨g, 26, none⟩ = some (.int .i64 0) ∧ w.cell? ⟨g, 27, none⟩ = some (.int .i64 25) := by
  rw [ex_scan.2.2] at h
  obtain ⟨a, cap, rfl, h1, h2, h3⟩ := h
  obtain ⟨g, rfl, -, a0, a1, a2, a3⟩ := h3 4 (by decide)
  obtain ⟨g', e1, -, b0, b1, b2, b3⟩ := h3 5 (by decide)
  obtain ⟨g'', e2, -, c0, c1, c2, c3⟩ := h3 6 (by decide)
  injection e1 with e1; injection e1 with e1 _ _
  injection e2 with e2; injection e2 with e2 _ _
  subst e1 e2
  exact ⟨_, cap, rfl, h1, h2, a0, a1, a2, a3, b0, b1, b2, b3, c0, c1, c2, c3⟩
set_option maxHeartbeats 2000000 in
set_option maxRecDepth 100000 in
theorem awake_any (w : World) (hT : LT w) : Calls Tryd.prog 9 #[] w fun e w' => e = .returned (.bool true) ∧ Below w.heap.size w w' := by
  have HS := Lib.hid (fun w (h : LT w) => scan_any exS w h)
  have HT := Lib.hid hT
  have HE := Lib.hid ex_scan
  have HX := Lib.hid ex_at
  have hex : exS = ⟨#[114, 117, 108, 101, 32, 97, 32, 119, 104, 101, 110, 32, 97, 109, 111, 117, 110, 116, 32, 60, 61, 32, 49, 48, 48]⟩ := rfl
  rw [hex] at HS HE HX
  clear hT hex
  go_enter Tryd.func9, Tryd.ntmps9
  go_wp2_with fail
  refine (HS.out _ HT.out).mono ?_
  rintro e w1 ⟨v, rfl, hown, hb⟩
  obtain ⟨g, cap, hv, hc1, hc2, c16, c17, c18, c19, c20, c21, c22, c23, c24, c25, c26, c27⟩ := HX.out w1 v (lxAt_of rfl hown)
  subst hv
  rw [HE.out.1, HE.out.2.1]
  have HB := Lib.hid hb
  clear hown hb HX HS
  go_wp2_with fail
  go_ret
  exact ⟨rfl, HB.out⟩
def nmB (l : List UInt8) : Bool := !(l == []) && (decide (l.length ≤ 16) && (isL ((l.getD 0 0).toNat : Int) && l.all isW))
theorem all_take (s : ByteArray) (k : Nat) (h : k < s.size) : ((ls s).take (k + 1)).all isW = (((ls s).take k).all isW && isW s[k]) := by
  rw [take_k s k h, List.all_append]; simp
theorem all_false (s : ByteArray) (k : Nat) (h : k < s.size) (hw : isW s[k] = false) : (ls s).all isW = false := by
  rw [List.all_eq_false]
  exact ⟨s[k], by rw [← getD_at s k h, List.getD_eq_getElem?_getD, List.getElem?_eq_getElem (show k < (ls s).length by rw [← ls_size]; exact h)]; exact List.getElem_mem _, by rw [hw]; simp⟩
set_option maxHeartbeats 2000000 in
set_option maxRecDepth 100000 in
theorem nm_empty (s : ByteArray) (hs : s.size ≤ 10000) (w : World) (h : (s.toList == []) = true) : Calls Tryd.prog 34 #[.string s] w fun e w' => e = .returned (.bool false) ∧ w' = w := by
  have hsi : (s.size : Int) ≤ 10000 := by omega
  go_enter Tryd.func34, Tryd.ntmps34
  go_wp2_with fail
  go_ret
  exact ⟨rfl, rfl⟩
set_option maxHeartbeats 2000000 in
set_option maxRecDepth 100000 in
theorem nm_long (s : ByteArray) (hs : s.size ≤ 10000) (w : World) (h : (s.toList == []) = false) (hl : decide ((16 : Int) < (s.size : Int)) = true) : Calls Tryd.prog 34 #[.string s] w fun e w' => e = .returned (.bool false) ∧ w' = w := by
  have hsi : (s.size : Int) ≤ 10000 := by omega
  go_enter Tryd.func34, Tryd.ntmps34
  go_wp2_with fail
  go_ret
  exact ⟨rfl, rfl⟩
set_option maxHeartbeats 2000000 in
set_option maxRecDepth 100000 in
theorem nm_first (s : ByteArray) (hs : s.size ≤ 10000) (w : World) (h : (s.toList == []) = false) (hl : decide ((16 : Int) < (s.size : Int)) = false) (h0 : 0 < s.size) (L : Hid (∀ w, Calls Tryd.prog 56 #[.int .u8 (s[0].toNat : Int)] w fun e w' => e = .returned (.bool false) ∧ w' = w)) : Calls Tryd.prog 34 #[.string s] w fun e w' => e = .returned (.bool false) ∧ w' = w := by
  have hsi : (s.size : Int) ≤ 10000 := by omega
  have q0 := idx_at s 0 h0
  have h0i : (0 : Int) < (s.size : Int) := by omega
  go_enter Tryd.func34, Tryd.ntmps34
  go_wp2_with fail
  refine (L.out _).mono ?_
  rintro e w1 ⟨rfl, rfl⟩
  go_wp2_with fail
  go_ret
  exact ⟨rfl, rfl⟩
set_option maxHeartbeats 2000000 in
set_option maxRecDepth 100000 in
theorem nm_rest (s : ByteArray) (hs : s.size ≤ 10000) (w : World) (h : (s.toList == []) = false) (hl : decide ((16 : Int) < (s.size : Int)) = false) (h0 : 0 < s.size) (L : Hid (∀ w, Calls Tryd.prog 56 #[.int .u8 (s[0].toNat : Int)] w fun e w' => e = .returned (.bool true) ∧ w' = w)) (B : Bool) (HB : Hid (B = (ls s).all isW)) : Calls Tryd.prog 34 #[.string s] w fun e w' => e = .returned (.bool B) ∧ w' = w := by
  have hsi : (s.size : Int) ≤ 10000 := by omega
  have q0 := idx_at s 0 h0
  have h0i : (0 : Int) < (s.size : Int) := by omega
  go_enter Tryd.func34, Tryd.ntmps34
  go_wp2_with fail
  refine (L.out _).mono ?_
  rintro e w1 ⟨rfl, rfl⟩
  go_wp2_with fail
  go_loop [19] (fun x => ∃ (k : Nat), k ≤ s.size ∧ x = .int .i64 k ∧ Hid (((ls s).take k).all isW = true)) (fun x => s.size - (intOf x).toNat)
  case atStart => exact ⟨0, Nat.zero_le _, rfl, Lib.hid rfl⟩
  case round =>
    obtain ⟨k, hk, rfl, hA⟩ := hrel
    by_cases hlt : k < s.size
    · have hlt' : (k : Int) < (s.size : Int) := by omega
      have qk := idx_at s k hlt
      cases hL : isL s[k].toNat
      · cases hG : isG s[k].toNat
        · by_cases h95 : (s[k].toNat : Int) = 95
          · have hw := isW_u hL hG h95
            have KL := Lib.hid (fun w => isletter_any (s[k].toNat : Int) w)
            rw [hL] at KL
            have KG := Lib.hid (fun w => pdigit_any s[k].toNat w)
            rw [hG] at KG
            obtain ⟨v, hv⟩ : ∃ v : Int, (s[k].toNat : Int) = v := ⟨_, rfl⟩
            have u1 : (v == 95) = true := by rw [beq_iff_eq]; omega
            have u2 : (v != 95) = false := by rw [bne, u1]; rfl
            have KL2 : Hid (∀ w, Calls Tryd.prog 56 #[.int .u8 v] w fun e w' => e = .returned (.bool false) ∧ w' = w) := Lib.hid (hv ▸ KL.out)
            have KG2 : Hid (∀ w, Calls Tryd.prog 57 #[.int .u8 v] w fun e w' => e = .returned (.bool false) ∧ w' = w) := Lib.hid (hv ▸ KG.out)
            clear KL KG h95
            have HA2 := Lib.hid (show ((ls s).take (k + 1)).all isW = true by rw [all_take s k hlt, hA.out, hw]; rfl)
            clear hw hL hG
            go_wp2_with (first | (go_at_call 56; refine (KL2.out _).mono ?_; rintro e w1 ⟨rfl, rfl⟩) | (go_at_call 57; refine (KG2.out _).mono ?_; rintro e w1 ⟨rfl, rfl⟩))
            go_round
            case rel => exact ⟨k + 1, by omega, by go_num, HA2⟩
            case measure => simp [intOf]; omega
          · have hw := isW_n hL hG h95
            have KL := Lib.hid (fun w => isletter_any (s[k].toNat : Int) w)
            rw [hL] at KL
            have KG := Lib.hid (fun w => pdigit_any s[k].toNat w)
            rw [hG] at KG
            obtain ⟨v, hv⟩ : ∃ v : Int, (s[k].toNat : Int) = v := ⟨_, rfl⟩
            have u1 : (v == 95) = false := by rw [beq_eq_false_iff_ne]; omega
            have u2 : (v != 95) = true := by rw [bne, u1]; rfl
            have KL2 : Hid (∀ w, Calls Tryd.prog 56 #[.int .u8 v] w fun e w' => e = .returned (.bool false) ∧ w' = w) := Lib.hid (hv ▸ KL.out)
            have KG2 : Hid (∀ w, Calls Tryd.prog 57 #[.int .u8 v] w fun e w' => e = .returned (.bool false) ∧ w' = w) := Lib.hid (hv ▸ KG.out)
            clear KL KG h95
            have HV := Lib.hid (all_false s k hlt hw)
            clear hw hL hG
            go_wp2_with (first | (go_at_call 56; refine (KL2.out _).mono ?_; rintro e w1 ⟨rfl, rfl⟩) | (go_at_call 57; refine (KG2.out _).mono ?_; rintro e w1 ⟨rfl, rfl⟩))
            go_ret
            exact ⟨by rw [HB.out, HV.out] <;> rfl, rfl⟩
        · have hw := isW_g hL hG
          have KL := Lib.hid (fun w => isletter_any (s[k].toNat : Int) w)
          rw [hL] at KL
          have KG := Lib.hid (fun w => pdigit_any s[k].toNat w)
          rw [hG] at KG
          have HA2 := Lib.hid (show ((ls s).take (k + 1)).all isW = true by rw [all_take s k hlt, hA.out, hw]; rfl)
          clear hw hL hG
          go_wp2_with (first | (go_at_call 56; refine (KL.out _).mono ?_; rintro e w1 ⟨rfl, rfl⟩) | (go_at_call 57; refine (KG.out _).mono ?_; rintro e w1 ⟨rfl, rfl⟩))
          go_round
          case rel => exact ⟨k + 1, by omega, by go_num, HA2⟩
          case measure => simp [intOf]; omega
      · have hw := isW_l hL
        have KL := Lib.hid (fun w => isletter_any (s[k].toNat : Int) w)
        rw [hL] at KL
        have HA2 := Lib.hid (show ((ls s).take (k + 1)).all isW = true by rw [all_take s k hlt, hA.out, hw]; rfl)
        clear hw hL
        go_wp2_with (go_at_call 56; refine (KL.out _).mono ?_; rintro e w1 ⟨rfl, rfl⟩)
        go_round
        case rel => exact ⟨k + 1, by omega, by go_num, HA2⟩
        case measure => simp [intOf]; omega
    · have hge : ¬ (k : Int) < (s.size : Int) := by omega
      have HV := Lib.hid (show (ls s).all isW = true by have := hA.out; rwa [List.take_of_length_le (by rw [← ls_size]; omega)] at this)
      clear hlt
      go_wp2_with fail
      go_ret
      exact ⟨by rw [HB.out, HV.out] <;> rfl, rfl⟩
theorem pname_any (s : ByteArray) (hs : s.size ≤ 10000) (w : World) : Calls Tryd.prog 34 #[.string s] w fun e w' => e = .returned (.bool (nmB (ls s))) ∧ w' = w := by
  cases h : (s.toList == [])
  · have h0 : 0 < s.size := by
      rcases Nat.eq_zero_or_pos s.size with h2 | h2
      · rw [size_zero_list h2] at h; cases h
      · exact h2
    have hb : (!(ls s == [])) = true := by rw [← ls_tl, h]; rfl
    by_cases hl : 16 < s.size
    · have e1 : nmB (ls s) = false := by unfold nmB; rw [decide_eq_false (by rw [← ls_size]; omega)]; simp
      rw [e1]
      exact nm_long s hs w h (decide_eq_true (by omega))
    have d2 : decide ((16 : Int) < (s.size : Int)) = false := decide_eq_false (by omega)
    have L := Lib.hid (fun w => isletter_any (s[0].toNat : Int) w)
    have e0 : nmB (ls s) = (isL (s[0].toNat : Int) && (ls s).all isW) := by
      unfold nmB; rw [hb, decide_eq_true (by rw [← ls_size]; omega), getD_at s 0 h0]; rfl
    cases hL : isL (s[0].toNat : Int)
    · rw [hL] at L e0
      rw [e0]
      exact nm_first s hs w h d2 h0 L
    · rw [hL] at L e0
      exact nm_rest s hs w h d2 h0 L _ (Lib.hid e0)
  · have e1 : nmB (ls s) = false := by unfold nmB; rw [← ls_tl, h]; rfl
    rw [e1]
    exact nm_empty s hs w h
set_option maxHeartbeats 2000000 in
set_option maxRecDepth 100000 in
theorem name_is (s : ByteArray) (hs : s.size ≤ 10000) (w : World) : Calls Tryd.prog 15 #[.string s] w fun e w' => e = .returned (.bool (nmB (ls s))) ∧ w' = w := by
  have P := Lib.hid (fun w => pname_any s hs w)
  go_enter Tryd.func15, Tryd.ntmps15
  go_wp2_with fail
  refine (P.out _).mono ?_
  rintro e w1 ⟨rfl, rfl⟩
  go_wp2_with fail
  go_ret
  exact ⟨rfl, rfl⟩
set_option maxHeartbeats 2000000 in
set_option maxRecDepth 100000 in
theorem rn_empty (s : ByteArray) (hs : s.size ≤ 10000) (w : World) (h : s.toList.isEmpty = true) : Calls Tryd.prog 16 #[.string s] w fun e w' => e = .returned (.bool false) ∧ w' = w := by
  have hsi : (s.size : Int) ≤ 10000 := by omega
  go_enter Tryd.func16, Tryd.ntmps16
  go_wp2_with fail
  go_ret
  exact ⟨rfl, rfl⟩
set_option maxHeartbeats 2000000 in
set_option maxRecDepth 100000 in
theorem rn_long (s : ByteArray) (hs : s.size ≤ 10000) (w : World) (h : s.toList.isEmpty = false) (hl : decide ((s.size : Int) ≤ 16) = false) : Calls Tryd.prog 16 #[.string s] w fun e w' => e = .returned (.bool false) ∧ w' = w := by
  have hsi : (s.size : Int) ≤ 10000 := by omega
  go_enter Tryd.func16, Tryd.ntmps16
  go_wp2_with fail
  go_ret
  exact ⟨rfl, rfl⟩
set_option maxHeartbeats 2000000 in
set_option maxRecDepth 100000 in
theorem rn_first (s : ByteArray) (hs : s.size ≤ 10000) (w : World) (h : s.toList.isEmpty = false) (hl : decide ((s.size : Int) ≤ 16) = true) (h0 : 0 < s.size) (L : Hid (∀ w, Calls Tryd.prog 35 #[.int .u8 (s[0].toNat : Int)] w fun e w' => e = .returned (.bool false) ∧ w' = w)) : Calls Tryd.prog 16 #[.string s] w fun e w' => e = .returned (.bool false) ∧ w' = w := by
  have hsi : (s.size : Int) ≤ 10000 := by omega
  have q0 := idx_at s 0 h0
  have h0i : (0 : Int) < (s.size : Int) := by omega
  go_enter Tryd.func16, Tryd.ntmps16
  go_wp2_with fail
  refine (L.out _).mono ?_
  rintro e w1 ⟨rfl, rfl⟩
  go_wp2_with fail
  go_ret
  exact ⟨rfl, rfl⟩
set_option maxHeartbeats 2000000 in
set_option maxRecDepth 100000 in
theorem rn_rest (s : ByteArray) (hs : s.size ≤ 10000) (w : World) (h : s.toList.isEmpty = false) (hl : decide ((s.size : Int) ≤ 16) = true) (h0 : 0 < s.size) (L : Hid (∀ w, Calls Tryd.prog 35 #[.int .u8 (s[0].toNat : Int)] w fun e w' => e = .returned (.bool true) ∧ w' = w)) (N : Int) (W : Hid (∀ w, Calls Tryd.prog 36 #[.string s, .int .i64 0] w fun e w' => e = .returned (.int .i64 N) ∧ w' = w)) (B : Bool) (hB : (N == (s.size : Int)) = B) : Calls Tryd.prog 16 #[.string s] w fun e w' => e = .returned (.bool B) ∧ w' = w := by
  have hsi : (s.size : Int) ≤ 10000 := by omega
  have q0 := idx_at s 0 h0
  have h0i : (0 : Int) < (s.size : Int) := by omega
  go_enter Tryd.func16, Tryd.ntmps16
  go_wp2_with fail
  refine (L.out _).mono ?_
  rintro e w1 ⟨rfl, rfl⟩
  go_wp2_with fail
  refine (W.out _).mono ?_
  rintro e w2 ⟨rfl, rfl⟩
  go_wp2_with fail
  go_ret
  exact ⟨rfl, rfl⟩
theorem rname_is (s : ByteArray) (hs : s.size ≤ 10000) (w : World) : Calls Tryd.prog 16 #[.string s] w fun e w' => e = .returned (.bool (nmB (ls s))) ∧ w' = w := by
  cases h : (s.toList == [])
  · have h0 : 0 < s.size := by
      rcases Nat.eq_zero_or_pos s.size with h2 | h2
      · rw [size_zero_list h2] at h; cases h
      · exact h2
    have hb : (!(ls s == [])) = true := by rw [← ls_tl, h]; rfl
    have hn : s.toList.isEmpty = false := by rw [beq_eq_false_iff_ne] at h; cases h2 : s.toList with
      | nil => exact absurd h2 h
      | cons a b => rfl
    by_cases hl : 16 < s.size
    · have e1 : nmB (ls s) = false := by unfold nmB; rw [decide_eq_false (by rw [← ls_size]; omega)]; simp
      rw [e1]
      exact rn_long s hs w hn (decide_eq_false (by omega))
    have d2 : decide ((s.size : Int) ≤ 16) = true := decide_eq_true (by omega)
    have L := Lib.hid (fun w => letter_any (s[0].toNat : Int) w)
    have e0 : nmB (ls s) = (isL (s[0].toNat : Int) && (ls s).all isW) := by
      unfold nmB; rw [hb, decide_eq_true (by rw [← ls_size]; omega), getD_at s 0 h0]; rfl
    cases hL : isL (s[0].toNat : Int)
    · rw [hL] at L e0
      rw [e0]
      exact rn_first s hs w hn d2 h0 L
    · rw [hL] at L e0
      have W := Lib.hid (fun w => rword_any s 0 (Nat.zero_le _) hs w)
      rw [List.drop_zero] at W
      have e3 : (((0 : Nat) : Int) + ((wordL (ls s)).length : Int) == (s.size : Int)) = (ls s).all isW := by
        rw [Bool.eq_iff_iff, beq_iff_eq, ← word_all, ls_size]; omega
      rw [e0]
      exact rn_rest s hs w hn d2 h0 L _ W _ e3
  · have e1 : nmB (ls s) = false := by unfold nmB; rw [← ls_tl, h]; rfl
    rw [e1]
    exact rn_empty s hs w (by rw [beq_iff_eq] at h; rw [h]; rfl)
end Go.Proofs.YtikmaljhfckbgaaDoor
