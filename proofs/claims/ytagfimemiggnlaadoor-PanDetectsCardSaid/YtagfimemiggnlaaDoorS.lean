/- Index of the program; Within of both. -/
import Derived.Test.YtagfimemiggnlaaDoorR
import Derived.WalkLawsBesides
set_option linter.unusedVariables false
set_option linter.unusedSimpArgs false
namespace Go.Proofs.YtagfimemiggnlaaDoor
open Go.Sort Go.ChangeShapes Go.WideShapes Go.ChangeAt Go.RowKit
theorem atoi_call (s : ByteArray) (n : Int) (hl : s.size ≤ 18) (h : Lib.atoi s.data.toList = some n) (w : World) :
    Calls Tryd.prog 39 #[.string s] w fun e w' => e = .returned (.tuple #[.int .i64 n, .nilIface]) ∧ Below w.heap.size w w' :=
  (Tryd.strconv_Atoi s n hl h w).mono fun e w' ⟨he, t, hw⟩ => ⟨he, hw ▸ Go.Joins.below_bytesWorld w.heap.size w 5 t (Nat.le_refl _)⟩
theorem bdn {B : Nat} {a w : World} (h : Below B a w) (n : Nat) : Below B a (w.drewN n) := h.trans ⟨rfl, rfl, rfl, Nat.le_refl _, fun _ _ => rfl⟩
set_option maxHeartbeats 1000000 in
theorem index_any (p s : ByteArray) (hp : p.size ≤ 100) (hs : s.size ≤ 200) (w : World) :
    Calls Tryd.prog 23 #[.string p, .string s] w fun e w' => e = .returned (.tuple #[.int .i64 (idxV p s), .bool (idxB p s)]) ∧ Below w.heap.size w w' := by
  have RP := Lib.hid (fun w => isP_any p hp w)
  have RC := Lib.hid (fun w => check_any s hs w)
  have RH := Lib.hid (fun w => Tryd.strings_HasPrefix s p w)
  cases h : idxB p s
  · rw [idx_no h]
    unfold idxB at h
    cases h1 : isP p
    · rw [h1] at RP
      clear h h1
      go_enter Tryd.func23, Tryd.ntmps23
      go_wp2_with (go_at_call 36; refine (RP.out _).mono ?_; rintro e w' ⟨rfl, rfl⟩)
      exact bodyPost_ret (v := .tuple #[.int .i64 0, .bool false]) (by simp [results, Tryd.results23, go_sem]) rfl ⟨rfl, Below.refl _ _⟩
    · rw [h1] at RP
      by_cases h2 : chkP s = 0
      · have h3 : Lib.hasPrefix s.data.toList p.data.toList = false := by rw [h1, h2] at h; simpa using h
        rw [h3] at RH
        rw [h2] at RC
        clear h h1 h2 h3
        go_enter Tryd.func23, Tryd.ntmps23
        go_wp2_with (go_at_call 36; refine (RP.out _).mono ?_; rintro e w' ⟨rfl, rfl⟩)
        refine (RC.out _).mono ?_
        rintro e w1 ⟨rfl, hb1⟩
        have HB1 := Lib.hid hb1
        clear hb1
        go_wp2_with (go_at_call 38; refine (RH.out _).mono ?_; rintro e w' ⟨rfl, rfl⟩)
        exact bodyPost_ret (v := .tuple #[.int .i64 0, .bool false]) (by simp [results, Tryd.results23, go_sem]) rfl ⟨rfl, HB1.out⟩
      · have c1 : (chkP s != 0) = true := by rw [bne_iff_ne]; exact h2
        have c1b : (chkP s == 0) = false := by rw [beq_eq_false_iff_ne]; exact h2
        generalize chkP s = P at *
        clear h h1 h2
        go_enter Tryd.func23, Tryd.ntmps23
        go_wp2_with (go_at_call 36; refine (RP.out _).mono ?_; rintro e w' ⟨rfl, rfl⟩)
        refine (RC.out _).mono ?_
        rintro e w1 ⟨rfl, hb1⟩
        have HB1 := Lib.hid hb1
        clear hb1
        go_wp2_with fail
        exact bodyPost_ret (v := .tuple #[.int .i64 0, .bool false]) (by simp [results, Tryd.results23, go_sem]) rfl ⟨rfl, HB1.out⟩
  · rw [idx_yes h]
    obtain ⟨h1, h2, h3, h4, h5⟩ := idxB_in h
    obtain ⟨l0, l1, hd, _⟩ := chk_in s h2
    have h6 := (pre_iff p s (by omega)).2 h5
    rw [h1] at RP
    rw [h2] at RC
    rw [h6] at RH
    have he : ls (s.extract p.size (s.size - 1)) = mid p s := ls_ex _ _ _
    have RA := Lib.hid (fun w => atoi_call (s.extract p.size (s.size - 1)) ((valF 0 (mid p s) : Nat) : Int) (by rw [ByteArray.size_extract]; omega) (by
      show Lib.atoi (ls _) = _
      rw [he]
      exact atoi_valF _ (mid_all hd) (fun e => by have := congrArg List.length e; rw [mid_len] at this; simp at this; omega)) w)
    have q1 := cut_lh s p.size (s.size - 1) (by omega) (by omega)
    have e1 : (s.size : Int) - 1 = ((s.size - 1 : Nat) : Int) := by omega
    have hpi : (p.size : Int) ≤ 10 := by omega
    have hsi : (s.size : Int) ≤ 19 := by omega
    have hsj : (12 : Int) ≤ (s.size : Int) := by omega
    generalize ((valF 0 (mid p s) : Nat) : Int) = V at *
    clear h h1 h2 h5 h6 hd he
    generalize s.size - 1 = s1 at *
    go_enter Tryd.func23, Tryd.ntmps23
    go_wp2_with (go_at_call 36; refine (RP.out _).mono ?_; rintro e w' ⟨rfl, rfl⟩)
    refine (RC.out _).mono ?_
    rintro e w1 ⟨rfl, hb1⟩
    have HB1 := Lib.hid hb1
    clear hb1
    go_wp2_with (go_at_call 38; refine (RH.out _).mono ?_; rintro e w' ⟨rfl, rfl⟩)
    refine (RA.out _).mono ?_
    rintro e w2 ⟨rfl, hb2⟩
    have HB2 := Lib.hid (below_call HB1.out hb2)
    clear hb2
    go_wp2_with fail
    go_quiet (fail)
    go_wp2_with fail
    exact bodyPost_ret (v := .tuple #[.int .i64 V, .bool true]) (by simp [results, Tryd.results23, go_sem]) rfl ⟨rfl, bdn HB2.out _⟩
theorem rindex_any (p s : ByteArray) (hp : p.size ≤ 100) (hs : s.size ≤ 200) (w : World) :
    Calls Tryd.prog 24 #[.string p, .string s] w fun e w' => e = .returned (.tuple #[.int .i64 (idxV p s), .bool (idxB p s)]) ∧ w' = w := by
  cases h : idxB p s
  · rw [idx_no h]; exact rindex_no p s hp hs h w
  · rw [idx_yes h]; exact rindex_yes p s h w
/- Within -/
def leB (a b : ByteArray) : Bool := Op.bytesLess a.toList b.toList || a.toList == b.toList
def winB (s a b : ByteArray) : Bool := allD s.data.toList && (allD a.data.toList && (allD b.data.toList && (decide (a.size = b.size) && (decide (1 ≤ a.size) && (decide (a.size ≤ s.size) && (leB a (s.extract 0 a.size) && leB (s.extract 0 a.size) b))))))
set_option maxHeartbeats 2000000 in
theorem rwithin_any (s a b : ByteArray) (hs : s.size ≤ 200) (ha : a.size ≤ 200) (hb : b.size ≤ 200) (w : World) :
    Calls Tryd.prog 26 #[.string s, .string a, .string b] w fun e w' => e = .returned (.bool (winB s a b)) ∧ w' = w := by
  have RS := Lib.hid (fun w => rdigits_any s w (by unfold maxLen; omega))
  have RA := Lib.hid (fun w => rdigits_any a w (by unfold maxLen; omega))
  have RB := Lib.hid (fun w => rdigits_any b w (by unfold maxLen; omega))
  have i1 : (s.size : Int) ≤ 200 := by omega
  have i2 : (a.size : Int) ≤ 200 := by omega
  have i3 : (b.size : Int) ≤ 200 := by omega
  obtain ⟨V, hV⟩ : ∃ V, winB s a b = V := ⟨_, rfl⟩
  rw [hV]
  unfold winB at hV
  cases hds : allD s.data.toList
  · rw [hds] at RS
    have HV := Lib.hid (show V = false by rw [← hV, hds]; rfl)
    clear hV hds hs ha hb
    go_enter Tryd.func26, Tryd.ntmps26
    go_wp2_with (first | (go_at_call 30; (with_reducible refine (RS.out _).mono ?_); rintro e w' ⟨rfl, rfl⟩) | (go_at_call 30; (with_reducible refine (RA.out _).mono ?_); rintro e w' ⟨rfl, rfl⟩) | (go_at_call 30; (with_reducible refine (RB.out _).mono ?_); rintro e w' ⟨rfl, rfl⟩))
    go_ret
    exact ⟨by rw [HV.out]; rfl, rfl⟩
  cases hda : allD a.data.toList
  · rw [hds] at RS
    rw [hda] at RA
    have HV := Lib.hid (show V = false by rw [← hV, hda]; simp)
    clear hV hds hs ha hb hda
    go_enter Tryd.func26, Tryd.ntmps26
    go_wp2_with (first | (go_at_call 30; (with_reducible refine (RS.out _).mono ?_); rintro e w' ⟨rfl, rfl⟩) | (go_at_call 30; (with_reducible refine (RA.out _).mono ?_); rintro e w' ⟨rfl, rfl⟩) | (go_at_call 30; (with_reducible refine (RB.out _).mono ?_); rintro e w' ⟨rfl, rfl⟩))
    go_ret
    exact ⟨by rw [HV.out]; rfl, rfl⟩
  cases hdb : allD b.data.toList
  · rw [hds] at RS
    rw [hda] at RA
    rw [hdb] at RB
    have HV := Lib.hid (show V = false by rw [← hV, hdb]; simp)
    clear hV hds hs ha hb hda hdb
    go_enter Tryd.func26, Tryd.ntmps26
    go_wp2_with (first | (go_at_call 30; (with_reducible refine (RS.out _).mono ?_); rintro e w' ⟨rfl, rfl⟩) | (go_at_call 30; (with_reducible refine (RA.out _).mono ?_); rintro e w' ⟨rfl, rfl⟩) | (go_at_call 30; (with_reducible refine (RB.out _).mono ?_); rintro e w' ⟨rfl, rfl⟩))
    go_ret
    exact ⟨by rw [HV.out]; rfl, rfl⟩
  rw [hds] at RS
  rw [hda] at RA
  rw [hdb] at RB
  rw [hds, hda, hdb] at hV
  clear hds hda hdb
  by_cases h4 : a.size = b.size
  · have c4 : ((a.size : Int) == (b.size : Int)) = true := by rw [h4]; simp
    have c4n : ((a.size : Int) != (b.size : Int)) = false := by rw [h4]; simp
    rw [decide_eq_true h4] at hV
    by_cases h5 : 1 ≤ a.size
    · have c5 : decide (1 ≤ (a.size : Int)) = true := decide_eq_true (by omega)
      rw [decide_eq_true h5] at hV
      by_cases h6 : a.size ≤ s.size
      · have c6 : decide ((a.size : Int) ≤ (s.size : Int)) = true := decide_eq_true (by omega)
        have c6n : ¬ s.size < a.size := by omega
        have q1 := cut_h s a.size h6
        rw [decide_eq_true h6] at hV
        cases h7 : leB a (s.extract 0 a.size)
        · have c7 : (Op.bytesLess a.toList (s.extract 0 a.size).toList || a.toList == (s.extract 0 a.size).toList) = false := h7
          have HV := Lib.hid (show V = false by rw [← hV, h7]; simp)
          clear hV hs ha hb h6 h4 h5 h7
          go_enter Tryd.func26, Tryd.ntmps26
          go_wp2_with (first | (go_at_call 30; (with_reducible refine (RS.out _).mono ?_); rintro e w' ⟨rfl, rfl⟩) | (go_at_call 30; (with_reducible refine (RA.out _).mono ?_); rintro e w' ⟨rfl, rfl⟩) | (go_at_call 30; (with_reducible refine (RB.out _).mono ?_); rintro e w' ⟨rfl, rfl⟩))
          go_ret
          exact ⟨by rw [HV.out]; rfl, rfl⟩
        · have c7 : (Op.bytesLess a.toList (s.extract 0 a.size).toList || a.toList == (s.extract 0 a.size).toList) = true := h7
          cases h8 : leB (s.extract 0 a.size) b
          · have c8 : (Op.bytesLess (s.extract 0 a.size).toList b.toList || (s.extract 0 a.size).toList == b.toList) = false := h8
            have HV := Lib.hid (show V = false by rw [← hV, h8]; simp)
            clear hV hs ha hb h6 h4 h5 h7 h8
            go_enter Tryd.func26, Tryd.ntmps26
            go_wp2_with (first | (go_at_call 30; (with_reducible refine (RS.out _).mono ?_); rintro e w' ⟨rfl, rfl⟩) | (go_at_call 30; (with_reducible refine (RA.out _).mono ?_); rintro e w' ⟨rfl, rfl⟩) | (go_at_call 30; (with_reducible refine (RB.out _).mono ?_); rintro e w' ⟨rfl, rfl⟩))
            go_ret
            exact ⟨by rw [HV.out]; rfl, rfl⟩
          · have c8 : (Op.bytesLess (s.extract 0 a.size).toList b.toList || (s.extract 0 a.size).toList == b.toList) = true := h8
            have HV := Lib.hid (show V = true by rw [← hV, h7, h8]; rfl)
            clear hV hs ha hb h6 h4 h5 h7 h8
            go_enter Tryd.func26, Tryd.ntmps26
            go_wp2_with (first | (go_at_call 30; (with_reducible refine (RS.out _).mono ?_); rintro e w' ⟨rfl, rfl⟩) | (go_at_call 30; (with_reducible refine (RA.out _).mono ?_); rintro e w' ⟨rfl, rfl⟩) | (go_at_call 30; (with_reducible refine (RB.out _).mono ?_); rintro e w' ⟨rfl, rfl⟩))
            go_ret
            exact ⟨by rw [HV.out]; rfl, rfl⟩
      · have c6 : decide ((a.size : Int) ≤ (s.size : Int)) = false := decide_eq_false (by omega)
        have c6n : s.size < a.size := by omega
        have HV := Lib.hid (show V = false by rw [← hV, decide_eq_false h6]; simp)
        clear hV hs ha hb h6 h4 h5
        go_enter Tryd.func26, Tryd.ntmps26
        go_wp2_with (first | (go_at_call 30; (with_reducible refine (RS.out _).mono ?_); rintro e w' ⟨rfl, rfl⟩) | (go_at_call 30; (with_reducible refine (RA.out _).mono ?_); rintro e w' ⟨rfl, rfl⟩) | (go_at_call 30; (with_reducible refine (RB.out _).mono ?_); rintro e w' ⟨rfl, rfl⟩))
        go_ret
        exact ⟨by rw [HV.out]; rfl, rfl⟩
    · have c5 : decide (1 ≤ (a.size : Int)) = false := decide_eq_false (by omega)
      have c5b : a.size = 0 := by omega
      have c5c : b.size = 0 := by omega
      have HV := Lib.hid (show V = false by rw [← hV, decide_eq_false h5]; simp)
      clear hV hs ha hb h4 h5
      go_enter Tryd.func26, Tryd.ntmps26
      go_wp2_with (first | (go_at_call 30; (with_reducible refine (RS.out _).mono ?_); rintro e w' ⟨rfl, rfl⟩) | (go_at_call 30; (with_reducible refine (RA.out _).mono ?_); rintro e w' ⟨rfl, rfl⟩) | (go_at_call 30; (with_reducible refine (RB.out _).mono ?_); rintro e w' ⟨rfl, rfl⟩))
      go_ret
      exact ⟨by rw [HV.out]; rfl, rfl⟩
  · have c4 : ((a.size : Int) == (b.size : Int)) = false := by rw [beq_eq_false_iff_ne]; omega
    have c4n : ((a.size : Int) != (b.size : Int)) = true := by rw [bne_iff_ne]; omega
    have HV := Lib.hid (show V = false by rw [← hV, decide_eq_false h4]; simp)
    clear hV hs ha hb
    go_enter Tryd.func26, Tryd.ntmps26
    go_wp2_with (first | (go_at_call 30; (with_reducible refine (RS.out _).mono ?_); rintro e w' ⟨rfl, rfl⟩) | (go_at_call 30; (with_reducible refine (RA.out _).mono ?_); rintro e w' ⟨rfl, rfl⟩) | (go_at_call 30; (with_reducible refine (RB.out _).mono ?_); rintro e w' ⟨rfl, rfl⟩))
    go_ret
    exact ⟨by rw [HV.out]; rfl, rfl⟩
set_option maxHeartbeats 2000000 in
theorem within_any (s a b : ByteArray) (hs : s.size ≤ 200) (ha : a.size ≤ 200) (hb : b.size ≤ 200) (w : World) :
    Calls Tryd.prog 25 #[.string s, .string a, .string b] w fun e w' => e = .returned (.bool (winB s a b)) ∧ w' = w := by
  have RS := Lib.hid (fun w => isdigits_any s w (by unfold maxLen; omega))
  have RA := Lib.hid (fun w => isdigits_any a w (by unfold maxLen; omega))
  have RB := Lib.hid (fun w => isdigits_any b w (by unfold maxLen; omega))
  have i1 : (s.size : Int) ≤ 200 := by omega
  have i2 : (a.size : Int) ≤ 200 := by omega
  have i3 : (b.size : Int) ≤ 200 := by omega
  obtain ⟨V, hV⟩ : ∃ V, winB s a b = V := ⟨_, rfl⟩
  rw [hV]
  unfold winB at hV
  cases hds : isD s
  · rw [hds] at RS
    have HV := Lib.hid (show V = false by
      rw [← hV]
      cases h1 : allD s.data.toList
      · simp
      · have h2 : s.size = 0 := by
          rcases Nat.eq_zero_or_pos s.size with h | h
          · exact h
          · unfold isD at hds; rw [h1, size_pos_list (by omega)] at hds; cases hds
        by_cases h3 : 1 ≤ a.size
        · rw [show decide (a.size ≤ s.size) = false from decide_eq_false (by omega)]; simp
        · rw [show decide (1 ≤ a.size) = false from decide_eq_false h3]; simp)
    clear hV hds hs ha hb
    go_enter Tryd.func25, Tryd.ntmps25
    go_wp2_with (first | (go_at_call 32; (with_reducible refine (RS.out _).mono ?_); rintro e w' ⟨rfl, rfl⟩) | (go_at_call 32; (with_reducible refine (RA.out _).mono ?_); rintro e w' ⟨rfl, rfl⟩) | (go_at_call 32; (with_reducible refine (RB.out _).mono ?_); rintro e w' ⟨rfl, rfl⟩))
    go_ret
    exact ⟨by rw [HV.out]; rfl, rfl⟩
  have hAs : allD s.data.toList = true := by unfold isD at hds; rw [Bool.and_eq_true] at hds; exact hds.1
  cases hda : isD a
  · rw [hds] at RS
    rw [hda] at RA
    have HV := Lib.hid (show V = false by
      rw [← hV]
      cases h1 : allD a.data.toList
      · simp
      · have h2 : a.size = 0 := by
          rcases Nat.eq_zero_or_pos a.size with h | h
          · exact h
          · unfold isD at hda; rw [h1, size_pos_list (by omega)] at hda; cases hda
        rw [show decide (1 ≤ a.size) = false from decide_eq_false (by omega)]; simp)
    clear hV hds hs ha hb hda hAs
    go_enter Tryd.func25, Tryd.ntmps25
    go_wp2_with (first | (go_at_call 32; (with_reducible refine (RS.out _).mono ?_); rintro e w' ⟨rfl, rfl⟩) | (go_at_call 32; (with_reducible refine (RA.out _).mono ?_); rintro e w' ⟨rfl, rfl⟩) | (go_at_call 32; (with_reducible refine (RB.out _).mono ?_); rintro e w' ⟨rfl, rfl⟩))
    go_ret
    exact ⟨by rw [HV.out]; rfl, rfl⟩
  have hAa : allD a.data.toList = true ∧ 1 ≤ a.size := by
    unfold isD at hda; rw [Bool.and_eq_true] at hda
    refine ⟨hda.1, ?_⟩
    rcases Nat.eq_zero_or_pos a.size with h | h
    · rw [size_zero_list h] at hda; simp at hda
    · omega
  cases hdb : isD b
  · rw [hds] at RS
    rw [hda] at RA
    rw [hdb] at RB
    have HV := Lib.hid (show V = false by
      rw [← hV]
      cases h1 : allD b.data.toList
      · simp
      · have h2 : b.size = 0 := by
          rcases Nat.eq_zero_or_pos b.size with h | h
          · exact h
          · unfold isD at hdb; rw [h1, size_pos_list (by omega)] at hdb; cases hdb
        rw [show decide (a.size = b.size) = false from decide_eq_false (by omega)]; simp)
    clear hV hds hs ha hb hda hdb hAs hAa
    go_enter Tryd.func25, Tryd.ntmps25
    go_wp2_with (first | (go_at_call 32; (with_reducible refine (RS.out _).mono ?_); rintro e w' ⟨rfl, rfl⟩) | (go_at_call 32; (with_reducible refine (RA.out _).mono ?_); rintro e w' ⟨rfl, rfl⟩) | (go_at_call 32; (with_reducible refine (RB.out _).mono ?_); rintro e w' ⟨rfl, rfl⟩))
    go_ret
    exact ⟨by rw [HV.out]; rfl, rfl⟩
  have hAb : allD b.data.toList = true := by unfold isD at hdb; rw [Bool.and_eq_true] at hdb; exact hdb.1
  rw [hds] at RS
  rw [hda] at RA
  rw [hdb] at RB
  obtain ⟨hAa, hA1⟩ := hAa
  rw [hAs, hAa, hAb, show decide (1 ≤ a.size) = true from decide_eq_true hA1] at hV
  clear hds hda hdb hAs hAa hAb
  by_cases h4 : a.size = b.size
  · have c4 : ((a.size : Int) == (b.size : Int)) = true := by rw [h4]; simp
    have c4n : ((a.size : Int) != (b.size : Int)) = false := by rw [h4]; simp
    rw [decide_eq_true h4] at hV
    by_cases h6 : a.size ≤ s.size
    · have c6 : decide ((a.size : Int) ≤ (s.size : Int)) = true := decide_eq_true (by omega)
      have c6n : ¬ s.size < a.size := by omega
      have q1 := cut_h s a.size h6
      rw [decide_eq_true h6] at hV
      cases h7 : leB a (s.extract 0 a.size)
      · have c7 : (Op.bytesLess a.toList (s.extract 0 a.size).toList || a.toList == (s.extract 0 a.size).toList) = false := h7
        have HV := Lib.hid (show V = false by rw [← hV, h7]; simp)
        clear hV hs ha hb h6 h4 h7
        go_enter Tryd.func25, Tryd.ntmps25
        go_wp2_with (first | (go_at_call 32; (with_reducible refine (RS.out _).mono ?_); rintro e w' ⟨rfl, rfl⟩) | (go_at_call 32; (with_reducible refine (RA.out _).mono ?_); rintro e w' ⟨rfl, rfl⟩) | (go_at_call 32; (with_reducible refine (RB.out _).mono ?_); rintro e w' ⟨rfl, rfl⟩))
        go_ret
        exact ⟨by rw [HV.out]; rfl, rfl⟩
      · have c7 : (Op.bytesLess a.toList (s.extract 0 a.size).toList || a.toList == (s.extract 0 a.size).toList) = true := h7
        cases h8 : leB (s.extract 0 a.size) b
        · have c8 : (Op.bytesLess (s.extract 0 a.size).toList b.toList || (s.extract 0 a.size).toList == b.toList) = false := h8
          have HV := Lib.hid (show V = false by rw [← hV, h8]; simp)
          clear hV hs ha hb h6 h4 h7 h8
          go_enter Tryd.func25, Tryd.ntmps25
          go_wp2_with (first | (go_at_call 32; (with_reducible refine (RS.out _).mono ?_); rintro e w' ⟨rfl, rfl⟩) | (go_at_call 32; (with_reducible refine (RA.out _).mono ?_); rintro e w' ⟨rfl, rfl⟩) | (go_at_call 32; (with_reducible refine (RB.out _).mono ?_); rintro e w' ⟨rfl, rfl⟩))
          go_ret
          exact ⟨by rw [HV.out]; rfl, rfl⟩
        · have c8 : (Op.bytesLess (s.extract 0 a.size).toList b.toList || (s.extract 0 a.size).toList == b.toList) = true := h8
          have HV := Lib.hid (show V = true by rw [← hV, h7, h8]; rfl)
          clear hV hs ha hb h6 h4 h7 h8
          go_enter Tryd.func25, Tryd.ntmps25
          go_wp2_with (first | (go_at_call 32; (with_reducible refine (RS.out _).mono ?_); rintro e w' ⟨rfl, rfl⟩) | (go_at_call 32; (with_reducible refine (RA.out _).mono ?_); rintro e w' ⟨rfl, rfl⟩) | (go_at_call 32; (with_reducible refine (RB.out _).mono ?_); rintro e w' ⟨rfl, rfl⟩))
          go_ret
          exact ⟨by rw [HV.out]; rfl, rfl⟩
    · have c6 : decide ((a.size : Int) ≤ (s.size : Int)) = false := decide_eq_false (by omega)
      have c6n : s.size < a.size := by omega
      have HV := Lib.hid (show V = false by rw [← hV, decide_eq_false h6]; simp)
      clear hV hs ha hb h6 h4
      go_enter Tryd.func25, Tryd.ntmps25
      go_wp2_with (first | (go_at_call 32; (with_reducible refine (RS.out _).mono ?_); rintro e w' ⟨rfl, rfl⟩) | (go_at_call 32; (with_reducible refine (RA.out _).mono ?_); rintro e w' ⟨rfl, rfl⟩) | (go_at_call 32; (with_reducible refine (RB.out _).mono ?_); rintro e w' ⟨rfl, rfl⟩))
      go_ret
      exact ⟨by rw [HV.out]; rfl, rfl⟩
  · have c4 : ((a.size : Int) == (b.size : Int)) = false := by rw [beq_eq_false_iff_ne]; omega
    have c4n : ((a.size : Int) != (b.size : Int)) = true := by rw [bne_iff_ne]; omega
    have HV := Lib.hid (show V = false by rw [← hV, decide_eq_false h4]; simp)
    clear hV hs ha hb
    go_enter Tryd.func25, Tryd.ntmps25
    go_wp2_with (first | (go_at_call 32; (with_reducible refine (RS.out _).mono ?_); rintro e w' ⟨rfl, rfl⟩) | (go_at_call 32; (with_reducible refine (RA.out _).mono ?_); rintro e w' ⟨rfl, rfl⟩) | (go_at_call 32; (with_reducible refine (RB.out _).mono ?_); rintro e w' ⟨rfl, rfl⟩))
    go_ret
    exact ⟨by rw [HV.out]; rfl, rfl⟩
end Go.Proofs.YtagfimemiggnlaaDoor
