/- Group, Mask of the program. -/
import Derived.Test.YtagfimemiggnlaaDoorM
import Derived.Test.YtagfimemiggnlaaDoorBu
import Derived.Test.YtagfimemiggnlaaDoorShelf
set_option linter.unusedVariables false
set_option linter.unusedSimpArgs false
namespace Go.Proofs.YtagfimemiggnlaaDoor
open Go.Sort Go.ChangeShapes Go.WideShapes Go.ChangeAt Go.RowKit
def bst (l : List UInt8) : ByteArray := ⟨l.toArray⟩
theorem bst_size (l : List UInt8) : (bst l).size = l.length := by simp [bst, ByteArray.size]
theorem ls_bst (l : List UInt8) : ls (bst l) = l := by simp [ls, bst]
theorem bst_ls (s : ByteArray) : bst (ls s) = s := ls_ext (ls_bst _)
def Bui (w wr : World) (l : List UInt8) : Prop := Lib.IsBuilderF 43 5 w.heap.size w.heap.size (Lib.byteCells l) wr ∧ Below w.heap.size w wr
theorem Bui.new (w : World) : Bui w (w.alloc (.cells #[.pointer none, .slice none 0 0] 43)) [] := ⟨Lib.IsBuilderF.of (Lib.fresh_isBuilder 43 5 w), al_⟩
theorem Bui.byte {w wr : World} {l : List UInt8} (h : Bui w wr l) (c : UInt8) (hl : l.length ≤ 100000) :
    Calls Tryd.prog 34 #[.pointer (some ⟨w.heap.size, 0, none⟩), .int .u8 c.toNat] wr fun e w' => e = .returned .nilIface ∧ Bui w w' (l ++ [c]) :=
  (bu_byte w.heap.size w.heap.size _ c.toNat _ h.1 (by rw [Lib.byteCells_length]; omega) h.2.size).mono fun e w' ⟨he, a, b, _⟩ => ⟨he, by
    refine ⟨?_, h.2.trans b⟩
    rw [Lib.byteCells_append]
    exact .inr a⟩
theorem Bui.str {w wr : World} {l : List UInt8} (h : Bui w wr l) :
    Calls Tryd.prog 35 #[.pointer (some ⟨w.heap.size, 0, none⟩)] wr fun e w' => e = .returned (.string (bst l)) ∧ Below w.heap.size w w' :=
  (Tryd.Builder_String_any_k w.heap.size w.heap.size l _ h.1 h.2.size).mono fun e w' ⟨he, _, b, _⟩ => ⟨he, h.2.trans b⟩
theorem getD_at (s : ByteArray) (k : Nat) (h : k < s.size) : (ls s).getD k 0 = s[k] := by
  rw [List.getD_eq_getElem?_getD, List.getElem?_eq_getElem (by rw [← ls_size]; exact h)]
  rfl
set_option maxHeartbeats 1000000 in
theorem group_any (s : ByteArray) (hs : s.size ≤ 200) (w : World) : Calls Tryd.prog 19 #[.string s] w fun e w' => e = .returned (.string (grB s s.size)) ∧ Below w.heap.size w w' := by
  have HS := Lib.hid (grB_succ s)
  have H1 := Lib.hid (ls_one s)
  have HG1 := Lib.hid (getD_at s)
  obtain ⟨g, hg⟩ : ∃ g, g = grB s := ⟨_, rfl⟩
  rw [← hg] at HS ⊢
  have H0 : Hid (g 0 = ⟨#[]⟩) := Lib.hid (by rw [hg]; rfl)
  have hsi : (s.size : Int) ≤ 200 := by omega
  clear hg
  go_enter Tryd.func19, Tryd.ntmps19
  go_wp2_with fail
  go_loopw [7] (fun x wr => ∃ (k : Nat) (l : List UInt8), k ≤ s.size ∧ x = .int .i64 k ∧ Hid (ls (g k) = l) ∧ Hid (l.length ≤ 2 * k) ∧ Hid (Bui w wr l)) (fun x _ => s.size - (intOf x).toNat)
  case atStart => exact ⟨0, _, Nat.zero_le _, rfl, Lib.hid rfl, Lib.hid (by rw [H0.out]; exact Nat.le_refl _), Lib.hid (by rw [H0.out]; exact Bui.new w)⟩
  case round =>
    obtain ⟨k, l, hk, rfl, hG, hz, hB⟩ := hrel
    have HK := Lib.hid hk
    clear hk
    by_cases hlt : k < s.size
    · have hlt' : (k : Int) < (s.size : Int) := by omega
      have hn := HS.out k
      by_cases hp : 0 < k ∧ k % 4 = 0
      · rw [if_pos hp] at hn
        have HN := Lib.hid (show ls (g (k + 1)) = l ++ [32] ++ [s[k]] by rw [hn, ls_app, ls_app, hG.out, H1.out k hlt, HG1.out k hlt])
        have c1 : decide (0 < (k : Int)) = true := decide_eq_true (by omega)
        have c2 : (((k : Int) % 4) == 0) = true := by rw [beq_iff_eq]; omega
        have h0 : 0 < k := hp.1
        have HC1 := Lib.hid (hB.out.byte 32 (by have := hz.out; omega))
        have HZ := Lib.hid (show (l ++ [32]).length ≤ 2 * k + 1 by have := hz.out; rw [List.length_append]; simp; omega)
        clear hn hp
        go_wp2_with fail
        refine (HC1.out).mono ?_
        rintro e W1 ⟨rfl, hb1⟩
        have HC2 := Lib.hid (hb1.byte s[k] (by have := HZ.out; omega))
        clear hb1
        go_wp2_with fail
        refine (HC2.out).mono ?_
        rintro e W2 ⟨rfl, hb2⟩
        have HB2 := Lib.hid hb2
        clear hb2
        go_wp2_with fail
        go_roundw
        case rel => exact ⟨k + 1, _, by omega, by go_num, HN, Lib.hid (by have := HZ.out; rw [List.length_append, List.length_singleton]; omega), HB2⟩
        case measure => simp [intOf]; omega
      · rw [if_neg hp] at hn
        have HN := Lib.hid (show ls (g (k + 1)) = l ++ [s[k]] by rw [hn, ls_app, hG.out, H1.out k hlt, HG1.out k hlt])
        have HC1 := Lib.hid (hB.out.byte s[k] (by have := hz.out; omega))
        clear hn
        by_cases h0 : 0 < k
        · have c1 : decide (0 < (k : Int)) = true := decide_eq_true (by omega)
          have c2 : (((k : Int) % 4) == 0) = false := by rw [beq_eq_false_iff_ne]; omega
          clear hp
          go_wp2_with fail
          refine (HC1.out).mono ?_
          rintro e W2 ⟨rfl, hb2⟩
          have HB2 := Lib.hid hb2
          clear hb2
          go_wp2_with fail
          go_roundw
          case rel => exact ⟨k + 1, _, by omega, by go_num, HN, Lib.hid (by have := hz.out; rw [List.length_append, List.length_singleton]; omega), HB2⟩
          case measure => simp [intOf]; omega
        · obtain rfl : k = 0 := by omega
          clear hp
          go_wp2_with fail
          refine (HC1.out).mono ?_
          rintro e W2 ⟨rfl, hb2⟩
          have HB2 := Lib.hid hb2
          clear hb2
          go_wp2_with fail
          go_roundw
          case rel => exact ⟨0 + 1, _, by omega, by go_num, HN, Lib.hid (by have := hz.out; rw [List.length_append, List.length_singleton]; omega), HB2⟩
          case measure => simp [intOf]; omega
    · have hge : ¬ (k : Int) < (s.size : Int) := by omega
      obtain rfl : k = s.size := by have := HK.out; omega
      have HC1 := Lib.hid hB.out.str
      go_wp2_with fail
      refine (HC1.out).mono ?_
      rintro e W2 ⟨rfl, hb2⟩
      have HB2 := Lib.hid hb2
      clear hb2
      go_wp2_with fail
      go_ret
      exact ⟨by rw [← hG.out, bst_ls]; rfl, HB2.out⟩
/- Mask -/
theorem rep_star (n : Nat) : Lib.repeatL (⟨#[42]⟩ : ByteArray).data.toList n = List.replicate n 42 := by
  induction n with
  | zero => rfl
  | succ n ih => rw [List.replicate_succ, ← ih]; rfl
theorem star_call (n : Nat) (hn : n ≤ 200) (w : World) : Calls Tryd.prog 33 #[.string ⟨#[42]⟩, .int .i64 n] w fun e w' => e = .returned (.string (bst (List.replicate n 42))) ∧ Below w.heap.size w w' := by
  rw [← rep_star]
  exact Tryd.strings_Repeat ⟨#[42]⟩ n w (by omega) (by rw [show (⟨#[42]⟩ : ByteArray).size = 1 from rfl]; omega)
def mkP (s : ByteArray) : ByteArray := mkR (chkP s == 0) s s.size
set_option maxHeartbeats 1000000 in
theorem mask_no (s : ByteArray) (hs : s.size ≤ 200) (h : ¬ chkP s = 0) (w : World) : Calls Tryd.prog 17 #[.string s] w fun e w' => e = .returned (.string (mkR false s s.size)) ∧ Below w.heap.size w w' := by
  have HC := Lib.hid (fun w => check_any s hs w)
  have HR := Lib.hid (fun w => star_call s.size hs w)
  have HV := Lib.hid (show bst (List.replicate s.size 42) = mkR false s s.size from ls_ext (by rw [mk_no, ls_bst]))
  have hsi : (s.size : Int) ≤ 200 := by omega
  generalize chkP s = P at *
  have hP : (P != 0) = true := by rw [bne_iff_ne]; exact h
  have hP2 : (P == 0) = false := by rw [beq_eq_false_iff_ne]; exact h
  clear h
  go_enter Tryd.func17, Tryd.ntmps17
  go_wp2_with fail
  refine (HC.out _).mono ?_
  rintro e w1 ⟨rfl, hb1⟩
  have HB1 := Lib.hid hb1
  clear hb1
  go_wp2_with fail
  refine (HR.out _).mono ?_
  rintro e w2 ⟨rfl, hb2⟩
  have HB2 := Lib.hid (below_call HB1.out hb2)
  clear hb2
  go_wp2_with fail
  go_ret
  exact ⟨by rw [← HV.out]; rfl, HB2.out⟩
set_option maxHeartbeats 1000000 in
theorem mask_yes (s : ByteArray) (h : chkP s = 0) (w : World) : Calls Tryd.prog 17 #[.string s] w fun e w' => e = .returned (.string (mkR true s s.size)) ∧ Below w.heap.size w w' := by
  obtain ⟨l0, l1, _, _⟩ := chk_in s h
  have HC := Lib.hid (fun w => check_any s (by omega) w)
  rw [h] at HC
  have HR := Lib.hid (fun w => star_call (s.size - 10) (by omega) w)
  have HV := Lib.hid (show s.extract 0 6 ++ bst (List.replicate (s.size - 10) 42) ++ s.extract (s.size - 4) s.size = mkR true s s.size from ls_ext (by
    rw [mk_yes s (by omega), ls_app, ls_app, ls_ex, ls_ex]
    rw [List.drop_zero, List.take_of_length_le (l := (ls s).drop (s.size - 4)) (by rw [List.length_drop, ← ls_size]; omega)]
    rw [ls_bst]))
  have hq := ByteArray.size_append (a := s.extract 0 6) (b := bst (List.replicate (s.size - 10) 42))
  have hsz : (bst (List.replicate (s.size - 10) 42)).size = s.size - 10 := by rw [bst_size, List.length_replicate]
  have he : (s.extract 0 6).size = 6 := by rw [ByteArray.size_extract]; omega
  have g1 : (s.extract 0 6).size ≤ 100 := by omega
  have g2 : (bst (List.replicate (s.size - 10) 42)).size ≤ 100 := by omega
  have g3 : (s.extract (s.size - 4) s.size).size ≤ 100 := by rw [ByteArray.size_extract]; omega
  have g4 : (s.extract 0 6 ++ bst (List.replicate (s.size - 10) 42)).size ≤ 200 := by omega
  have e10 : IntKind.i64.wrap ((s.size : Int) - 10) = ((s.size - 10 : Nat) : Int) := by rw [IntWalk.i64_in _ (by omega)]; omega
  have e4 : IntKind.i64.wrap ((s.size : Int) - 4) = ((s.size - 4 : Nat) : Int) := by rw [IntWalk.i64_in _ (by omega)]; omega
  have q1 := cut_h s 6 (by omega)
  have q2 := cut_l s (s.size - 4) (by omega)
  have hsi : (s.size : Int) ≤ 19 := by omega
  have hsj : (12 : Int) ≤ (s.size : Int) := by omega
  clear hq hsz he h
  generalize bst (List.replicate (s.size - 10) 42) = R at *
  generalize s.size - 10 = n10 at *
  generalize s.size - 4 = n4 at *
  go_enter Tryd.func17, Tryd.ntmps17
  go_wp2_with fail
  refine (HC.out _).mono ?_
  rintro e w1 ⟨rfl, hb1⟩
  have HB1 := Lib.hid hb1
  clear hb1
  go_wp2_with fail
  refine wp_region_quiet_below (by kernel_rfl) (by kernel_rfl) ?_
  repeat (first | go_big_quiet_step (exact Calls.regrown_of (HR.out _)) | quiet_step (exact Calls.regrown_of (HR.out _)))
  refine wpQuiet_nil ?_
  intro _ hw'
  obtain ⟨⟨dq, osq⟩, hw''⟩ := hw'
  subst hw''
  go_wp2_with fail
  go_ret
  exact ⟨by rw [← HV.out]; rfl, bre_ HB1.out _ _⟩
theorem mask_any (s : ByteArray) (hs : s.size ≤ 200) (w : World) : Calls Tryd.prog 17 #[.string s] w fun e w' => e = .returned (.string (mkP s)) ∧ Below w.heap.size w w' := by
  unfold mkP
  by_cases h : chkP s = 0
  · rw [h]; exact mask_yes s h w
  · rw [show (chkP s == 0) = false by rw [beq_eq_false_iff_ne]; exact h]; exact mask_no s hs h w
theorem rmask_any (s : ByteArray) (hs : s.size ≤ 200) (w : World) : Calls Tryd.prog 18 #[.string s] w fun e w' => e = .returned (.string (mkP s)) ∧ w' = w := by
  unfold mkP
  by_cases h : chkP s = 0
  · rw [h]; exact rmask_yes s h w
  · rw [show (chkP s == 0) = false by rw [beq_eq_false_iff_ne]; exact h]; exact rmask_no s hs h w
end Go.Proofs.YtagfimemiggnlaaDoor
