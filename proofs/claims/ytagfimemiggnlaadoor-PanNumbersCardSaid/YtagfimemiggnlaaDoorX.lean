/- What Groups and Numbers want: plain facts. -/
import Derived.Test.YtagfimemiggnlaaDoorW
set_option linter.unusedVariables false
set_option linter.unusedSimpArgs false
namespace Go.Proofs.YtagfimemiggnlaaDoor
open Go.Sort Go.ChangeShapes Go.WideShapes Go.ChangeAt Go.RowKit
/- groups are stripped -/
def dgC (c : UInt8) : Bool := dgB c.toNat
def gl (l : List UInt8) : Nat → List UInt8
  | 0 => []
  | k + 1 => (if 0 < k ∧ k % 4 = 0 then gl l k ++ [32] else gl l k) ++ [l.getD k 0]
theorem gl_ls (s : ByteArray) (k : Nat) (hk : k ≤ s.size) : ls (grB s k) = gl (ls s) k := by
  induction k with
  | zero => rfl
  | succ k ih =>
    rw [grB_succ, ls_app, ls_one s k (by omega)]
    show _ = (if 0 < k ∧ k % 4 = 0 then gl (ls s) k ++ [32] else gl (ls s) k) ++ _
    congr 1
    by_cases h : 0 < k ∧ k % 4 = 0
    · rw [if_pos h, if_pos h, ls_app, ih (by omega)]
    · rw [if_neg h, if_neg h, ih (by omega)]
def good (g : List UInt8) (j : Nat) : Prop := dgC (g.getD j 0) = true ∨ (g.getD j 0 = 32 ∧ 0 < j ∧ dgC (g.getD (j - 1) 0) = true ∧ dgC (g.getD (j + 1) 0) = true)
theorem getD_app_lt (g m : List UInt8) (j : Nat) (h : j < g.length) : (g ++ m).getD j 0 = g.getD j 0 := by
  rw [List.getD_eq_getElem?_getD, List.getD_eq_getElem?_getD, List.getElem?_append_left h]
theorem getD_app_ge (g m : List UInt8) (j : Nat) (h : g.length ≤ j) : (g ++ m).getD j 0 = m.getD (j - g.length) 0 := by
  rw [List.getD_eq_getElem?_getD, List.getD_eq_getElem?_getD, List.getElem?_append_right h]
theorem dgC_zero : dgC 0 = false := by decide
theorem getD_out (g : List UInt8) (j : Nat) (h : g.length ≤ j) : g.getD j 0 = 0 := by
  rw [List.getD_eq_getElem?_getD, List.getElem?_eq_none h]; rfl
theorem good_app (g m : List UInt8) (j : Nat) (h : j < g.length) (hg : good g j) : good (g ++ m) j := by
  rcases hg with hg | ⟨h1, h2, h3, h4⟩
  · left; rw [getD_app_lt g m j h]; exact hg
  · right
    have hj : j + 1 < g.length := by
      rcases Nat.lt_or_ge (j + 1) g.length with h5 | h5
      · exact h5
      · rw [getD_out g _ h5, dgC_zero] at h4; cases h4
    rw [getD_app_lt g m j h, getD_app_lt g m (j - 1) (by omega), getD_app_lt g m (j + 1) hj]
    exact ⟨h1, h2, h3, h4⟩
theorem gl_good (l : List UInt8) (hd : allD l = true) (k : Nat) (hk : k ≤ l.length) :
    (∀ j, j < (gl l k).length → good (gl l k) j) ∧ (0 < k → 0 < (gl l k).length ∧ dgC ((gl l k).getD ((gl l k).length - 1) 0) = true) ∧ (gl l k).filter dgC = l.take k := by
  induction k with
  | zero => exact ⟨fun j h => absurd h (Nat.not_lt_zero _), fun h => absurd h (Nat.lt_irrefl _), by simp [gl]⟩
  | succ k ih =>
    obtain ⟨i1, i2, i3⟩ := ih (by omega)
    have hc : dgC (l.getD k 0) = true := allD_get hd k (by omega)
    have ht : l.take (k + 1) = l.take k ++ [l.getD k 0] := by
      rw [List.take_succ_eq_append_getElem (by omega), List.getD_eq_getElem?_getD, List.getElem?_eq_getElem (by omega)]; rfl
    have egl : gl l (k + 1) = (if 0 < k ∧ k % 4 = 0 then gl l k ++ [32] else gl l k) ++ [l.getD k 0] := rfl
    generalize l.getD k 0 = c at *
    by_cases h : 0 < k ∧ k % 4 = 0
    · have e : gl l (k + 1) = gl l k ++ [32] ++ [c] := by rw [egl, if_pos h]
      obtain ⟨j1, j2⟩ := i2 h.1
      rw [e]
      refine ⟨fun j hj => ?_, fun _ => ⟨by simp, ?_⟩, ?_⟩
      · rw [List.append_assoc]
        rw [List.length_append, List.length_append, List.length_singleton, List.length_singleton] at hj
        rcases Nat.lt_or_ge j (gl l k).length with h1 | h1
        · exact good_app _ _ _ h1 (i1 j h1)
        · rcases Nat.eq_or_lt_of_le h1 with h2 | h2
          · right
            rw [getD_app_ge _ _ j h1, getD_app_lt _ _ (j - 1) (by omega), getD_app_ge _ _ (j + 1) (by omega), ← h2]
            refine ⟨by simp, by omega, j2, ?_⟩
            rw [show (gl l k).length + 1 - (gl l k).length = 1 by omega]
            exact hc
          · left
            rw [getD_app_ge _ _ j h1, show j - (gl l k).length = 1 by omega]
            exact hc
      · have hi : (gl l k ++ [32] ++ [c]).length - 1 - (gl l k ++ [32]).length = 0 := by simp
        rw [getD_app_ge _ _ _ (by simp), hi]
        exact hc
      · rw [List.filter_append, List.filter_append, i3, ht]
        have e32 : dgC 32 = false := by decide
        simp [List.filter_cons, hc, e32]
    · have e : gl l (k + 1) = gl l k ++ [c] := by rw [egl, if_neg h]
      rw [e]
      refine ⟨fun j hj => ?_, fun _ => ⟨by simp, ?_⟩, ?_⟩
      · rw [List.length_append, List.length_singleton] at hj
        rcases Nat.lt_or_ge j (gl l k).length with h1 | h1
        · exact good_app _ _ _ h1 (i1 j h1)
        · left
          rw [getD_app_ge _ _ j h1, show j - (gl l k).length = 0 by omega]
          exact hc
      · have hi : (gl l k ++ [c]).length - 1 - (gl l k).length = 0 := by simp
        rw [getD_app_ge _ _ _ (by simp), hi]
        exact hc
      · rw [List.filter_append, i3, ht]
        simp [List.filter_cons, hc]
theorem stL_filter (s : ByteArray) (k : Nat) (hk : k ≤ s.size) : stL s k = ((ls s).take k).filter dgC := by
  induction k with
  | zero => simp [stL]
  | succ k ih =>
    show stL s k ++ (if dgI s k = true then [(ls s).getD k 0] else []) = _
    rw [ih (by omega), take_one s k (by omega), List.filter_append]
    congr 1
    rw [dgI_in k (by omega), getD_at s k (by omega)]
    show (if dgC s[k] = true then _ else _) = _
    by_cases h : dgC s[k] = true
    · rw [if_pos h]; simp [List.filter_cons, h]
    · rw [if_neg h]; simp [List.filter_cons, h]
theorem okS_good (s : ByteArray) (h : ∀ j, j < s.size → good (ls s) j) (k : Nat) (hk : k ≤ s.size) : okS s k = true := by
  induction k with
  | zero => rfl
  | succ k ih =>
    refine okS_succ k (ih (by omega)) ?_
    have hd : ∀ i : Nat, i < s.size → dgI s i = dgC ((ls s).getD i 0) := fun i hi => by rw [dgI_in i hi, getD_at s i hi]; rfl
    unfold badB
    rcases h k (by omega) with h1 | ⟨h1, h2, h3, h4⟩
    · rw [hd k (by omega), h1]; rfl
    · have hk1 : k + 1 < s.size := by
        rcases Nat.lt_or_ge (k + 1) s.size with h5 | h5
        · exact h5
        · rw [getD_out (ls s) _ (by rw [← ls_size]; exact h5), dgC_zero] at h4; cases h4
      have e1 : dgI s ((k : Int) - 1) = true := by
        rw [show (k : Int) - 1 = ((k - 1 : Nat) : Int) by omega, hd _ (by omega)]; exact h3
      have e2 : dgI s ((k : Int) + 1) = true := by
        rw [show (k : Int) + 1 = ((k + 1 : Nat) : Int) by omega, hd _ hk1]; exact h4
      rw [h1, e1, e2]
      have : sepB 32 = true := by decide
      rw [this]; simp
theorem grB_len (s : ByteArray) (k : Nat) (hk : k ≤ s.size) : (grB s k).size ≤ 2 * k := by
  induction k with
  | zero => exact Nat.le_refl _
  | succ k ih =>
    have := ih (by omega)
    rw [grB_succ, ByteArray.size_append, ByteArray.size_extract]
    by_cases h : 0 < k ∧ k % 4 = 0
    · rw [if_pos h, ByteArray.size_append, show (⟨#[32]⟩ : ByteArray).size = 1 from rfl]; omega
    · rw [if_neg h]; omega
theorem strip_group (s : ByteArray) (h : chkP s = 0) : stE (grB s s.size) = 0 ∧ stV (grB s s.size) = s := by
  obtain ⟨l0, l1, hd, _⟩ := chk_in s h
  have hg := gl_good (ls s) hd s.size (by rw [← ls_size]; exact Nat.le_refl _)
  have e := gl_ls s s.size (Nat.le_refl _)
  have hok : okS (grB s s.size) (grB s s.size).size = true := okS_good _ (fun j hj => by rw [e]; exact hg.1 j (by rw [← e, ← ls_size]; exact hj)) _ (Nat.le_refl _)
  have hst : bst (stL (grB s s.size) (grB s s.size).size) = s := by
    apply ls_ext
    rw [ls_bst, stL_filter _ _ (Nat.le_refl _), List.take_of_length_le (by rw [← ls_size]; exact Nat.le_refl _), e, hg.2.2, List.take_of_length_le (by rw [← ls_size]; exact Nat.le_refl _)]
  have hE : stE (grB s s.size) = 0 := by rw [st_chk hok, hst, h]
  exact ⟨hE, by unfold stV; rw [if_pos hE, hst]⟩
/- the mask -/
theorem mkP_ls (s : ByteArray) (h : chkP s = 0) : ls (mkP s) = (ls s).take 6 ++ List.replicate (s.size - 10) 42 ++ (ls s).drop (s.size - 4) := by
  obtain ⟨l0, l1, _, _⟩ := chk_in s h
  unfold mkP; rw [h]; exact mk_yes s (by omega)
theorem mkP_size (s : ByteArray) (h : chkP s = 0) : (mkP s).size = s.size := by
  obtain ⟨l0, l1, _, _⟩ := chk_in s h
  rw [ls_size (mkP s), mkP_ls s h]; simp [← ls_size]; omega
theorem mkP_at (s : ByteArray) (h : chkP s = 0) (k : Nat) (h6 : 6 ≤ k) (h4 : k + 4 < s.size) (hk : k < (mkP s).size) : (mkP s)[k] = 42 := by
  obtain ⟨l0, l1, _, _⟩ := chk_in s h
  rw [← getD_at _ k hk, mkP_ls s h, List.append_assoc, getD_app_ge _ _ k (by rw [List.length_take]; omega)]
  have hl6 : ((ls s).take 6).length = 6 := by rw [List.length_take, ← ls_size]; omega
  rw [hl6, getD_app_lt _ _ _ (by rw [List.length_replicate]; omega), List.getD_eq_getElem?_getD, List.getElem?_replicate, if_pos (by omega)]
  rfl
theorem mkP_head (s : ByteArray) (h : chkP s = 0) : (mkP s).extract 0 6 = s.extract 0 6 := by
  obtain ⟨l0, l1, _, _⟩ := chk_in s h
  have hl6 : ((ls s).take 6).length = 6 := by rw [List.length_take, ← ls_size]; omega
  apply ls_ext
  rw [ls_ex, ls_ex, mkP_ls s h, List.drop_zero, List.drop_zero, List.append_assoc, List.take_append_of_le_length (by omega), List.take_take]
  rfl
theorem mkP_tail (s : ByteArray) (h : chkP s = 0) : (mkP s).extract (s.size - 4) s.size = s.extract (s.size - 4) s.size := by
  obtain ⟨l0, l1, _, _⟩ := chk_in s h
  have hl6 : ((ls s).take 6).length = 6 := by rw [List.length_take, ← ls_size]; omega
  apply ls_ext
  rw [ls_ex, ls_ex, mkP_ls s h]
  congr 1
  rw [List.drop_append_of_le_length (by simp [← ls_size]; omega)]
  rw [List.drop_of_length_le (by simp [← ls_size]; omega)]
  rfl
end Go.Proofs.YtagfimemiggnlaaDoor
