/- The law LexerPlaces: its ways together. -/
import Derived.Test.YtikmaljhfckbgaaDoorPb
set_option linter.unusedVariables false
set_option linter.unusedSimpArgs false
namespace Go.Proofs.YtikmaljhfckbgaaDoor
open Go.Sort Go.ChangeShapes Go.WideShapes Go.ChangeAt Go.RowKit
theorem wf_u8 {a : Int} (h : (Lit.int .u8 a).wf = true) : 0 ≤ a ∧ a ≤ 255 := by simp [Lit.wf, IntKind.min, IntKind.max, IntKind.signed, IntKind.bits] at h; omega
theorem lexerPlaces.walk (s : ByteArray) (x : Int) (w : World) (hs : s.size ≤ maxLen) (hx : (Lit.int .u8 x).wf = true) (hT : LT w) : Calls Tryd.prog 8 #[.string s, .int .u8 x] w fun e w' => e = .returned (.bool true) ∧ Below w.heap.size w w' := by
  obtain ⟨x0, x1⟩ := wf_u8 hx
  obtain ⟨c, rfl⟩ : ∃ c : Nat, x = c := ⟨x.toNat, by omega⟩
  have hc : c ≤ 255 := by omega
  by_cases h : 3000 < s.size
  · exact plLong s c w hc (decide_eq_true (by omega)) hT
  have hd : decide ((3000 : Int) < (s.size : Int)) = false := decide_eq_false (by omega)
  have hsz : (s ++ bst (sps c)).size = s.size + c := by rw [ByteArray.size_append, bst_size, List.length_replicate]
  have e1 : scan s = scn s.size (ls s) 0 [] := by unfold scan; rw [if_neg (by omega)]
  have e2 : scan (s ++ bst (sps c)) = scn (s ++ bst (sps c)).size (ls s ++ sps c) 0 [] := by unfold scan; rw [if_neg (by omega), ls_app, ls_bst]
  have key := scn_pl (ls s) c _ (ls s) (Nat.le_refl _) s.size (s ++ bst (sps c)).size 0 [] (by rw [← ls_size]; exact Nat.le_refl _) (by rw [hsz, ← ls_size]; exact Nat.le_refl _) rfl (Nat.zero_add _)
  rw [← e1, ← e2] at key
  obtain ⟨⟨k1, k2⟩, k3⟩ := key
  rcases k3 with ⟨he, ts, l1, l2, hP⟩ | ⟨he, l1, l2, z, hz, hzl⟩
  · have hp0 : (scan s).p = 0 := by
      have h2 := (scn_good s.size (ls s) 0 [] (by rw [← ls_size]; omega) (by rw [← e1]; exact he)).1
      rw [← e1] at h2; exact h2
    rw [List.nil_append] at l1 l2
    have hln := scan_len s
    have hn1 : (scan s).l.length = ts.length + 1 := by rw [l1, List.length_append]; rfl
    have hn2 : (scan (s ++ bst (sps c))).l.length = ts.length + 1 := by rw [l2, List.length_append]; rfl
    refine plGood s c w hc (by omega) hd hT (scan s).l (scan (s ++ bst (sps c))).l ts (ts.length + 1) (Lib.hid hn1) (Lib.hid hn2) (Lib.hid rfl) (by omega) (Lib.hid ?_) (Lib.hid ?_) (Lib.hid hP) (Lib.hid fun w hT => ?_) (Lib.hid fun w hT => ?_)
    · rw [l1, ls_size]
    · rw [l2, ls_size]
    · have := scan_any s w hT
      have g3 : scan s = ⟨(scan s).l, 0, 0⟩ := by
        cases hh : scan s with
        | mk a b d => rw [hh] at he hp0; dsimp only at he hp0 ⊢; rw [he, hp0]
      rw [g3] at this
      exact this
    · have := scan_any (s ++ bst (sps c)) w hT
      have g1 : (scan (s ++ bst (sps c))).e = 0 := by rw [← k1, he]
      have g2 : (scan (s ++ bst (sps c))).p = 0 := by rw [← k2, hp0]
      have g3 : scan (s ++ bst (sps c)) = ⟨(scan (s ++ bst (sps c))).l, 0, 0⟩ := by
        cases hh : scan (s ++ bst (sps c)) with
        | mk a b d => rw [hh] at g1 g2; dsimp only at g1 g2 ⊢; rw [g1, g2]
      rw [g3] at this
      exact this
  · have hE : ((scan s).e == 0) = false := by rw [beq_eq_false_iff_ne]; exact he
    refine plBad s c w hc (by omega) hd hT (scan s).e z (by rw [ls_size]; exact hzl) hE (Lib.hid fun w hT => ?_) (Lib.hid fun w hT => ?_)
    · have := scan_any s w hT
      have g3 : scan s = ⟨[], (scan s).e, (z : Int)⟩ := by
        cases hh : scan s with
        | mk a b d => rw [hh] at l1 hz; dsimp only at l1 hz ⊢; rw [l1, hz]
      rw [g3] at this
      exact this
    · have := scan_any (s ++ bst (sps c)) w hT
      have g3 : scan (s ++ bst (sps c)) = ⟨[], (scan s).e, (z : Int)⟩ := by
        cases hh : scan (s ++ bst (sps c)) with
        | mk a b d => rw [hh] at l2 k1 k2; dsimp only at l2 k1 k2 ⊢; rw [l2, k1, ← hz, k2]
      rw [g3] at this
      exact this
end Go.Proofs.YtikmaljhfckbgaaDoor
