/- The reference's Scan; equal lists. -/
import Derived.Test.YtikmaljhfckbgaaDoorR
import Derived.Deep.QuietTactic
import Derived.BigQuiet
set_option linter.unusedVariables false
set_option linter.unusedSimpArgs false
namespace Go.Proofs.YtikmaljhfckbgaaDoor
open Go.Sort Go.ChangeShapes Go.WideShapes Go.ChangeAt Go.RowKit
set_option maxHeartbeats 2000000 in
set_option maxRecDepth 100000 in
theorem rscan_long (s : ByteArray) (h : decide ((4000 : Int) < (s.size : Int)) = true) (w : World) (R : Sc) (hR : Hid (R = ⟨[], 3, 0⟩)) : Calls Tryd.prog 11 #[.string s] w (SPost w.heap.size w R) := by
  have P := Lib.hid (show SPost w.heap.size w R (.returned (.tuple #[.slice none 0 0, .int .i64 3, .int .i64 0])) w from ⟨_, by rw [hR.out], by rw [hR.out]; exact World.ownsRow_nil _ _ _ _, Below.refl _ _⟩)
  go_enter Tryd.func11, Tryd.ntmps11
  go_wp2_with fail
  go_ret3
  exact P.out
theorem skip_to (s : ByteArray) (i : Nat) (hi : i ≤ s.size) (hs : s.size ≤ 10000) : ∃ q : Nat, q = i + skp false ((ls s).drop i) ∧ q ≤ s.size ∧ ∀ w, Calls Tryd.prog 30 #[.string s, .int .i64 i] w fun e w' => e = .returned (.int .i64 (q : Int)) ∧ w' = w := by
  have hle := skp_le ((ls s).drop i) false
  rw [List.length_drop, ← ls_size] at hle
  exact ⟨_, rfl, by omega, fun w => by have := skip_any s i hi hs w; rw [show (i : Int) + ((skp false ((ls s).drop i) : Nat) : Int) = ((i + skp false ((ls s).drop i) : Nat) : Int) by omega] at this; exact this⟩
theorem stop_at (s : ByteArray) (i p : Nat) (h : p = i + skp false ((ls s).drop i)) (hp : p < s.size) : cls s[p].toNat ≠ 1 ∧ cls s[p].toNat ≠ 2 := by
  refine skp_stop ((ls s).drop i) _ (Nat.le_refl _) s[p] ((ls s).drop (p + 1)) ?_
  rw [List.drop_drop, ← h]; exact drop_at s p hp
set_option maxHeartbeats 2000000 in
set_option maxRecDepth 100000 in
theorem rscan_short (s : ByteArray) (h : decide ((4000 : Int) < (s.size : Int)) = false) (hs : s.size ≤ 4000) (w : World) (R : Sc) (hR : Hid (scn s.size (ls s) 0 [] = R)) : Calls Tryd.prog 11 #[.string s] w (SPost w.heap.size w R) := by
  obtain ⟨i0, hi, hz0, hz1, hz2⟩ := info_parts info30
  have HX := Lib.hid rlexeme_any
  have HK := Lib.hid skip_to
  have HST := Lib.hid stop_at
  have hsi : (s.size : Int) ≤ 4000 := by omega
  obtain ⟨q0, hq0, hq1, SK0⟩ := skip_to s 0 (Nat.zero_le _) (by omega)
  rw [Nat.zero_add, List.drop_zero] at hq0
  have HK0 := Lib.hid SK0
  have hR0 : ∃ f, s.size ≤ q0 + f ∧ scn f ((ls s).drop q0) q0 [] = R := by
    obtain ⟨f2, h1, h2⟩ := scn_skp _ (ls s) (Nat.le_refl _) s.size 0 [] (by rw [← ls_size]; exact Nat.le_refl _)
    rw [← hq0] at h1 h2
    rw [List.length_drop, ← ls_size] at h1
    exact ⟨f2, by omega, by rw [← hR.out, h2, Nat.zero_add]⟩
  obtain ⟨f0, hf0, hr0⟩ := hR0
  have HR0 := Lib.hid hr0
  have HQ0 := Lib.hid (show q0 = 0 + skp false ((ls s).drop 0) by rw [Nat.zero_add, List.drop_zero]; exact hq0)
  clear SK0 hr0 hq0 hR
  go_enter Tryd.func11, Tryd.ntmps11
  go_wp2_with fail
  refine (HK0.out _).mono ?_
  rintro e w1 ⟨rfl, rfl⟩
  go_wp2_with fail
  go_loopw [5, 6] (fun v x wr => ∃ (p f i : Nat) (acc : List Lx), Hid (p ≤ s.size) ∧ x = .int .i64 p ∧ Hid (wr.ownsRow w1.heap.size 30 4 v acc.length (lxs acc)) ∧ Hid (Below w1.heap.size w1 wr) ∧ Hid (s.size ≤ p + f) ∧ Hid (acc.length ≤ p) ∧ Hid (p = i + skp false ((ls s).drop i)) ∧ Hid (scn f ((ls s).drop p) p acc = R)) (fun _ x _ => s.size - (intOf x).toNat)
  case atStart => exact ⟨q0, f0, 0, [], Lib.hid hq1, rfl, Lib.hid (World.ownsRow_nil _ _ _ _), Lib.hid (Below.refl _ _), Lib.hid hf0, Lib.hid (Nat.zero_le _), HQ0, HR0⟩
  case round =>
    obtain ⟨p, f, i, acc, hp, rfl, hown, hB, hf, ha, hI, hR⟩ := hrel
    have hp1 : (p : Int) ≤ (s.size : Int) := by have := hp.out; omega
    have hp2 := hp.out
    by_cases hlt : p < s.size
    · have hlt' : (p : Int) < (s.size : Int) := by omega
      have hL : (ls s).drop p = s[p] :: (ls s).drop (p + 1) := drop_at s p hlt
      have hG := stp_good s[p] ((ls s).drop (p + 1))
      have hlen : ((ls s).drop (p + 1)).length + 1 = s.size - p := by rw [List.length_drop, ← ls_size]; omega
      rw [hlen, ← hL] at hG
      obtain ⟨n1, n2⟩ := HST.out s i p hI.out hlt
      have hXX := HX.out s p hlt (by omega) wr n1 n2
      obtain ⟨f, rfl⟩ : ∃ f', f = f' + 1 := ⟨f - 1, by have := hf.out; omega⟩
      have HF2 := hf.out
      have HA2 := ha.out
      cases hS : stp ((ls s).drop p) with
      | bad E =>
        have hRR := hR.out
        rw [hL] at hRR
        rw [hL] at hS
        rw [scn_bad hS] at hRR
        rw [hL, hS] at hXX hG
        have e2 : rlR (St.bad E) p = .tuple #[lx 0 ⟨#[]⟩ 0 0, .int .i64 0, .int .i64 E] := rfl
        rw [e2] at hXX
        have HXX := Lib.hid hXX
        clear e2
        have hE : (E == 0) = false := by rw [beq_eq_false_iff_ne]; rcases hG with h | h | h <;> omega
        have hE2 : (E != 0) = true := by rw [bne, hE]; rfl
        have HRR := Lib.hid hRR
        clear hXX hRR hS hG hL hlen HF2 HA2 n1 n2
        go_wp2_with fail
        refine HXX.out.mono ?_
        rintro e w2 ⟨rfl, hb⟩
        have HB1 := Lib.hid (below_call hB.out hb)
        clear hb
        go_wp2_with fail
        go_ret3
        exact ⟨_, by rw [← HRR.out] <;> rfl, by rw [← HRR.out]; exact World.ownsRow_nil _ _ _ _, by first | exact HB1.out | exact HB1.out.alloc HB1.out.size _⟩
      | skip n =>
        exfalso
        rw [stp_un s p hlt, if_neg n1, if_neg n2] at hS
        unfold nameS numB litS mrkS at hS
        repeat' split at hS
        all_goals cases hS
      | tok n k t v =>
        have hRR := hR.out
        rw [hL] at hRR
        rw [hL] at hS
        rw [scn_tok hS, ← hL, List.drop_drop] at hRR
        rw [hL, hS] at hXX hG
        obtain ⟨g1, g2, g3, g4⟩ : 1 ≤ n ∧ n ≤ s.size - p ∧ 1 ≤ k ∧ k ≤ 4 := hG
        have hn : (n : Int) ≤ 4000 := by omega
        have hn0 : (1 : Int) ≤ (n : Int) := by omega
        obtain ⟨T, hT⟩ : ∃ T, bst t = T := ⟨_, rfl⟩
        have e2 : rlR (St.tok n k t v) p = .tuple #[lx k T v (p : Int), .int .i64 ((p : Int) + (n : Int)), .int .i64 0] := by rw [← hT]; rfl
        rw [e2] at hXX
        rw [hT] at hRR
        obtain ⟨q, hq, hqs, SK⟩ := HK.out s (p + n) (by omega) (by omega)
        rw [show ((p + n : Nat) : Int) = (p : Int) + (n : Int) by omega] at SK
        have hR2 : ∃ f2, s.size ≤ q + f2 ∧ scn f2 ((ls s).drop q) q (acc ++ [⟨k, T, v, p⟩]) = R := by
          obtain ⟨f2, h1, h2⟩ := scn_skp _ ((ls s).drop (p + n)) (Nat.le_refl _) f (p + n) (acc ++ [⟨k, T, v, p⟩]) (by rw [List.length_drop, ← ls_size]; omega)
          rw [List.drop_drop, ← hq] at h1 h2
          rw [List.length_drop, ← ls_size] at h1
          exact ⟨f2, by omega, by rw [← hRR, h2]⟩
        obtain ⟨f2, hf2, hr2⟩ := hR2
        have HR2 := Lib.hid hr2
        have HQ := Lib.hid hq
        have HSK := Lib.hid SK
        have hqn : p + n ≤ q := by omega
        have HXX := Lib.hid hXX
        clear hXX hRR hS hL hlen hT e2 g3 g4 SK hq hr2 n1 n2
        go_wp2_with fail
        refine HXX.out.mono ?_
        rintro e w2 ⟨rfl, hb⟩
        have HB1 := Lib.hid (below_call hB.out hb)
        have HO1 := Lib.hid (own_below hown.out hb)
        clear hb
        go_wp2_with (at_builtin; refine wpList_append_own _ rfl _ _ 23 rfl w1.heap.size 30 i0 (.agg #[.int .i64 0, .string ByteArray.empty, .int .i64 0, .int .i64 0]) 4 40 Tryd.underlying23 hi hz0 hz1 hz2 rfl (by decide) _ _ _ rfl ((HO1.out.alloc _).alloc _) _ 1 1 [.int .i64 k, .string T, .int .i64 v, .int .i64 (p : Int)] rfl rfl ?c1 ?c2 ?c3 ?c4 ?c5 ?_)
        case c1 =>
          intro j u hj
          match j, hj with
          | 0, hj => simp at hj; subst hj; simp [Addr.add]
          | 1, hj => simp at hj; subst hj; simp [Addr.add]
          | 2, hj => simp at hj; subst hj; simp [Addr.add]
          | 3, hj => simp at hj; subst hj; simp [Addr.add]
        case c2 =>
          intro u hu
          simp only [List.mem_cons, List.not_mem_nil, or_false] at hu
          rcases hu with rfl | rfl | rfl | rfl <;> rfl
        case c3 => unfold maxLen; omega
        case c4 => omega
        case c5 => have := HB1.out.size; simp; omega
        intro v' w3 hown' hgrow _
        rw [← lxs_snoc acc ⟨k, T, v, (p : Int)⟩] at hown'
        have HO2 := Lib.hid hown'
        have HB2 := Lib.hid (((HB1.out.alloc HB1.out.size _).alloc (by have := HB1.out.size; simp; omega) _).grown hgrow (by have := HB1.out.size; simp; omega) (fun j hj => (HO1.out.lt j hj).1))
        clear hown' hgrow
        go_wp2_with fail
        refine (HSK.out _).mono ?_
        rintro e w4 ⟨rfl, rfl⟩
        go_wp2_with fail
        go_roundw
        case rel => exact ⟨q, f2, p + n, acc ++ [⟨k, T, v, (p : Int)⟩], Lib.hid hqs, rfl, Lib.hid (by rw [List.length_append]; exact HO2.out), HB2, Lib.hid hf2, Lib.hid (by rw [List.length_append]; simp; omega), HQ, HR2⟩
        case measure => simp [intOf]; omega
    · have hge : ¬ (p : Int) < (s.size : Int) := by omega
      obtain rfl : p = s.size := by omega
      have hRR := hR.out
      rw [List.drop_of_length_le (by rw [← ls_size]; exact Nat.le_refl _), scn_nil] at hRR
      have HRR := Lib.hid hRR
      have HA2 := ha.out
      have HO1 := hown
      have HB1 := hB
      clear hRR hlt
      go_wp2_with (at_builtin; refine wpList_append_own _ rfl _ _ 23 rfl w1.heap.size 30 i0 (.agg #[.int .i64 0, .string ByteArray.empty, .int .i64 0, .int .i64 0]) 4 40 Tryd.underlying23 hi hz0 hz1 hz2 rfl (by decide) _ _ _ rfl (HO1.out.alloc _) _ 1 1 [.int .i64 0, .string ⟨#[]⟩, .int .i64 0, .int .i64 (s.size : Int)] rfl rfl ?d1 ?d2 ?d3 ?d4 ?d5 ?_)
      case d2 => exact ⟨rfl, rfl, rfl, rfl⟩
      case d3 => unfold maxLen; omega
      case d4 => omega
      case d5 => have := HB1.out.size; simp; omega
      intro v' w2 hown' hgrow _
      rw [← lxs_snoc acc ⟨0, ⟨#[]⟩, 0, (s.size : Int)⟩] at hown'
      have HO2 := Lib.hid hown'
      have HB2 := Lib.hid ((HB1.out.alloc HB1.out.size _).grown hgrow (by have := HB1.out.size; simp; omega) (fun j hj => (HO1.out.lt j hj).1))
      clear hown' hgrow
      go_wp2_with fail
      go_ret3
      exact ⟨_, by rw [← HRR.out] <;> rfl, by rw [← HRR.out, List.length_append]; exact HO2.out, HB2.out⟩
theorem scan_any (s : ByteArray) (w : World) (hT : LT w) : Calls Tryd.prog 10 #[.string s] w (SPost w.heap.size w (scan s)) := by
  by_cases h : 4000 < s.size
  · exact scan_long s (decide_eq_true (by omega)) w _ (Lib.hid (by unfold scan; rw [if_pos h]))
  · exact scan_short s (decide_eq_false (by omega)) (by omega) w hT _ (Lib.hid (by unfold scan; rw [if_neg h]))
theorem rscan_any (s : ByteArray) (w : World) : Calls Tryd.prog 11 #[.string s] w (SPost w.heap.size w (scan s)) := by
  by_cases h : 4000 < s.size
  · exact rscan_long s (decide_eq_true (by omega)) w _ (Lib.hid (by unfold scan; rw [if_pos h]))
  · exact rscan_short s (decide_eq_false (by omega)) (by omega) w _ (Lib.hid (by unfold scan; rw [if_neg h]))
end Go.Proofs.YtikmaljhfckbgaaDoor
