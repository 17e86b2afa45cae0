/- The reference's text and lexeme. -/
import Derived.Test.YtikmaljhfckbgaaDoorM
set_option linter.unusedVariables false
set_option linter.unusedSimpArgs false
namespace Go.Proofs.YtikmaljhfckbgaaDoor
open Go.Sort Go.ChangeShapes Go.WideShapes Go.ChangeAt Go.RowKit
theorem upq_c {c : UInt8} {r : List UInt8} (h : c ≠ 34) : upq (c :: r) = c :: upq r := by
  unfold upq; rw [List.takeWhile_cons, if_pos (bne_iff_ne.2 h)]
theorem upq_q {r : List UInt8} : upq (34 :: r) = [] := by
  unfold upq; rw [List.takeWhile_cons, if_neg (by simp)]
theorem prn_app (a b : List UInt8) : prn (a ++ b) = (prn a && prn b) := by unfold prn; rw [List.all_append]
theorem prn_one (c : UInt8) (b : List UInt8) : prn (c :: b) = (prC c && prn b) := rfl
/-- what the reference's text gives: the lexeme at i, and the place behind it -/
def rtR (r : List UInt8) (i : Nat) : Value := match litS r with
  | .tok n k t v => .tuple #[lx k (bst t) v i, .int .i64 ((i : Int) + n), .int .i64 0]
  | x => .tuple #[lx 0 ⟨#[]⟩ 0 0, .int .i64 0, .int .i64 x.e]
theorem rt_bad {r : List UInt8} {i : Nat} {e : Int} (h : litS r = .bad e) : rtR r i = .tuple #[lx 0 ⟨#[]⟩ 0 0, .int .i64 0, .int .i64 e] := by unfold rtR; rw [h]; rfl
set_option maxHeartbeats 2000000 in
set_option maxRecDepth 100000 in
theorem rtext_any (s : ByteArray) (i : Nat) (hi : i < s.size) (hs : s.size ≤ 10000) (w : World) : Calls Tryd.prog 54 #[.string s, .int .i64 i] w fun e w' => e = .returned (rtR ((ls s).drop (i + 1)) i) ∧ Below w.heap.size w w' := by
  obtain ⟨r, hr⟩ : ∃ r, (ls s).drop (i + 1) = r := ⟨_, rfl⟩
  have hrl : r.length + i + 1 = s.size := by rw [← hr, List.length_drop, ← ls_size]; omega
  rw [hr]
  have HRL := Lib.hid hrl
  have hsi : (s.size : Int) ≤ 10000 := by omega
  have hii : (i : Int) < (s.size : Int) := by omega
  have HR := Lib.hid hr
  have HBAD := Lib.hid (fun (e : Int) (h : litS r = .bad e) => rt_bad (i := i) h)
  obtain ⟨V, hV⟩ : ∃ V, rtR r i = V := ⟨_, rfl⟩
  rw [hV] at HBAD ⊢
  have HV := Lib.hid hV
  clear hr hrl hV
  go_enter Tryd.func54, Tryd.ntmps54
  go_wp2_with fail
  go_loop [7] (fun x => ∃ (k : Nat) (y : List UInt8), k ≤ s.size ∧ x = .int .i64 k ∧ Hid (upq r = y ++ upq ((ls s).drop k)) ∧ Hid (prn y = true) ∧ Hid (y.length + i + 1 = k)) (fun x => s.size - (intOf x).toNat)
  case atStart => exact ⟨i + 1, [], by omega, by go_num, Lib.hid (by rw [HR.out, List.nil_append]), Lib.hid rfl, Lib.hid (by simp)⟩
  case round =>
    obtain ⟨k, y, hk, rfl, hU, hP, hY⟩ := hrel
    by_cases hlt : k < s.size
    · have hlt' : (k : Int) < (s.size : Int) := by omega
      have q0 := idx_at s k hlt
      have hdk := drop_at s k hlt
      by_cases h34 : s[k] = 34
      · have hU2 := hU.out
        rw [hdk, h34, upq_q, List.append_nil] at hU2
        have hP2 := hP.out
        rw [← hU2] at hP2
        have hlen := hY.out
        rw [← hU2] at hlen
        have c34 : ((s[k].toNat : Int) != 34) = false := by rw [h34]; rfl
        have c5 : ((k : Int) == (s.size : Int)) = false := by rw [beq_eq_false_iff_ne]; omega
        have hne : ¬ ((upq r).length = r.length ∨ prn (upq r) = false) := by
          rintro (h | h)
          · have := HRL.out; omega
          · rw [hP2] at h; cases h
        have w1 : IntKind.i64.wrap ((k : Int) - (i : Int)) = (k : Int) - (i : Int) := IntWalk.i64_in _ (by omega)
        have w2 : IntKind.i64.wrap ((k : Int) - (i : Int) - 1) = (k : Int) - (i : Int) - 1 := IntWalk.i64_in _ (by omega)
        by_cases hl : 100 < (upq r).length
        · have HB := Lib.hid (HBAD.out _ (show litS r = .bad 3 by unfold litS; rw [if_neg hne, if_pos hl]))
          have d1 : decide (100 < (k : Int) - (i : Int) - 1) = true := decide_eq_true (by omega)
          clear hU2 hP2 hlen hne hl h34 hdk hU hP hY
          go_wp2_with fail
          exact bodyPost_ret (v := .tuple #[lx 0 ⟨#[]⟩ 0 0, .int .i64 0, .int .i64 3]) (by simp [results, Tryd.results54, go_sem]) rfl ⟨by rw [HB.out], ((Below.refl _ _).alloc (Nat.le_refl _) _)⟩
        · have htk : bst (upq r) = s.extract (i + 1) k := by
            apply ls_ext
            rw [ls_bst, ls_ex, HR.out, show k - (i + 1) = (upq r).length by omega]
            exact List.prefix_iff_eq_take.1 (List.takeWhile_prefix _)
          have HB := Lib.hid (show V = .tuple #[lx 3 (s.extract (i + 1) k) 0 i, .int .i64 ((k : Int) + 1), .int .i64 0] by
            rw [← HV.out]
            unfold rtR
            rw [show litS r = .tok ((upq r).length + 2) 3 (upq r) 0 by unfold litS; rw [if_neg hne, if_neg hl]]
            show Value.tuple #[lx 3 (bst (upq r)) 0 i, .int .i64 ((i : Int) + (((upq r).length + 2 : Nat) : Int)), .int .i64 0] = _
            rw [htk, show (i : Int) + (((upq r).length + 2 : Nat) : Int) = (k : Int) + 1 by omega])
          have d1 : decide (100 < (k : Int) - (i : Int) - 1) = false := decide_eq_false (by omega)
          have z1 : ∀ w, (Instr.slice 9 (.string s) (some (.int .i64 ((i : Int) + 1))) (some (.int .i64 (k : Int))) none).run Tryd.prog w = .ok (.string (s.extract (i + 1) k)) w := fun w => by
            have := cut_lh s (i + 1) k (by omega) (by omega) w
            rwa [show ((i + 1 : Nat) : Int) = (i : Int) + 1 by omega] at this
          have b1 : (i : Int) + 1 ≤ (k : Int) := by omega
          clear hU2 hP2 hlen hne hl h34 hdk hU hP hY htk
          go_wp2_with fail
          exact bodyPost_ret (v := .tuple #[lx 3 (s.extract (i + 1) k) 0 i, .int .i64 ((k : Int) + 1), .int .i64 0]) (by simp [results, Tryd.results54, go_sem]) rfl ⟨by rw [HB.out], ((Below.refl _ _).alloc (Nat.le_refl _) _)⟩
      · have c34 : ((s[k].toNat : Int) != 34) = true := by rw [bne_iff_ne]; intro h; exact h34 (UInt8.toNat_inj.1 (by show s[k].toNat = 34; omega))
        have hU2 := hU.out
        rw [hdk, upq_c h34] at hU2
        cases hpc : prC s[k]
        · have HB := Lib.hid (HBAD.out _ (show litS r = .bad 2 by
            unfold litS
            rw [if_pos (.inr (by rw [hU2, prn_app, prn_one, hpc]; simp))]))
          have hor : (s[k].toNat : Int) < 32 ∨ 126 < (s[k].toNat : Int) := by
            unfold prC at hpc
            rw [Bool.and_eq_false_iff, decide_eq_false_iff_not, decide_eq_false_iff_not] at hpc
            omega
          obtain ⟨v, hv⟩ : ∃ v : Int, (s[k].toNat : Int) = v := ⟨_, rfl⟩
          rw [hv] at hor c34
          clear hU2 h34 hdk hU hP hY hpc
          rcases hor with h | h
          · have d1 : decide (v < 32) = true := decide_eq_true h
            go_wp2_with fail
            exact bodyPost_ret (v := .tuple #[lx 0 ⟨#[]⟩ 0 0, .int .i64 0, .int .i64 2]) (by simp [results, Tryd.results54, go_sem]) rfl ⟨by rw [HB.out], ((Below.refl _ _).alloc (Nat.le_refl _) _)⟩
          · have d1 : decide (v < 32) = false := decide_eq_false (by omega)
            have d2 : decide (126 < v) = true := decide_eq_true h
            go_wp2_with fail
            exact bodyPost_ret (v := .tuple #[lx 0 ⟨#[]⟩ 0 0, .int .i64 0, .int .i64 2]) (by simp [results, Tryd.results54, go_sem]) rfl ⟨by rw [HB.out], ((Below.refl _ _).alloc (Nat.le_refl _) _)⟩
        · have hin : ¬ (s[k].toNat : Int) < 32 ∧ ¬ 126 < (s[k].toNat : Int) := by
            unfold prC at hpc
            rw [Bool.and_eq_true, decide_eq_true_iff, decide_eq_true_iff] at hpc
            omega
          have HU2 := Lib.hid (show upq r = (y ++ [s[k]]) ++ upq ((ls s).drop (k + 1)) by rw [hU2, List.append_assoc]; rfl)
          have HP2 := Lib.hid (show prn (y ++ [s[k]]) = true by rw [prn_app, hP.out, prn_one, hpc]; rfl)
          have HY2 := Lib.hid (show (y ++ [s[k]]).length + i + 1 = k + 1 by rw [List.length_append]; have := hY.out; simp; omega)
          generalize y ++ [s[k]] = y' at *
          obtain ⟨v, hv⟩ : ∃ v : Int, (s[k].toNat : Int) = v := ⟨_, rfl⟩
          rw [hv] at hin c34
          have d1 : decide (v < 32) = false := decide_eq_false hin.1
          have d2 : decide (126 < v) = false := decide_eq_false hin.2
          clear hU2 h34 hdk hU hP hY hpc hin
          go_wp2_with fail
          go_round
          case rel => exact ⟨k + 1, y', by omega, by go_num, HU2, HP2, HY2⟩
          case measure => simp [intOf]; omega
    · have hge : ¬ (k : Int) < (s.size : Int) := by omega
      obtain rfl : k = s.size := by omega
      have HB := Lib.hid (HBAD.out _ (show litS r = .bad 2 by
        have h := hU.out
        rw [List.drop_of_length_le (by rw [← ls_size]; exact Nat.le_refl _)] at h
        have h2 : (upq r).length = r.length := by rw [h]; have := hY.out; have := HRL.out; simp [upq]; omega
        unfold litS
        rw [if_pos (.inl h2)]))
      clear hlt hU hP hY
      go_wp2_with fail
      exact bodyPost_ret (v := .tuple #[lx 0 ⟨#[]⟩ 0 0, .int .i64 0, .int .i64 2]) (by simp [results, Tryd.results54, go_sem]) rfl ⟨by rw [HB.out], ((Below.refl _ _).alloc (Nat.le_refl _) _)⟩
end Go.Proofs.YtikmaljhfckbgaaDoor
