/- Strip: what it gives; Strip of the reference. -/
import Derived.Test.YtagfimemiggnlaaDoorS
set_option linter.unusedVariables false
set_option linter.unusedSimpArgs false
namespace Go.Proofs.YtagfimemiggnlaaDoor
open Go.Sort Go.ChangeShapes Go.WideShapes Go.ChangeAt Go.RowKit
def dgI (s : ByteArray) (i : Int) : Bool := decide (0 ≤ i) && (decide (i < s.size) && dgB ((ls s).getD i.toNat 0).toNat)
def sepB (c : UInt8) : Bool := (c.toNat == 32) || (c.toNat == 45)
def badB (s : ByteArray) (k : Nat) : Bool := !dgI s k && !(sepB ((ls s).getD k 0) && (dgI s ((k : Int) - 1) && dgI s ((k : Int) + 1)))
def okS (s : ByteArray) : Nat → Bool
  | 0 => true
  | k + 1 => okS s k && !badB s k
def stL (s : ByteArray) : Nat → List UInt8
  | 0 => []
  | k + 1 => stL s k ++ if dgI s k = true then [(ls s).getD k 0] else []
theorem okS_bad {s : ByteArray} {k : Nat} (hb : badB s k = true) : ∀ n, k < n → okS s n = false := by
  intro n
  induction n with
  | zero => intro h; omega
  | succ n ih =>
    intro h
    show (okS s n && !badB s n) = false
    by_cases e : k = n
    · rw [← e, hb]; simp
    · rw [ih (by omega)]; rfl
theorem okS_succ {s : ByteArray} (k : Nat) (h : okS s k = true) (hb : badB s k = false) : okS s (k + 1) = true := by
  show (okS s k && !badB s k) = true
  rw [h, hb]; rfl
def stE (s : ByteArray) : Int := if okS s s.size = true then chkP (bst (stL s s.size)) else 2
def stV (s : ByteArray) : ByteArray := if stE s = 0 then bst (stL s s.size) else ⟨#[]⟩
theorem st_bad {s : ByteArray} (h : okS s s.size = false) : stE s = 2 ∧ stV s = ⟨#[]⟩ := by
  have : stE s = 2 := by unfold stE; rw [h]; rfl
  exact ⟨this, by unfold stV; rw [this]; rfl⟩
theorem st_chk {s : ByteArray} (h : okS s s.size = true) : stE s = chkP (bst (stL s s.size)) := by unfold stE; rw [if_pos h]
theorem stL_len (s : ByteArray) (k : Nat) : (stL s k).length ≤ k := by
  induction k with
  | zero => exact Nat.le_refl _
  | succ k ih =>
    show (stL s k ++ _).length ≤ k + 1
    rw [List.length_append]
    split
    · simp; omega
    · simp; omega
theorem dgI_in {s : ByteArray} (k : Nat) (hk : k < s.size) : dgI s k = dgB (s[k]).toNat := by
  unfold dgI
  rw [show decide ((0 : Int) ≤ k) = true from decide_eq_true (by omega), show decide ((k : Int) < s.size) = true from decide_eq_true (by omega), Int.toNat_natCast, getD_at s k hk]
  rfl
theorem dgI_neg {s : ByteArray} {i : Int} (h : i < 0 ∨ (s.size : Int) ≤ i) : dgI s i = false := by
  unfold dgI
  rcases h with h | h
  · rw [decide_eq_false (by omega)]; rfl
  · rw [show decide (i < (s.size : Int)) = false from decide_eq_false (by omega)]; simp
set_option maxHeartbeats 1000000 in
theorem rdigit_any (s : ByteArray) (i : Int) (hs : s.size ≤ 200) (hi : -1 ≤ i ∧ i ≤ 300) (w : World) : Calls Tryd.prog 42 #[.string s, .int .i64 i] w fun e w' => e = .returned (.bool (dgI s i)) ∧ w' = w := by
  have hsi : (s.size : Int) ≤ 200 := by omega
  by_cases h0 : 0 ≤ i
  · obtain ⟨k, rfl⟩ : ∃ k : Nat, i = k := ⟨i.toNat, by omega⟩
    have c0 : decide ((0 : Int) ≤ (k : Int)) = true := decide_eq_true (by omega)
    by_cases h1 : k < s.size
    · have c1 : decide ((k : Int) < (s.size : Int)) = true := decide_eq_true (by omega)
      have c1b : (k : Int) < (s.size : Int) := by omega
      rw [dgI_in k h1]
      unfold dgB
      have e : (decide (48 ≤ (s[k]).toNat) && decide ((s[k]).toNat ≤ 57)) = (decide ((48 : Int) ≤ ((s[k]).toNat : Int)) && decide (((s[k]).toNat : Int) ≤ 57)) := by
        congr 1 <;> (congr 1; rw [eq_iff_iff]; omega)
      rw [e]
      obtain ⟨v, hv⟩ : ∃ v : Int, (s[k].toNat : Int) = v := ⟨_, rfl⟩
      rw [hv]
      clear e hi
      by_cases a1 : 48 ≤ v
      · have d1 : decide (48 ≤ v) = true := decide_eq_true a1
        go_enter Tryd.func42, Tryd.ntmps42
        go_wp2_with fail
        go_ret
        exact ⟨by first | rfl | (rw [d1]; rfl) | simp, rfl⟩
      · have d1 : decide (48 ≤ v) = false := decide_eq_false a1
        go_enter Tryd.func42, Tryd.ntmps42
        go_wp2_with fail
        go_ret
        exact ⟨by first | rfl | (rw [d1]; rfl) | simp, rfl⟩
    · rw [dgI_neg (.inr (by omega))]
      have c1 : decide ((k : Int) < (s.size : Int)) = false := decide_eq_false (by omega)
      have c1b : ¬ (k : Int) < (s.size : Int) := by omega
      clear hi
      go_enter Tryd.func42, Tryd.ntmps42
      go_wp2_with fail
      go_ret
      exact ⟨rfl, rfl⟩
  · rw [dgI_neg (.inl (by omega))]
    have c0 : decide ((0 : Int) ≤ i) = false := decide_eq_false h0
    clear hi h0
    go_enter Tryd.func42, Tryd.ntmps42
    go_wp2_with fail
    go_ret
    exact ⟨rfl, rfl⟩
set_option maxHeartbeats 2000000 in
theorem rstrip_any (s : ByteArray) (hs : s.size ≤ 200) (w : World) : Calls Tryd.prog 28 #[.string s] w fun e w' => e = .returned (.tuple #[.string (stV s), .int .i64 (stE s)]) ∧ w' = w := by
  have RD := Lib.hid (fun i hi w => rdigit_any s i hs hi w)
  have RC := Lib.hid (fun w => rcheck_any (bst (stL s s.size)) (by rw [bst_size]; have := stL_len s s.size; omega) w)
  have HE := Lib.hid (@st_chk s)
  have HB := Lib.hid (fun k (h : badB s k = true) (hk : k < s.size) => st_bad (okS_bad h s.size hk))
  have HV := Lib.hid (show stV s = if stE s = 0 then bst (stL s s.size) else ⟨#[]⟩ from rfl)
  have HO := Lib.hid (@okS_succ s)
  have HL : Hid (∀ k, stL s (k + 1) = stL s k ++ if dgI s k = true then [(ls s).getD k 0] else []) := Lib.hid (fun _ => rfl)
  have HG := Lib.hid (getD_at s)
  have H1 := Lib.hid (ls_one s)
  have HLL := Lib.hid (stL_len s)
  generalize stE s = E at *
  generalize stV s = V at *
  have hsi : (s.size : Int) ≤ 200 := by omega
  go_enter Tryd.func28, Tryd.ntmps28
  go_wp2_with fail
  go_loop [4, 5] (fun x y => ∃ (k : Nat) (S : ByteArray), Hid (k ≤ s.size) ∧ x = .string S ∧ y = .int .i64 k ∧ Hid (ls S = stL s k) ∧ Hid (okS s k = true)) (fun _ y => s.size - (intOf y).toNat)
  case atStart => exact ⟨0, _, Lib.hid (Nat.zero_le _), rfl, rfl, Lib.hid rfl, Lib.hid rfl⟩
  case round =>
    obtain ⟨k, S, HK, rfl, rfl, hS, hO⟩ := hrel
    have hS400 : S.size ≤ 400 := by have := HLL.out k; have := HK.out; have := ls_size S; rw [hS.out] at this; omega
    by_cases hlt : k < s.size
    · have hlt' : (k : Int) < (s.size : Int) := by omega
      have hlt2 : k < s.size := hlt
      have R0 := Lib.hid (RD.out (k : Int) (by omega))
      have R1 := Lib.hid (RD.out ((k : Int) - 1) (by omega))
      have R2 := Lib.hid (RD.out ((k : Int) + 1) (by omega))
      cases h0 : dgI s k
      · rw [h0] at R0
        have hst := HL.out k
        rw [h0, if_neg (by simp), List.append_nil] at hst
        have HN := Lib.hid (hS.out.trans hst.symm)
        have hb1 : badB s k = !(sepB ((ls s).getD k 0) && (dgI s ((k : Int) - 1) && dgI s ((k : Int) + 1))) := by unfold badB; rw [h0]; rfl
        have hse : sepB ((ls s).getD k 0) = ((s[k].toNat == 32) || (s[k].toNat == 45)) := by rw [HG.out k hlt]; rfl
        obtain ⟨v, hv⟩ : ∃ v : Int, (s[k].toNat : Int) = v := ⟨_, rfl⟩
        by_cases hs1 : v = 32 ∨ v = 45
        · have hsep : sepB ((ls s).getD k 0) = true := by
            rw [hse, Bool.or_eq_true, beq_iff_eq, beq_iff_eq]; omega
          rw [hsep] at hb1
          have HS1 := Lib.hid hs1
          cases h1 : dgI s ((k : Int) - 1)
          · rw [h1] at R1 hb1
            obtain ⟨q1, q2⟩ := HB.out k (by rw [hb1]; rfl) hlt
            have HQ1 := Lib.hid q1
            have HQ2 := Lib.hid q2
            clear hst hb1 hse hsep h0 h1 q1 q2
            rcases hs1 with rfl | rfl
            · clear HS1
              go_wp2_with (first | (go_at_call 42; (with_reducible refine (R0.out _).mono ?_); rintro e w' ⟨rfl, rfl⟩) | (go_at_call 42; (with_reducible refine (R1.out _).mono ?_); rintro e w' ⟨rfl, rfl⟩))
              exact bodyPost_ret (v := .tuple #[.string ⟨#[]⟩, .int .i64 2]) (by simp [results, Tryd.results28, go_sem]) rfl ⟨by rw [HQ1.out, HQ2.out], rfl⟩
            · clear HS1
              go_wp2_with (first | (go_at_call 42; (with_reducible refine (R0.out _).mono ?_); rintro e w' ⟨rfl, rfl⟩) | (go_at_call 42; (with_reducible refine (R1.out _).mono ?_); rintro e w' ⟨rfl, rfl⟩))
              exact bodyPost_ret (v := .tuple #[.string ⟨#[]⟩, .int .i64 2]) (by simp [results, Tryd.results28, go_sem]) rfl ⟨by rw [HQ1.out, HQ2.out], rfl⟩
          · rw [h1] at R1 hb1
            cases h2 : dgI s ((k : Int) + 1)
            · rw [h2] at R2 hb1
              obtain ⟨q1, q2⟩ := HB.out k (by rw [hb1]; rfl) hlt
              have HQ1 := Lib.hid q1
              have HQ2 := Lib.hid q2
              clear hst hb1 hse hsep h0 h1 h2 q1 q2
              rcases hs1 with rfl | rfl
              · clear HS1
                go_wp2_with (first | (go_at_call 42; (with_reducible refine (R0.out _).mono ?_); rintro e w' ⟨rfl, rfl⟩) | (go_at_call 42; (with_reducible refine (R1.out _).mono ?_); rintro e w' ⟨rfl, rfl⟩) | (go_at_call 42; (with_reducible refine (R2.out _).mono ?_); rintro e w' ⟨rfl, rfl⟩))
                exact bodyPost_ret (v := .tuple #[.string ⟨#[]⟩, .int .i64 2]) (by simp [results, Tryd.results28, go_sem]) rfl ⟨by rw [HQ1.out, HQ2.out], rfl⟩
              · clear HS1
                go_wp2_with (first | (go_at_call 42; (with_reducible refine (R0.out _).mono ?_); rintro e w' ⟨rfl, rfl⟩) | (go_at_call 42; (with_reducible refine (R1.out _).mono ?_); rintro e w' ⟨rfl, rfl⟩) | (go_at_call 42; (with_reducible refine (R2.out _).mono ?_); rintro e w' ⟨rfl, rfl⟩))
                exact bodyPost_ret (v := .tuple #[.string ⟨#[]⟩, .int .i64 2]) (by simp [results, Tryd.results28, go_sem]) rfl ⟨by rw [HQ1.out, HQ2.out], rfl⟩
            · rw [h2] at R2 hb1
              have HOK := Lib.hid (HO.out k hO.out (by rw [hb1]; rfl))
              clear hst hb1 hse hsep h0 h1 h2
              rcases hs1 with rfl | rfl
              · clear HS1
                go_wp2_with (first | (go_at_call 42; (with_reducible refine (R0.out _).mono ?_); rintro e w' ⟨rfl, rfl⟩) | (go_at_call 42; (with_reducible refine (R1.out _).mono ?_); rintro e w' ⟨rfl, rfl⟩) | (go_at_call 42; (with_reducible refine (R2.out _).mono ?_); rintro e w' ⟨rfl, rfl⟩))
                go_round
                case rel => exact ⟨k + 1, _, Lib.hid hlt, rfl, by go_num, HN, HOK⟩
                case measure => simp [intOf]; omega
              · clear HS1
                go_wp2_with (first | (go_at_call 42; (with_reducible refine (R0.out _).mono ?_); rintro e w' ⟨rfl, rfl⟩) | (go_at_call 42; (with_reducible refine (R1.out _).mono ?_); rintro e w' ⟨rfl, rfl⟩) | (go_at_call 42; (with_reducible refine (R2.out _).mono ?_); rintro e w' ⟨rfl, rfl⟩))
                go_round
                case rel => exact ⟨k + 1, _, Lib.hid hlt, rfl, by go_num, HN, HOK⟩
                case measure => simp [intOf]; omega
        · have hsep : sepB ((ls s).getD k 0) = false := by
            rw [hse, Bool.or_eq_false_iff, beq_eq_false_iff_ne, beq_eq_false_iff_ne]; omega
          rw [hsep] at hb1
          obtain ⟨q1, q2⟩ := HB.out k (by rw [hb1]; rfl) hlt
          have HQ1 := Lib.hid q1
          have HQ2 := Lib.hid q2
          have c1 : (v != 32) = true := by rw [bne_iff_ne]; omega
          have c2 : (v != 45) = true := by rw [bne_iff_ne]; omega
          have c1b : (v == 32) = false := by rw [beq_eq_false_iff_ne]; omega
          have c2b : (v == 45) = false := by rw [beq_eq_false_iff_ne]; omega
          clear hst hb1 hse hsep h0 q1 q2 hs1
          go_wp2_with (first | (go_at_call 42; (with_reducible refine (R0.out _).mono ?_); rintro e w' ⟨rfl, rfl⟩))
          exact bodyPost_ret (v := .tuple #[.string ⟨#[]⟩, .int .i64 2]) (by simp [results, Tryd.results28, go_sem]) rfl ⟨by rw [HQ1.out, HQ2.out], rfl⟩
      · rw [h0] at R0
        have hst := HL.out k
        rw [h0, if_pos rfl] at hst
        have HN := Lib.hid (show ls (S ++ s.extract k (k + 1)) = stL s (k + 1) by rw [ls_app, hS.out, H1.out k hlt, hst])
        have HOK := Lib.hid (HO.out k hO.out (show badB s k = false by unfold badB; rw [h0]; rfl))
        have hcut := cut_1 s k hlt
        have he : (s.extract k (k + 1)).size ≤ 10 := by rw [ByteArray.size_extract]; omega
        clear hst h0
        go_wp2_with (first | (go_at_call 42; (with_reducible refine (R0.out _).mono ?_); rintro e w' ⟨rfl, rfl⟩))
        go_round
        case rel => exact ⟨k + 1, _, Lib.hid hlt, rfl, by go_num, HN, HOK⟩
        case measure => simp [intOf]; omega
    · have hge : ¬ (k : Int) < (s.size : Int) := by omega
      obtain rfl : k = s.size := by have := HK.out; omega
      have hSb : S = bst (stL s s.size) := ls_ext (by rw [ls_bst]; exact hS.out)
      rw [← hSb] at RC
      have hE := HE.out hO.out
      rw [← hSb] at hE
      rw [← hE] at RC
      have hV := HV.out
      rw [← hSb] at hV
      clear hE hSb
      by_cases hz : E = 0
      · have HVV := Lib.hid (show V = S by rw [hV, if_pos hz])
        subst hz
        clear hV
        go_wp2_with (go_at_call 16; refine (RC.out _).mono ?_; rintro e w' ⟨rfl, rfl⟩)
        exact bodyPost_ret (v := .tuple #[.string S, .int .i64 0]) (by simp [results, Tryd.results28, go_sem]) rfl ⟨by rw [HVV.out], rfl⟩
      · have HVV := Lib.hid (show V = ⟨#[]⟩ by rw [hV, if_neg hz])
        have c1 : (E != 0) = true := by rw [bne_iff_ne]; exact hz
        have c1b : (E == 0) = false := by rw [beq_eq_false_iff_ne]; exact hz
        clear hV hz
        go_wp2_with (go_at_call 16; refine (RC.out _).mono ?_; rintro e w' ⟨rfl, rfl⟩)
        exact bodyPost_ret (v := .tuple #[.string ⟨#[]⟩, .int .i64 E]) (by simp [results, Tryd.results28, go_sem]) rfl ⟨by rw [HVV.out], rfl⟩
end Go.Proofs.YtagfimemiggnlaaDoor
