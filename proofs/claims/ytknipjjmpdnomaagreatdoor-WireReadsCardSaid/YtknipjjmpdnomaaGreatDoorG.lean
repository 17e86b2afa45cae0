/- The reference's small functions: Digits, number, Printable, take, fail, Left, Err, End, NewReader. -/
import Derived.Test.YtknipjjmpdnomaaGreatDoorC
set_option linter.unusedVariables false
set_option linter.unusedSimpArgs false
namespace Go.Proofs.YtknipjjmpdnomaaGreatDoor
open Go.Sort Go.ChangeShapes Go.WideShapes Go.ChangeAt Go.RowKit
theorem rdigit_any (c : Nat) (w : World) : Calls Tryz.prog 53 #[.int .u8 c] w fun e w' => e = .returned (.bool (dgB c)) ∧ w' = w := by
  have hB : dgB c = (decide (48 ≤ c) && decide (c ≤ 57)) := rfl
  by_cases h1 : 48 ≤ c
  · by_cases h2 : c ≤ 57
    · rw [hB, decide_eq_true h1, decide_eq_true h2]
      have d1 : decide ((48 : Int) ≤ (c : Int)) = true := decide_eq_true (by omega)
      have d2 : decide ((c : Int) ≤ 57) = true := decide_eq_true (by omega)
      have d3 : decide ((c : Int) < 48) = false := decide_eq_false (by omega)
      have d4 : decide ((57 : Int) < (c : Int)) = false := decide_eq_false (by omega)
      clear hB
      go_enter Tryz.func53, Tryz.ntmps53
      go_wp2_with fail
      exact bodyPost_ret (v := .bool true) (by simp [results, Tryz.results53, go_sem]) rfl ⟨rfl, rfl⟩
    · rw [hB, decide_eq_true h1, decide_eq_false h2]
      have d1 : decide ((48 : Int) ≤ (c : Int)) = true := decide_eq_true (by omega)
      have d2 : decide ((c : Int) ≤ 57) = false := decide_eq_false (by omega)
      have d3 : decide ((c : Int) < 48) = false := decide_eq_false (by omega)
      have d4 : decide ((57 : Int) < (c : Int)) = true := decide_eq_true (by omega)
      clear hB
      go_enter Tryz.func53, Tryz.ntmps53
      go_wp2_with fail
      exact bodyPost_ret (v := .bool false) (by simp [results, Tryz.results53, go_sem]) rfl ⟨rfl, rfl⟩
  · rw [hB, decide_eq_false h1]
    have d1 : decide ((48 : Int) ≤ (c : Int)) = false := decide_eq_false (by omega)
    have d3 : decide ((c : Int) < 48) = true := decide_eq_true (by omega)
    clear hB
    go_enter Tryz.func53, Tryz.ntmps53
    go_wp2_with fail
    exact bodyPost_ret (v := .bool false) (by simp [results, Tryz.results53, go_sem]) rfl ⟨rfl, rfl⟩
set_option maxHeartbeats 1000000 in
theorem rdigits_any (s : ByteArray) (w : World) (hs : s.size ≤ 2000) : Calls Tryz.prog 36 #[.string s] w fun e w' => e = .returned (.bool (allD (ls s))) ∧ w' = w := by
  have HF := Lib.hid (allD_false s)
  have HT := Lib.hid (allD_take s)
  have HI := Lib.hid (fun c w => rdigit_any c w)
  obtain ⟨B, hB⟩ : ∃ B, B = allD (ls s) := ⟨_, rfl⟩
  rw [← hB]
  have HB := Lib.hid hB
  have hsi : (s.size : Int) ≤ 2000 := by omega
  clear hB
  go_enter Tryz.func36, Tryz.ntmps36
  go_wp2_with fail
  go_loop [3] (fun y => ∃ (k : Nat), k ≤ s.size ∧ y = .int .i64 k ∧ Hid (allD ((ls s).take k) = true)) (fun y => s.size - (intOf y).toNat)
  case atStart => exact ⟨0, Nat.zero_le _, rfl, Lib.hid rfl⟩
  case round =>
    obtain ⟨k, hk, rfl, hA⟩ := hrel
    by_cases hlt : k < s.size
    · have hlt' : (k : Int) < (s.size : Int) := by omega
      have ht := HT.out k hlt
      rw [show allD (s.data.toList.take k) = true from hA.out, Bool.true_and] at ht
      have HIk := Lib.hid (HI.out s[k].toNat)
      have hx := idx_at s k hlt
      cases hd : dgB s[k].toNat
      · have HX := Lib.hid (HF.out k hlt hd)
        rw [hd] at HIk
        generalize s[k].toNat = v at *
        clear ht hd
        go_wp2_with (go_at_call 53; refine (HIk.out _).mono ?_; rintro e w' ⟨rfl, rfl⟩)
        go_ret
        exact ⟨by rw [HB.out, show allD (ls s) = false from HX.out]; rfl, rfl⟩
      · rw [hd] at ht HIk
        have HA := Lib.hid (show allD ((ls s).take (k + 1)) = true from ht)
        generalize s[k].toNat = v at *
        clear ht hd
        go_wp2_with (go_at_call 53; refine (HIk.out _).mono ?_; rintro e w' ⟨rfl, rfl⟩)
        go_round
        case rel => exact ⟨k + 1, by omega, by go_num, HA⟩
        case measure => simp [intOf]; omega
    · have hge : ¬ (k : Int) < (s.size : Int) := by omega
      obtain rfl : k = s.size := by omega
      have ha := hA.out
      rw [List.take_of_length_le (by rw [← ls_size]; exact Nat.le_refl _)] at ha
      have HX := Lib.hid ha
      clear ha
      go_wp2_with fail
      go_ret
      exact ⟨by rw [HB.out, HX.out]; rfl, rfl⟩
abbrev rr (T : ByteArray) (e : Int) : Array Value := #[.string T, .int .i64 e]
theorem cell2 {w : World} {g : Nat} {s : ByteArray} {e : Int} (h : Blk w g 44 (rr s e)) : w.cell? ⟨g, 0, none⟩ = some (.string s) ∧ w.cell? ⟨g, 1, none⟩ = some (.int .i64 e) ∧ w.frozen? ⟨g, 0, none⟩ = false ∧ w.frozen? ⟨g, 1, none⟩ = false ∧ g < w.heap.size :=
  ⟨h.cell 0, h.cell 1, h.frozen 0, h.frozen 1, h.lt⟩
theorem rr_set0 {w : World} {g : Nat} {s : ByteArray} {e : Int} (h : Blk w g 44 (rr s e)) (t : ByteArray) : Blk (w.setCell ⟨g, 0, none⟩ (.string t)) g 44 (rr t e) := by simpa using h.set_ 0 (.string t)
theorem rr_set1 {w : World} {g : Nat} {s : ByteArray} {e : Int} (h : Blk w g 44 (rr s e)) (b : Int) : Blk (w.setCell ⟨g, 1, none⟩ (.int .i64 b)) g 44 (rr s b) := by simpa using h.set_ 1 (.int .i64 b)
theorem rnew_any (s : ByteArray) (w : World) : Calls Tryz.prog 6 #[.string s] w fun e w' => e = .returned (.pointer (some ⟨w.heap.size, 0, none⟩)) ∧ w' = w.alloc (.cells (rr s 0) 44) := by
  go_enter Tryz.func6, Tryz.ntmps6
  go_wp2_with fail
  go_ret
  exact ⟨rfl, rfl⟩
theorem rfail_any (g : Nat) (s : ByteArray) (e E : Int) (w : World) (h : Blk w g 44 (rr s e)) : Calls Tryz.prog 35 #[.pointer (some ⟨g, 0, none⟩), .int .i64 E] w fun x w' => x = .returned (.tuple #[]) ∧ w' = w.setCell ⟨g, 1, none⟩ (.int .i64 E) := by
  obtain ⟨c0, c1, f0, f1, hl⟩ := cell2 h
  clear h
  go_enter Tryz.func35, Tryz.ntmps35
  go_wp2_with fail
  go_end0
  exact ⟨rfl, rfl⟩
theorem rerr_any (g : Nat) (s : ByteArray) (e : Int) (w : World) (h : Blk w g 44 (rr s e)) : Calls Tryz.prog 19 #[.pointer (some ⟨g, 0, none⟩)] w fun x w' => x = .returned (.int .i64 e) ∧ w' = w := by
  obtain ⟨c0, c1, f0, f1, hl⟩ := cell2 h
  clear h
  go_enter Tryz.func19, Tryz.ntmps19
  go_wp2_with fail
  go_ret
  exact ⟨rfl, rfl⟩
theorem rleft_any (g : Nat) (s : ByteArray) (e : Int) (w : World) (h : Blk w g 44 (rr s e)) : Calls Tryz.prog 18 #[.pointer (some ⟨g, 0, none⟩)] w fun x w' => x = .returned (.int .i64 s.size) ∧ w' = w := by
  obtain ⟨c0, c1, f0, f1, hl⟩ := cell2 h
  clear h
  go_enter Tryz.func18, Tryz.ntmps18
  go_wp2_with fail
  go_ret
  exact ⟨rfl, rfl⟩
def enE (n : Nat) (e : Int) : Int := if e = 0 ∧ 0 < n then 3 else e
theorem rend_any (g : Nat) (s : ByteArray) (e : Int) (w : World) (h : Blk w g 44 (rr s e)) : Calls Tryz.prog 20 #[.pointer (some ⟨g, 0, none⟩)] w fun x w' => x = .returned (.int .i64 (enE s.size e)) ∧ w' = w := by
  obtain ⟨c0, c1, f0, f1, hl⟩ := cell2 h
  clear h
  unfold enE
  by_cases he : e = 0
  · subst he
    by_cases hs : 0 < s.size
    · rw [if_pos ⟨rfl, hs⟩]
      have d1 : decide (0 < (s.size : Int)) = true := decide_eq_true (by omega)
      go_enter Tryz.func20, Tryz.ntmps20
      go_wp2_with fail
      exact bodyPost_ret (v := .int .i64 3) (by simp [results, Tryz.results20, go_sem]) rfl ⟨rfl, rfl⟩
    · rw [if_neg (fun c => hs c.2)]
      have d1 : decide (0 < (s.size : Int)) = false := decide_eq_false (by omega)
      go_enter Tryz.func20, Tryz.ntmps20
      go_wp2_with fail
      exact bodyPost_ret (v := .int .i64 0) (by simp [results, Tryz.results20, go_sem]) rfl ⟨rfl, rfl⟩
  · rw [if_neg (fun c => he c.1)]
    have d1 : (e == 0) = false := by rw [beq_eq_false_iff_ne]; exact he
    go_enter Tryz.func20, Tryz.ntmps20
    go_wp2_with fail
    exact bodyPost_ret (v := .int .i64 e) (by simp [results, Tryz.results20, go_sem]) rfl ⟨rfl, rfl⟩
theorem rtake_any (g n : Nat) (s : ByteArray) (e : Int) (hn : n ≤ s.size) (hs : s.size ≤ 2000) (w : World) (h : Blk w g 44 (rr s e)) : Calls Tryz.prog 38 #[.pointer (some ⟨g, 0, none⟩), .int .i64 n] w fun x w' => x = .returned (.string (s.extract 0 n)) ∧ w' = w.setCell ⟨g, 0, none⟩ (.string (s.extract n s.size)) := by
  obtain ⟨c0, c1, f0, f1, hl⟩ := cell2 h
  have q1 := cut_h s n hn
  have q2 := cut_l s n hn
  clear h
  generalize s.extract 0 n = A at *
  generalize s.extract n s.size = B at *
  go_enter Tryz.func38, Tryz.ntmps38
  go_wp2_with fail
  go_ret
  exact ⟨rfl, rfl⟩
theorem valF_step (s : ByteArray) (k : Nat) (h : k < s.size) : valF 0 ((ls s).take (k + 1)) = valF 0 ((ls s).take k) * 10 + (s[k].toNat - 48) := by
  rw [take_one s k h, getD_at s k h, valF_app, valF_cons, valF_nil]
theorem allD_at (s : ByteArray) (h : allD (ls s) = true) (k : Nat) (hk : k < s.size) : 48 ≤ s[k].toNat ∧ s[k].toNat ≤ 57 := by
  cases hd : dgB s[k].toNat
  · have := allD_false s k hk hd; rw [show allD s.data.toList = true from h] at this; cases this
  · exact (dgB_iff _).1 hd
set_option maxHeartbeats 1000000 in
theorem rnumber_any (s : ByteArray) (h : allD (ls s) = true) (hs : s.size ≤ 15) (w : World) : Calls Tryz.prog 37 #[.string s] w fun e w' => e = .returned (.int .i64 ((valF 0 (ls s) : Nat) : Int)) ∧ w' = w := by
  have HS := Lib.hid (valF_step s)
  have HA := Lib.hid (allD_at s h)
  have HB : Hid (∀ k, k ≤ s.size → valF 0 ((ls s).take k) < 10 ^ 15) := Lib.hid (fun k hk => by
    have := valF_lt _ (allD_tk h k)
    exact Nat.lt_of_lt_of_le this (Nat.pow_le_pow_right (by omega) (by rw [List.length_take]; omega)))
  have HE : Hid ((ls s).take s.size = ls s) := Lib.hid (List.take_of_length_le (by rw [← ls_size]; exact Nat.le_refl _))
  obtain ⟨V, hV⟩ : ∃ V : Nat → Nat, V = fun k => valF 0 ((ls s).take k) := ⟨_, rfl⟩
  have HV : Hid (∀ k, V k = valF 0 ((ls s).take k)) := Lib.hid (fun k => by rw [hV])
  have HR : Hid (valF 0 (ls s) = V s.size) := Lib.hid (by rw [HV.out, HE.out])
  rw [HR.out]
  have hsi : (s.size : Int) ≤ 15 := by omega
  clear hV h
  go_enter Tryz.func37, Tryz.ntmps37
  go_wp2_with fail
  go_loop [3, 4] (fun x y => ∃ (k : Nat), k ≤ s.size ∧ x = .int .i64 (V k : Nat) ∧ y = .int .i64 k) (fun _ y => s.size - (intOf y).toNat)
  case atStart => exact ⟨0, Nat.zero_le _, by rw [HV.out]; rfl, rfl⟩
  case round =>
    obtain ⟨k, hk, rfl, rfl⟩ := hrel
    by_cases hlt : k < s.size
    · have hlt' : (k : Int) < (s.size : Int) := by omega
      have hst := HS.out k hlt
      rw [← HV.out, ← HV.out] at hst
      have hb := HB.out k hk
      rw [← HV.out] at hb
      obtain ⟨d1, d2⟩ := HA.out k hlt
      have hx := idx_at s k hlt
      generalize s[k].toNat = c at *
      have HST := Lib.hid hst
      obtain ⟨v, hv⟩ : ∃ v : Int, v = (V k : Nat) := ⟨_, rfl⟩
      rw [← hv]
      obtain ⟨u, hu⟩ : ∃ u : Int, u = (V (k + 1) : Nat) := ⟨_, rfl⟩
      obtain ⟨q, hq⟩ : ∃ q : Int, (c : Int) - 48 = q := ⟨_, rfl⟩
      obtain ⟨p, hp⟩ : ∃ p : Int, v * 10 = p := ⟨_, rfl⟩
      have hpq : p + q = u := by omega
      have hv0 : 0 ≤ v := by omega
      have hv1 : v < 1000000000000000 := by omega
      have hp0 : 0 ≤ p := by omega
      have hp1 : p < 10000000000000000 := by omega
      have hq0 : 0 ≤ q := by omega
      have hq1 : q ≤ 9 := by omega
      have HU := Lib.hid hu
      clear hst hb d1 d2 hv hu
      go_wp2_with fail
      go_round
      case rel => exact ⟨k + 1, by omega, by first | rw [← HU.out] | rw [HU.out], by go_num⟩
      case measure => simp [intOf]; omega
    · have hge : ¬ (k : Int) < (s.size : Int) := by omega
      obtain rfl : k = s.size := by omega
      go_wp2_with fail
      go_ret
      exact ⟨rfl, rfl⟩
end Go.Proofs.YtknipjjmpdnomaaGreatDoor
