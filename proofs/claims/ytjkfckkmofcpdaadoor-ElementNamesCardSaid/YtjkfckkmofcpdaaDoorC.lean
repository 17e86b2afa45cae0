/- Num, Var of the program; IsPrintable; Alpha. -/
import Derived.Test.YtjkfckkmofcpdaaDoorA
set_option linter.unusedVariables false
set_option linter.unusedSimpArgs false
namespace Go.Proofs.YtjkfckkmofcpdaaDoor
open Go.Sort Go.ChangeShapes Go.WideShapes Go.ChangeAt Go.RowKit
def prC (c : UInt8) : Bool := decide (32 ≤ c.toNat) && decide (c.toNat ≤ 126)
def prn (l : List UInt8) : Bool := l.all prC
theorem prn_take (s : ByteArray) (k : Nat) (h : k < s.size) : prn ((ls s).take (k + 1)) = (prn ((ls s).take k) && prC s[k]) := by
  rw [take_one s k h, getD_at s k h]
  unfold prn
  rw [List.all_append]
  simp
theorem prn_false (s : ByteArray) (k : Nat) (h : k < s.size) (hb : prC s[k] = false) : prn (ls s) = false := by
  unfold prn
  rw [List.all_eq_false]
  exact ⟨s[k], by rw [← getD_at s k h, List.getD_eq_getElem?_getD, List.getElem?_eq_getElem (by rw [← ls_size]; exact h)]; exact List.getElem_mem _, by rw [hb]; simp⟩
set_option maxHeartbeats 1000000 in
theorem isprint_any (s : ByteArray) (hs : s.size ≤ 2000) (w : World) : Calls Tryd.prog 48 #[.string s] w fun e w' => e = .returned (.bool (prn (ls s))) ∧ w' = w := by
  have HF := Lib.hid (prn_false s)
  have HT := Lib.hid (prn_take s)
  have HC : Hid (∀ c, prC c = (decide (32 ≤ c.toNat) && decide (c.toNat ≤ 126))) := Lib.hid (fun c => rfl)
  obtain ⟨B, hB⟩ : ∃ B, B = prn (ls s) := ⟨_, rfl⟩
  rw [← hB]
  have HB := Lib.hid hB
  have hsi : (s.size : Int) ≤ 2000 := by omega
  clear hB
  go_enter Tryd.func48, Tryd.ntmps48
  go_wp2_with fail
  go_loop [6] (fun y => ∃ (k : Nat), k ≤ s.size ∧ y = .int .i64 k ∧ Hid (prn ((ls s).take k) = true)) (fun y => s.size - (intOf y).toNat)
  case atStart => exact ⟨0, Nat.zero_le _, rfl, Lib.hid rfl⟩
  case round =>
    obtain ⟨k, hk, rfl, hA⟩ := hrel
    by_cases hlt : k < s.size
    · have hlt' : (k : Int) < (s.size : Int) := by omega
      have hc := HC.out s[k]
      have ht := HT.out k hlt
      rw [hA.out, Bool.true_and] at ht
      by_cases h1 : 32 ≤ s[k].toNat
      · by_cases h2 : s[k].toNat ≤ 126
        · rw [decide_eq_true h1, decide_eq_true h2] at hc
          rw [hc] at ht
          have HA := Lib.hid ht
          obtain ⟨v, hv⟩ : ∃ v : Int, (s[k].toNat : Int) = v := ⟨_, rfl⟩
          have d1 : decide (v < 32) = false := decide_eq_false (by omega)
          have d2 : decide (126 < v) = false := decide_eq_false (by omega)
          clear hc ht h1 h2
          go_wp2_with fail
          go_round
          case rel => exact ⟨k + 1, by omega, by go_num, HA⟩
          case measure => simp [intOf]; omega
        · rw [decide_eq_true h1, decide_eq_false h2] at hc
          have HX := Lib.hid (HF.out k hlt hc)
          obtain ⟨v, hv⟩ : ∃ v : Int, (s[k].toNat : Int) = v := ⟨_, rfl⟩
          have d1 : decide (v < 32) = false := decide_eq_false (by omega)
          have d2 : decide (126 < v) = true := decide_eq_true (by omega)
          clear hc ht h1 h2
          go_wp2_with fail
          go_ret
          exact ⟨by rw [HB.out, HX.out]; rfl, rfl⟩
      · rw [decide_eq_false h1, Bool.false_and] at hc
        have HX := Lib.hid (HF.out k hlt hc)
        obtain ⟨v, hv⟩ : ∃ v : Int, (s[k].toNat : Int) = v := ⟨_, rfl⟩
        have d1 : decide (v < 32) = true := decide_eq_true (by omega)
        clear hc ht h1
        go_wp2_with fail
        go_ret
        exact ⟨by rw [HB.out, HX.out]; rfl, rfl⟩
    · have hge : ¬ (k : Int) < (s.size : Int) := by omega
      obtain rfl : k = s.size := by omega
      have ha := hA.out
      rw [List.take_of_length_le (by rw [← ls_size]; exact Nat.le_refl _)] at ha
      have HX := Lib.hid ha
      clear ha
      go_wp2_with fail
      go_ret
      exact ⟨by rw [HB.out, HX.out]; rfl, rfl⟩
/- Alpha -/
theorem rep_sp (n : Nat) : Lib.repeatL (⟨#[32]⟩ : ByteArray).data.toList n = List.replicate n 32 := by
  induction n with
  | zero => rfl
  | succ n ih => rw [List.replicate_succ, ← ih]; rfl
theorem sp_call (n : Nat) (hn : n ≤ 2000) (w : World) : Calls Tryd.prog 28 #[.string ⟨#[32]⟩, .int .i64 n] w fun e w' => e = .returned (.string (bst (List.replicate n 32))) ∧ Below w.heap.size w w' := by
  rw [← rep_sp]
  exact Tryd.strings_Repeat ⟨#[32]⟩ n w (by omega) (by rw [show (⟨#[32]⟩ : ByteArray).size = 1 from rfl]; omega)
set_option maxHeartbeats 1000000 in
def vaE (s : ByteArray) (dg : Int) : Int := if dg ≠ 2 ∧ dg ≠ 3 then 4 else if 255 < s.size ∨ (dg = 2 ∧ 99 < s.size) then 3 else 0
def vaV (s : ByteArray) (dg : Int) : ByteArray := if vaE s dg = 0 then bst (dgw dg.toNat s.size) ++ s else ⟨#[]⟩
set_option maxHeartbeats 1000000 in
theorem var_any (s : ByteArray) (dg : Int) (hs : s.size ≤ 2000) (w : World) (hT : TabP w) :
    Calls Tryd.prog 27 #[.string s, .int .i64 dg] w fun e w' => e = .returned (.tuple #[.string (vaV s dg), .int .i64 (vaE s dg)]) ∧ Below w.heap.size w w' := by
  have hsi : (s.size : Int) ≤ 2000 := by omega
  obtain ⟨V, hV⟩ : ∃ V, V = vaV s dg := ⟨_, rfl⟩
  obtain ⟨E, hE⟩ : ∃ E, E = vaE s dg := ⟨_, rfl⟩
  rw [← hV, ← hE]
  unfold vaV at hV
  rw [← hE] at hV
  unfold vaE at hE
  by_cases h1 : dg ≠ 2 ∧ dg ≠ 3
  · rw [if_pos h1] at hE
    subst hE
    rw [if_neg (by omega)] at hV
    subst hV
    have c1 : (dg != 2) = true := by rw [bne_iff_ne]; exact h1.1
    have c2 : (dg != 3) = true := by rw [bne_iff_ne]; exact h1.2
    have c1b : (dg == 2) = false := by rw [beq_eq_false_iff_ne]; exact h1.1
    have c2b : (dg == 3) = false := by rw [beq_eq_false_iff_ne]; exact h1.2
    clear h1 hT
    go_enter Tryd.func27, Tryd.ntmps27
    go_wp2_with fail
    exact bodyPost_ret (v := .tuple #[.string ⟨#[]⟩, .int .i64 4]) (by simp [results, Tryd.results27, go_sem]) rfl ⟨rfl, Below.refl _ _⟩
  rw [if_neg h1] at hE
  by_cases h2 : 255 < s.size
  · rw [if_pos (.inl h2)] at hE
    subst hE
    rw [if_neg (by omega)] at hV
    subst hV
    have c3 : decide (255 < (s.size : Int)) = true := decide_eq_true (by omega)
    have c3b : 255 < s.size := h2
    have h3 : dg = 2 ∨ dg = 3 := by omega
    clear h1 hT
    rcases h3 with rfl | rfl
    · go_enter Tryd.func27, Tryd.ntmps27
      go_wp2_with fail
      exact bodyPost_ret (v := .tuple #[.string ⟨#[]⟩, .int .i64 3]) (by simp [results, Tryd.results27, go_sem]) rfl ⟨rfl, Below.refl _ _⟩
    · go_enter Tryd.func27, Tryd.ntmps27
      go_wp2_with fail
      exact bodyPost_ret (v := .tuple #[.string ⟨#[]⟩, .int .i64 3]) (by simp [results, Tryd.results27, go_sem]) rfl ⟨rfl, Below.refl _ _⟩
  have c3 : decide (255 < (s.size : Int)) = false := decide_eq_false (by omega)
  by_cases h4 : dg = 2
  · subst h4
    by_cases h5 : 99 < s.size
    · rw [if_pos (.inr ⟨rfl, h5⟩)] at hE
      subst hE
      rw [if_neg (by omega)] at hV
      subst hV
      have c4 : decide (99 < (s.size : Int)) = true := decide_eq_true (by omega)
      clear h1 hT h2
      go_enter Tryd.func27, Tryd.ntmps27
      go_wp2_with fail
      exact bodyPost_ret (v := .tuple #[.string ⟨#[]⟩, .int .i64 3]) (by simp [results, Tryd.results27, go_sem]) rfl ⟨rfl, Below.refl _ _⟩
    · rw [if_neg (fun c => c.elim h2 (fun c => h5 c.2))] at hE
      subst hE
      rw [if_pos rfl] at hV
      have c4 : decide (99 < (s.size : Int)) = false := decide_eq_false (by omega)
      have HD := Lib.hid (digits_any s.size (Lib.hid (by omega)) 2 (by omega) w hT)
      rw [pad_fits 2 s.size (by omega) (by omega)] at HD
      have hsz := bst_size (dgw 2 s.size)
      rw [dgw_len] at hsz
      rw [show (2 : Int).toNat = 2 from rfl] at hV
      generalize bst (dgw 2 s.size) = P at *
      have HV := Lib.hid hV
      have hP : P.size ≤ 10 := by omega
      clear h1 hT h2 h5 hV hsz
      go_enter Tryd.func27, Tryd.ntmps27
      go_wp2_with fail
      refine HD.out.mono ?_
      rintro e w1 ⟨rfl, hb1⟩
      have HB1 := Lib.hid hb1
      clear hb1
      go_wp2_with fail
      exact bodyPost_ret (v := .tuple #[.string (P ++ s), .int .i64 0]) (by simp [results, Tryd.results27, go_sem]) rfl ⟨by rw [HV.out], HB1.out⟩
  · obtain rfl : dg = 3 := by omega
    rw [if_neg (fun c => c.elim h2 (fun c => h4 c.1))] at hE
    subst hE
    rw [if_pos rfl] at hV
    have HD := Lib.hid (digits_any s.size (Lib.hid (by omega)) 3 (by omega) w hT)
    rw [pad_fits 3 s.size (by omega) (by omega)] at HD
    have hsz := bst_size (dgw 3 s.size)
    rw [dgw_len] at hsz
    rw [show (3 : Int).toNat = 3 from rfl] at hV
    generalize bst (dgw 3 s.size) = P at *
    have HV := Lib.hid hV
    have hP : P.size ≤ 10 := by omega
    clear h1 hT h2 h4 hV hsz
    go_enter Tryd.func27, Tryd.ntmps27
    go_wp2_with fail
    refine HD.out.mono ?_
    rintro e w1 ⟨rfl, hb1⟩
    have HB1 := Lib.hid hb1
    clear hb1
    go_wp2_with fail
    exact bodyPost_ret (v := .tuple #[.string (P ++ s), .int .i64 0]) (by simp [results, Tryd.results27, go_sem]) rfl ⟨by rw [HV.out], HB1.out⟩
end Go.Proofs.YtjkfckkmofcpdaaDoor
