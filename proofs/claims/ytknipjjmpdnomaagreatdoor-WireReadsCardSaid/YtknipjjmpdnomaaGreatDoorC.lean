/- Num, Var of the program; IsPrintable; Alpha. -/
import Derived.Test.YtknipjjmpdnomaaGreatDoorA
import Derived.Test.YtknipjjmpdnomaaGreatDoorBu
set_option linter.unusedVariables false
set_option linter.unusedSimpArgs false
namespace Go.Proofs.YtknipjjmpdnomaaGreatDoor
open Go.Sort Go.ChangeShapes Go.WideShapes Go.ChangeAt Go.RowKit
def nuBad (n wd : Int) : Bool := decide (wd < 1) || (decide (15 < wd) || (decide (n < 0) || decide (10 ^ wd.toNat ≤ n.toNat)))
def nuE (n wd : Int) : Int := if nuBad n wd = true then 4 else 0
def nuV (n wd : Int) : ByteArray := if nuBad n wd = true then ⟨#[]⟩ else bst (dgw wd.toNat n.toNat)
theorem nu_bad {n wd : Int} (h : nuBad n wd = true) : nuE n wd = 4 ∧ nuV n wd = ⟨#[]⟩ := by unfold nuE nuV; rw [h, if_pos rfl, if_pos rfl]; exact ⟨rfl, rfl⟩
theorem nu_ok {n wd : Int} (h : nuBad n wd = false) : nuE n wd = 0 ∧ nuV n wd = bst (dgw wd.toNat n.toNat) := by unfold nuE nuV; rw [h, if_neg (by simp), if_neg (by simp)]; exact ⟨rfl, rfl⟩
theorem nu_in {n wd : Int} (h : nuBad n wd = false) : 1 ≤ wd ∧ wd ≤ 15 ∧ 0 ≤ n ∧ n.toNat < 10 ^ wd.toNat := by
  unfold nuBad at h
  rw [Bool.or_eq_false_iff, Bool.or_eq_false_iff, Bool.or_eq_false_iff, decide_eq_false_iff_not, decide_eq_false_iff_not, decide_eq_false_iff_not, decide_eq_false_iff_not] at h
  omega
set_option maxHeartbeats 1000000 in
theorem num_any (n wd : Int) (hn : Hid (n ≤ 9223372036854775807)) (w : World) (hT : TabP w) :
    Calls Tryz.prog 21 #[.int .i64 n, .int .i64 wd] w fun e w' => e = .returned (.tuple #[.string (nuV n wd), .int .i64 (nuE n wd)]) ∧ Below w.heap.size w w' := by
  by_cases h1 : wd < 1
  · obtain ⟨e1, e2⟩ := nu_bad (n := n) (show nuBad n wd = true by unfold nuBad; rw [decide_eq_true h1]; rfl)
    rw [e1, e2]
    have c1 : decide (wd < 1) = true := decide_eq_true h1
    clear e1 e2 h1 hT
    go_enter Tryz.func21, Tryz.ntmps21
    go_wp2_with fail
    exact bodyPost_ret (v := .tuple #[.string ⟨#[]⟩, .int .i64 4]) (by simp [results, Tryz.results21, go_sem]) rfl ⟨rfl, Below.refl _ _⟩
  have c1 : decide (wd < 1) = false := decide_eq_false h1
  by_cases h2 : 15 < wd
  · obtain ⟨e1, e2⟩ := nu_bad (n := n) (show nuBad n wd = true by unfold nuBad; rw [decide_eq_true h2]; simp)
    rw [e1, e2]
    have c2 : decide (15 < wd) = true := decide_eq_true h2
    clear e1 e2 h1 h2 hT
    go_enter Tryz.func21, Tryz.ntmps21
    go_wp2_with fail
    exact bodyPost_ret (v := .tuple #[.string ⟨#[]⟩, .int .i64 4]) (by simp [results, Tryz.results21, go_sem]) rfl ⟨rfl, Below.refl _ _⟩
  have c2 : decide (15 < wd) = false := decide_eq_false h2
  by_cases h3 : n < 0
  · obtain ⟨e1, e2⟩ := nu_bad (n := n) (wd := wd) (show nuBad n wd = true by unfold nuBad; rw [decide_eq_true h3]; simp)
    rw [e1, e2]
    have c3 : decide (n < 0) = true := decide_eq_true h3
    clear e1 e2 h1 h2 h3 hT
    go_enter Tryz.func21, Tryz.ntmps21
    go_wp2_with fail
    exact bodyPost_ret (v := .tuple #[.string ⟨#[]⟩, .int .i64 4]) (by simp [results, Tryz.results21, go_sem]) rfl ⟨rfl, Below.refl _ _⟩
  obtain ⟨N, rfl⟩ : ∃ N : Nat, n = N := ⟨n.toNat, by omega⟩
  obtain ⟨W, rfl⟩ : ∃ W : Nat, wd = W := ⟨wd.toNat, by omega⟩
  have hb : nuBad N W = decide (10 ^ W ≤ N) := by
    unfold nuBad
    rw [c1, c2, decide_eq_false h3, Int.toNat_natCast, Int.toNat_natCast]; rfl
  have c3 : decide ((N : Int) < 0) = false := decide_eq_false h3
  have HN := Lib.hid (show N ≤ 9223372036854775807 by have := hn.out; omega)
  have HD := Lib.hid (digits_any N HN W (by omega) w hT)
  have hW : (W : Int) ≤ 15 := by omega
  have hW1 : (1 : Int) ≤ (W : Int) := by omega
  by_cases hf : N < 10 ^ W
  · obtain ⟨e1, e2⟩ := nu_ok (n := N) (wd := W) (by rw [hb]; exact decide_eq_false (by omega))
    rw [e1, e2, Int.toNat_natCast, Int.toNat_natCast]
    rw [pad_fits W N (by omega) hf] at HD
    have hsz := bst_size (dgw W N)
    rw [dgw_len] at hsz
    generalize bst (dgw W N) = S at *
    have c6 : decide ((W : Int) < (S.size : Int)) = false := decide_eq_false (by omega)
    have c6b : ¬ W < S.size := by omega
    clear e1 e2 h1 h2 h3 hT hb hf hsz hn HN
    go_enter Tryz.func21, Tryz.ntmps21
    go_wp2_with fail
    refine HD.out.mono ?_
    rintro e w1 ⟨rfl, hb1⟩
    have HB1 := Lib.hid hb1
    clear hb1
    go_wp2_with fail
    exact bodyPost_ret (v := .tuple #[.string S, .int .i64 0]) (by simp [results, Tryz.results21, go_sem]) rfl ⟨rfl, HB1.out⟩
  · obtain ⟨e1, e2⟩ := nu_bad (n := N) (wd := W) (by rw [hb]; exact decide_eq_true (by omega))
    rw [e1, e2]
    have hsz := bst_size (padL W (Lib.decDigits N))
    have hlong := pad_long W N hf
    generalize padL W (Lib.decDigits N) = L at *
    generalize bst L = S at *
    have c6 : decide ((W : Int) < (S.size : Int)) = true := decide_eq_true (by omega)
    have c6b : W < S.size := by omega
    clear e1 e2 h1 h2 h3 hT hb hf hsz hlong hn HN
    go_enter Tryz.func21, Tryz.ntmps21
    go_wp2_with fail
    refine HD.out.mono ?_
    rintro e w1 ⟨rfl, hb1⟩
    have HB1 := Lib.hid hb1
    clear hb1
    go_wp2_with fail
    exact bodyPost_ret (v := .tuple #[.string ⟨#[]⟩, .int .i64 4]) (by simp [results, Tryz.results21, go_sem]) rfl ⟨rfl, HB1.out⟩
/- printable bytes -/
def prC (c : UInt8) : Bool := decide (32 ≤ c.toNat) && decide (c.toNat ≤ 126)
def prn (l : List UInt8) : Bool := l.all prC
theorem prn_take (s : ByteArray) (k : Nat) (h : k < s.size) : prn ((ls s).take (k + 1)) = (prn ((ls s).take k) && prC s[k]) := by
  rw [take_one s k h, getD_at s k h]
  unfold prn
  rw [List.all_append]
  simp
theorem prn_false (s : ByteArray) (k : Nat) (h : k < s.size) (hb : prC s[k] = false) : prn (ls s) = false := by
  unfold prn
  rw [List.all_eq_false]
  exact ⟨s[k], by rw [← getD_at s k h, List.getD_eq_getElem?_getD, List.getElem?_eq_getElem (by rw [← ls_size]; exact h)]; exact List.getElem_mem _, by rw [hb]; simp⟩
set_option maxHeartbeats 1000000 in
theorem isprint_any (s : ByteArray) (hs : s.size ≤ 2000) (w : World) : Calls Tryz.prog 30 #[.string s] w fun e w' => e = .returned (.bool (prn (ls s))) ∧ w' = w := by
  have HF := Lib.hid (prn_false s)
  have HT := Lib.hid (prn_take s)
  have HC : Hid (∀ c, prC c = (decide (32 ≤ c.toNat) && decide (c.toNat ≤ 126))) := Lib.hid (fun c => rfl)
  obtain ⟨B, hB⟩ : ∃ B, B = prn (ls s) := ⟨_, rfl⟩
  rw [← hB]
  have HB := Lib.hid hB
  have hsi : (s.size : Int) ≤ 2000 := by omega
  clear hB
  go_enter Tryz.func30, Tryz.ntmps30
  go_wp2_with fail
  go_loop [6] (fun y => ∃ (k : Nat), k ≤ s.size ∧ y = .int .i64 k ∧ Hid (prn ((ls s).take k) = true)) (fun y => s.size - (intOf y).toNat)
  case atStart => exact ⟨0, Nat.zero_le _, rfl, Lib.hid rfl⟩
  case round =>
    obtain ⟨k, hk, rfl, hA⟩ := hrel
    by_cases hlt : k < s.size
    · have hlt' : (k : Int) < (s.size : Int) := by omega
      have hc := HC.out s[k]
      have ht := HT.out k hlt
      rw [hA.out, Bool.true_and] at ht
      by_cases h1 : 32 ≤ s[k].toNat
      · by_cases h2 : s[k].toNat ≤ 126
        · rw [decide_eq_true h1, decide_eq_true h2] at hc
          rw [hc] at ht
          have HA := Lib.hid ht
          obtain ⟨v, hv⟩ : ∃ v : Int, (s[k].toNat : Int) = v := ⟨_, rfl⟩
          have d1 : decide (v < 32) = false := decide_eq_false (by omega)
          have d2 : decide (126 < v) = false := decide_eq_false (by omega)
          clear hc ht h1 h2
          go_wp2_with fail
          go_round
          case rel => exact ⟨k + 1, by omega, by go_num, HA⟩
          case measure => simp [intOf]; omega
        · rw [decide_eq_true h1, decide_eq_false h2] at hc
          have HX := Lib.hid (HF.out k hlt hc)
          obtain ⟨v, hv⟩ : ∃ v : Int, (s[k].toNat : Int) = v := ⟨_, rfl⟩
          have d1 : decide (v < 32) = false := decide_eq_false (by omega)
          have d2 : decide (126 < v) = true := decide_eq_true (by omega)
          clear hc ht h1 h2
          go_wp2_with fail
          go_ret
          exact ⟨by rw [HB.out, HX.out]; rfl, rfl⟩
      · rw [decide_eq_false h1, Bool.false_and] at hc
        have HX := Lib.hid (HF.out k hlt hc)
        obtain ⟨v, hv⟩ : ∃ v : Int, (s[k].toNat : Int) = v := ⟨_, rfl⟩
        have d1 : decide (v < 32) = true := decide_eq_true (by omega)
        clear hc ht h1
        go_wp2_with fail
        go_ret
        exact ⟨by rw [HB.out, HX.out]; rfl, rfl⟩
    · have hge : ¬ (k : Int) < (s.size : Int) := by omega
      obtain rfl : k = s.size := by omega
      have ha := hA.out
      rw [List.take_of_length_le (by rw [← ls_size]; exact Nat.le_refl _)] at ha
      have HX := Lib.hid ha
      clear ha
      go_wp2_with fail
      go_ret
      exact ⟨by rw [HB.out, HX.out]; rfl, rfl⟩
/- Alpha -/
def alE (s : ByteArray) (wd : Int) : Int := if wd < 1 ∨ 255 < wd then 4 else if wd < s.size then 3 else if prn (ls s) = false ∨ Lib.hasSuffix (ls s) [32] = true then 2 else 0
def alV (s : ByteArray) (wd : Int) : ByteArray := if alE s wd = 0 then s ++ bst (List.replicate (wd.toNat - s.size) 32) else ⟨#[]⟩
theorem rep_sp (n : Nat) : Lib.repeatL (⟨#[32]⟩ : ByteArray).data.toList n = List.replicate n 32 := by
  induction n with
  | zero => rfl
  | succ n ih => rw [List.replicate_succ, ← ih]; rfl
theorem sp_call (n : Nat) (hn : n ≤ 2000) (w : World) : Calls Tryz.prog 42 #[.string ⟨#[32]⟩, .int .i64 n] w fun e w' => e = .returned (.string (bst (List.replicate n 32))) ∧ Below w.heap.size w w' := by
  rw [← rep_sp]
  exact Tryz.strings_Repeat ⟨#[32]⟩ n w (by omega) (by rw [show (⟨#[32]⟩ : ByteArray).size = 1 from rfl]; omega)
set_option maxHeartbeats 1000000 in
theorem alpha_any (s : ByteArray) (wd : Int) (hs : s.size ≤ 2000) (w : World) :
    Calls Tryz.prog 22 #[.string s, .int .i64 wd] w fun e w' => e = .returned (.tuple #[.string (alV s wd), .int .i64 (alE s wd)]) ∧ Below w.heap.size w w' := by
  have RP := Lib.hid (fun w => isprint_any s hs w)
  have RS := Lib.hid (fun w => Tryz.strings_HasSuffix s ⟨#[32]⟩ w (by omega))
  have RR := Lib.hid (fun n hn w => sp_call n hn w)
  have hsi : (s.size : Int) ≤ 2000 := by omega
  obtain ⟨V, hV⟩ : ∃ V, V = alV s wd := ⟨_, rfl⟩
  obtain ⟨E, hE⟩ : ∃ E, E = alE s wd := ⟨_, rfl⟩
  rw [← hV, ← hE]
  unfold alV at hV
  rw [← hE] at hV
  unfold alE at hE
  by_cases h1 : wd < 1
  · rw [if_pos (.inl h1)] at hE
    subst hE
    rw [if_neg (by omega)] at hV
    subst hV
    have c1 : decide (wd < 1) = true := decide_eq_true h1
    clear h1
    go_enter Tryz.func22, Tryz.ntmps22
    go_wp2_with fail
    exact bodyPost_ret (v := .tuple #[.string ⟨#[]⟩, .int .i64 4]) (by simp [results, Tryz.results22, go_sem]) rfl ⟨rfl, Below.refl _ _⟩
  have c1 : decide (wd < 1) = false := decide_eq_false h1
  by_cases h2 : 255 < wd
  · rw [if_pos (.inr h2)] at hE
    subst hE
    rw [if_neg (by omega)] at hV
    subst hV
    have c2 : decide (255 < wd) = true := decide_eq_true h2
    clear h1 h2
    go_enter Tryz.func22, Tryz.ntmps22
    go_wp2_with fail
    exact bodyPost_ret (v := .tuple #[.string ⟨#[]⟩, .int .i64 4]) (by simp [results, Tryz.results22, go_sem]) rfl ⟨rfl, Below.refl _ _⟩
  have c2 : decide (255 < wd) = false := decide_eq_false h2
  rw [if_neg (by omega)] at hE
  by_cases h3 : wd < s.size
  · rw [if_pos h3] at hE
    subst hE
    rw [if_neg (by omega)] at hV
    subst hV
    have c3 : decide (wd < (s.size : Int)) = true := decide_eq_true h3
    clear h1 h2 h3
    go_enter Tryz.func22, Tryz.ntmps22
    go_wp2_with fail
    exact bodyPost_ret (v := .tuple #[.string ⟨#[]⟩, .int .i64 3]) (by simp [results, Tryz.results22, go_sem]) rfl ⟨rfl, Below.refl _ _⟩
  have c3 : decide (wd < (s.size : Int)) = false := decide_eq_false h3
  rw [if_neg h3] at hE
  cases h4 : prn (ls s)
  · rw [if_pos (.inl h4)] at hE
    subst hE
    rw [if_neg (by omega)] at hV
    subst hV
    rw [h4] at RP
    clear h1 h2 h3 h4
    go_enter Tryz.func22, Tryz.ntmps22
    go_wp2_with (go_at_call 30; refine (RP.out _).mono ?_; rintro e w' ⟨rfl, rfl⟩)
    exact bodyPost_ret (v := .tuple #[.string ⟨#[]⟩, .int .i64 2]) (by simp [results, Tryz.results22, go_sem]) rfl ⟨rfl, Below.refl _ _⟩
  rw [h4] at RP
  cases h5 : Lib.hasSuffix (ls s) [32]
  · rw [if_neg (by rw [h4, h5]; simp)] at hE
    subst hE
    rw [if_pos rfl] at hV
    rw [show Lib.hasSuffix s.data.toList (⟨#[32]⟩ : ByteArray).data.toList = false from h5] at RS
    obtain ⟨W, rfl⟩ : ∃ W : Nat, wd = W := ⟨wd.toNat, by omega⟩
    rw [Int.toNat_natCast] at hV
    have RR2 := Lib.hid (RR.out (W - s.size) (by omega))
    have e1 : (W : Int) - (s.size : Int) = ((W - s.size : Nat) : Int) := by omega
    have hsz := bst_size (List.replicate (W - s.size) (32 : UInt8))
    rw [List.length_replicate] at hsz
    generalize bst (List.replicate (W - s.size) 32) = R at *
    have hR : R.size ≤ 300 := by omega
    have HV := Lib.hid hV
    have hW : (W : Int) ≤ 255 := by omega
    have hW2 : (s.size : Int) ≤ (W : Int) := by omega
    clear h1 h2 h3 h4 h5 hV hsz RR
    generalize W - s.size = d at *
    go_enter Tryz.func22, Tryz.ntmps22
    go_wp2_with (first | (go_at_call 30; (with_reducible refine (RP.out _).mono ?_); rintro e w' ⟨rfl, rfl⟩) | (go_at_call 41; (with_reducible refine (RS.out _).mono ?_); rintro e w' ⟨rfl, rfl⟩))
    refine (RR2.out _).mono ?_
    rintro e w1 ⟨rfl, hb1⟩
    have HB1 := Lib.hid hb1
    clear hb1
    go_wp2_with fail
    exact bodyPost_ret (v := .tuple #[.string (s ++ R), .int .i64 0]) (by simp [results, Tryz.results22, go_sem]) rfl ⟨by rw [HV.out], HB1.out⟩
  · rw [if_pos (.inr h5)] at hE
    subst hE
    rw [if_neg (by omega)] at hV
    subst hV
    rw [show Lib.hasSuffix s.data.toList (⟨#[32]⟩ : ByteArray).data.toList = true from h5] at RS
    clear h1 h2 h3 h4 h5
    go_enter Tryz.func22, Tryz.ntmps22
    go_wp2_with (first | (go_at_call 30; (with_reducible refine (RP.out _).mono ?_); rintro e w' ⟨rfl, rfl⟩) | (go_at_call 41; (with_reducible refine (RS.out _).mono ?_); rintro e w' ⟨rfl, rfl⟩))
    exact bodyPost_ret (v := .tuple #[.string ⟨#[]⟩, .int .i64 2]) (by simp [results, Tryz.results22, go_sem]) rfl ⟨rfl, Below.refl _ _⟩
/- Var -/
def vaE (s : ByteArray) (dg : Int) : Int := if dg ≠ 2 ∧ dg ≠ 3 then 4 else if 255 < s.size ∨ (dg = 2 ∧ 99 < s.size) then 3 else 0
def vaV (s : ByteArray) (dg : Int) : ByteArray := if vaE s dg = 0 then bst (dgw dg.toNat s.size) ++ s else ⟨#[]⟩
set_option maxHeartbeats 1000000 in
theorem var_any (s : ByteArray) (dg : Int) (hs : s.size ≤ 2000) (w : World) (hT : TabP w) :
    Calls Tryz.prog 23 #[.string s, .int .i64 dg] w fun e w' => e = .returned (.tuple #[.string (vaV s dg), .int .i64 (vaE s dg)]) ∧ Below w.heap.size w w' := by
  have hsi : (s.size : Int) ≤ 2000 := by omega
  obtain ⟨V, hV⟩ : ∃ V, V = vaV s dg := ⟨_, rfl⟩
  obtain ⟨E, hE⟩ : ∃ E, E = vaE s dg := ⟨_, rfl⟩
  rw [← hV, ← hE]
  unfold vaV at hV
  rw [← hE] at hV
  unfold vaE at hE
  by_cases h1 : dg ≠ 2 ∧ dg ≠ 3
  · rw [if_pos h1] at hE
    subst hE
    rw [if_neg (by omega)] at hV
    subst hV
    have c1 : (dg != 2) = true := by rw [bne_iff_ne]; exact h1.1
    have c2 : (dg != 3) = true := by rw [bne_iff_ne]; exact h1.2
    have c1b : (dg == 2) = false := by rw [beq_eq_false_iff_ne]; exact h1.1
    have c2b : (dg == 3) = false := by rw [beq_eq_false_iff_ne]; exact h1.2
    clear h1 hT
    go_enter Tryz.func23, Tryz.ntmps23
    go_wp2_with fail
    exact bodyPost_ret (v := .tuple #[.string ⟨#[]⟩, .int .i64 4]) (by simp [results, Tryz.results23, go_sem]) rfl ⟨rfl, Below.refl _ _⟩
  rw [if_neg h1] at hE
  by_cases h2 : 255 < s.size
  · rw [if_pos (.inl h2)] at hE
    subst hE
    rw [if_neg (by omega)] at hV
    subst hV
    have c3 : decide (255 < (s.size : Int)) = true := decide_eq_true (by omega)
    have c3b : 255 < s.size := h2
    have h3 : dg = 2 ∨ dg = 3 := by omega
    clear h1 hT
    rcases h3 with rfl | rfl
    · go_enter Tryz.func23, Tryz.ntmps23
      go_wp2_with fail
      exact bodyPost_ret (v := .tuple #[.string ⟨#[]⟩, .int .i64 3]) (by simp [results, Tryz.results23, go_sem]) rfl ⟨rfl, Below.refl _ _⟩
    · go_enter Tryz.func23, Tryz.ntmps23
      go_wp2_with fail
      exact bodyPost_ret (v := .tuple #[.string ⟨#[]⟩, .int .i64 3]) (by simp [results, Tryz.results23, go_sem]) rfl ⟨rfl, Below.refl _ _⟩
  have c3 : decide (255 < (s.size : Int)) = false := decide_eq_false (by omega)
  by_cases h4 : dg = 2
  · subst h4
    by_cases h5 : 99 < s.size
    · rw [if_pos (.inr ⟨rfl, h5⟩)] at hE
      subst hE
      rw [if_neg (by omega)] at hV
      subst hV
      have c4 : decide (99 < (s.size : Int)) = true := decide_eq_true (by omega)
      clear h1 hT h2
      go_enter Tryz.func23, Tryz.ntmps23
      go_wp2_with fail
      exact bodyPost_ret (v := .tuple #[.string ⟨#[]⟩, .int .i64 3]) (by simp [results, Tryz.results23, go_sem]) rfl ⟨rfl, Below.refl _ _⟩
    · rw [if_neg (fun c => c.elim h2 (fun c => h5 c.2))] at hE
      subst hE
      rw [if_pos rfl] at hV
      have c4 : decide (99 < (s.size : Int)) = false := decide_eq_false (by omega)
      have HD := Lib.hid (digits_any s.size (Lib.hid (by omega)) 2 (by omega) w hT)
      rw [pad_fits 2 s.size (by omega) (by omega)] at HD
      have hsz := bst_size (dgw 2 s.size)
      rw [dgw_len] at hsz
      rw [show (2 : Int).toNat = 2 from rfl] at hV
      generalize bst (dgw 2 s.size) = P at *
      have HV := Lib.hid hV
      have hP : P.size ≤ 10 := by omega
      clear h1 hT h2 h5 hV hsz
      go_enter Tryz.func23, Tryz.ntmps23
      go_wp2_with fail
      refine HD.out.mono ?_
      rintro e w1 ⟨rfl, hb1⟩
      have HB1 := Lib.hid hb1
      clear hb1
      go_wp2_with fail
      exact bodyPost_ret (v := .tuple #[.string (P ++ s), .int .i64 0]) (by simp [results, Tryz.results23, go_sem]) rfl ⟨by rw [HV.out], HB1.out⟩
  · obtain rfl : dg = 3 := by omega
    rw [if_neg (fun c => c.elim h2 (fun c => h4 c.1))] at hE
    subst hE
    rw [if_pos rfl] at hV
    have HD := Lib.hid (digits_any s.size (Lib.hid (by omega)) 3 (by omega) w hT)
    rw [pad_fits 3 s.size (by omega) (by omega)] at HD
    have hsz := bst_size (dgw 3 s.size)
    rw [dgw_len] at hsz
    rw [show (3 : Int).toNat = 3 from rfl] at hV
    generalize bst (dgw 3 s.size) = P at *
    have HV := Lib.hid hV
    have hP : P.size ≤ 10 := by omega
    clear h1 hT h2 h4 hV hsz
    go_enter Tryz.func23, Tryz.ntmps23
    go_wp2_with fail
    refine HD.out.mono ?_
    rintro e w1 ⟨rfl, hb1⟩
    have HB1 := Lib.hid hb1
    clear hb1
    go_wp2_with fail
    exact bodyPost_ret (v := .tuple #[.string (P ++ s), .int .i64 0]) (by simp [results, Tryz.results23, go_sem]) rfl ⟨by rw [HV.out], HB1.out⟩
end Go.Proofs.YtknipjjmpdnomaaGreatDoor
