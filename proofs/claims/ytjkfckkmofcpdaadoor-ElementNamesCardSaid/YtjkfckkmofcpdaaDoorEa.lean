/- IsHex; the least length; the kinds. -/
import Derived.Test.YtjkfckkmofcpdaaDoorC
import Derived.Test.YtjkfckkmofcpdaaDoorDc
set_option linter.unusedVariables false
set_option linter.unusedSimpArgs false
namespace Go.Proofs.YtjkfckkmofcpdaaDoor
open Go.Sort Go.ChangeShapes Go.WideShapes Go.ChangeAt Go.RowKit
def hxC (c : UInt8) : Bool := dgB c.toNat || (decide (97 ≤ c.toNat) && decide (c.toNat ≤ 102))
def hxL (l : List UInt8) : Bool := l.all hxC
theorem hxL_take (s : ByteArray) (k : Nat) (h : k < s.size) : hxL ((ls s).take (k + 1)) = (hxL ((ls s).take k) && hxC s[k]) := by
  rw [take_one s k h, getD_at s k h]
  unfold hxL
  rw [List.all_append]
  simp
theorem hxL_false (s : ByteArray) (k : Nat) (h : k < s.size) (hb : hxC s[k] = false) : hxL (ls s) = false := by
  unfold hxL
  rw [List.all_eq_false]
  exact ⟨s[k], by rw [← getD_at s k h, List.getD_eq_getElem?_getD, List.getElem?_eq_getElem (by rw [← ls_size]; exact h)]; exact List.getElem_mem _, by rw [hb]; decide⟩
set_option maxHeartbeats 1000000 in
theorem ishex_any (s : ByteArray) (hs : s.size ≤ 2000) (w : World) : Calls Tryd.prog 47 #[.string s] w fun e w' => e = .returned (.bool (hxL (ls s))) ∧ w' = w := by
  have HF := Lib.hid (hxL_false s)
  have HT := Lib.hid (hxL_take s)
  have HC : Hid (∀ c, hxC c = (dgB c.toNat || (decide (97 ≤ c.toNat) && decide (c.toNat ≤ 102)))) := Lib.hid (fun c => rfl)
  have HD := Lib.hid (fun (c : Nat) w => isdigit_any c w)
  obtain ⟨B, hB⟩ : ∃ B, B = hxL (ls s) := ⟨_, rfl⟩
  rw [← hB]
  have HB := Lib.hid hB
  have hsi : (s.size : Int) ≤ 2000 := by omega
  clear hB
  go_enter Tryd.func47, Tryd.ntmps47
  go_wp2_with fail
  go_loopw [6] (fun y wr => wr = w ∧ ∃ (k : Nat), k ≤ s.size ∧ y = .int .i64 k ∧ Hid (hxL ((ls s).take k) = true)) (fun y _ => s.size - (intOf y).toNat)
  case atStart => exact ⟨rfl, 0, Nat.zero_le _, rfl, Lib.hid rfl⟩
  case round =>
    obtain ⟨rfl, k, hk, rfl, hA⟩ := hrel
    by_cases hlt : k < s.size
    · have hlt' : (k : Int) < (s.size : Int) := by omega
      have hc := HC.out s[k]
      have ht := HT.out k hlt
      rw [hA.out, Bool.true_and] at ht
      have hix := idx_at s k hlt
      have HD1 := Lib.hid (fun w => HD.out s[k].toNat w)
      have HFk := Lib.hid (HF.out k hlt)
      generalize s[k] = c at *
      have HT1 := Lib.hid ht
      by_cases h0 : dgB c.toNat = true
      · simp only [h0] at HD1
        have HA2 := Lib.hid (show hxL ((ls s).take (k + 1)) = true by rw [ht, hc, h0]; rfl)
        clear hc ht h0
        generalize c.toNat = v at *
        go_wp2_with fail
        refine (HD1.out _).mono ?_
        rintro e w1 ⟨rfl, rfl⟩
        go_wp2_with fail
        go_roundw
        case rel => exact ⟨by trivial, k + 1, by omega, by go_num, HA2⟩
        case measure => simp [intOf]; omega
      · have h0' : dgB c.toNat = false := by simpa using h0
        simp only [h0'] at HD1
        rw [h0', Bool.false_or] at hc
        by_cases h1 : 97 ≤ c.toNat
        · by_cases h2 : c.toNat ≤ 102
          · have HA2 := Lib.hid (show hxL ((ls s).take (k + 1)) = true by rw [ht, hc, decide_eq_true h1, decide_eq_true h2]; rfl)
            have d1 : decide ((c.toNat : Int) < 97) = false := decide_eq_false (by omega)
            have d2 : decide (102 < (c.toNat : Int)) = false := decide_eq_false (by omega)
            have d3 : ¬ c.toNat < 97 := by omega
            have d4 : ¬ 102 < c.toNat := by omega
            clear hc ht h0 h0' h1 h2
            generalize c.toNat = v at *
            go_wp2_with fail
            refine (HD1.out _).mono ?_
            rintro e w1 ⟨rfl, rfl⟩
            go_wp2_with fail
            go_roundw
            case rel => exact ⟨by trivial, k + 1, by omega, by go_num, HA2⟩
            case measure => simp [intOf]; omega
          · have HX := Lib.hid (HFk.out (by rw [hc, decide_eq_true h1, decide_eq_false h2]; rfl))
            have d1 : decide ((c.toNat : Int) < 97) = false := decide_eq_false (by omega)
            have d2 : decide (102 < (c.toNat : Int)) = true := decide_eq_true (by omega)
            have d3 : ¬ c.toNat < 97 := by omega
            have d4 : 102 < c.toNat := by omega
            clear hc ht h0 h0' h1 h2
            generalize c.toNat = v at *
            go_wp2_with fail
            refine (HD1.out _).mono ?_
            rintro e w1 ⟨rfl, rfl⟩
            go_wp2_with fail
            go_ret
            exact ⟨by rw [HB.out, HX.out]; rfl, rfl⟩
        · have HX := Lib.hid (HFk.out (by rw [hc, decide_eq_false h1]; rfl))
          have d1 : decide ((c.toNat : Int) < 97) = true := decide_eq_true (by omega)
          have d3 : c.toNat < 97 := by omega
          clear hc ht h0 h0' h1
          generalize c.toNat = v at *
          go_wp2_with fail
          refine (HD1.out _).mono ?_
          rintro e w1 ⟨rfl, rfl⟩
          go_wp2_with fail
          go_ret
          exact ⟨by rw [HB.out, HX.out]; rfl, rfl⟩
    · have hge : ¬ (k : Int) < (s.size : Int) := by omega
      obtain rfl : k = s.size := by omega
      have ha := hA.out
      rw [List.take_of_length_le (by rw [← ls_size]; exact Nat.le_refl _)] at ha
      have HX := Lib.hid ha
      clear ha
      go_wp2_with fail
      go_ret
      exact ⟨by rw [HB.out, HX.out]; rfl, rfl⟩
def shV (n l v : Int) : Int := if 0 < v ∨ n = 41 then 1 else l
theorem shortest_any (n : Int) (m : ByteArray) (k l v : Int) (w : World) : Calls Tryd.prog 30 #[.agg #[.int .i64 n, .string m, .int .i64 k, .int .i64 l, .int .i64 v]] w fun e w' => e = .returned (.int .i64 (shV n l v)) ∧ Below w.heap.size w w' := by
  unfold shV
  by_cases h1 : 0 < v
  · rw [if_pos (.inl h1)]
    have c1 : decide (0 < v) = true := decide_eq_true h1
    go_enter Tryd.func30, Tryd.ntmps30
    go_wp2_with fail
    go_ret
    exact ⟨rfl, (Below.refl _ _).alloc (Nat.le_refl _) _⟩
  · have c1 : decide (0 < v) = false := decide_eq_false h1
    by_cases h2 : n = 41
    · rw [if_pos (.inr h2)]
      subst h2
      go_enter Tryd.func30, Tryd.ntmps30
      go_wp2_with fail
      go_ret
      exact ⟨rfl, (Below.refl _ _).alloc (Nat.le_refl _) _⟩
    · rw [if_neg (by rintro (h | h); exact h1 h; exact h2 h)]
      have c2 : (n == 41) = false := beq_eq_false_iff_ne.2 h2
      go_enter Tryd.func30, Tryd.ntmps30
      go_wp2_with fail
      go_ret
      exact ⟨rfl, (Below.refl _ _).alloc (Nat.le_refl _) _⟩
def trB (s : ByteArray) : ByteArray := ⟨(Lib.trimB s.data.toList 32).toArray⟩
def kindB (k : Int) (s : ByteArray) : Bool := if k = 1 then isD s else if k = 3 then hxL (ls s) else prn (ls s) && ((trB s).toList == s.toList)
theorem kind_any (s : ByteArray) (k : Int) (hs : s.size ≤ 2000) (w : World) : Calls Tryd.prog 31 #[.string s, .int .i64 k] w fun e w' => e = .returned (.bool (kindB k s)) ∧ Below w.heap.size w w' := by
  have HD := Lib.hid (fun w => isdigits_any s w (by unfold maxLen; omega))
  have HH := Lib.hid (fun w => ishex_any s hs w)
  have HP := Lib.hid (fun w => isprint_any s hs w)
  have HTr := Lib.hid (fun w => Tryd.strings_Trim_one s 32 (by decide) w (by omega))
  unfold kindB
  by_cases h1 : k = 1
  · rw [if_pos h1]
    subst h1
    generalize isD s = B at *
    go_enter Tryd.func31, Tryd.ntmps31
    go_wp2_with fail
    refine (HD.out _).mono ?_
    rintro e w1 ⟨rfl, rfl⟩
    go_wp2_with fail
    go_ret
    exact ⟨rfl, Below.refl _ _⟩
  rw [if_neg h1]
  have c1 : (k == 1) = false := beq_eq_false_iff_ne.2 h1
  by_cases h3 : k = 3
  · rw [if_pos h3]
    subst h3
    generalize hxL (ls s) = B at *
    go_enter Tryd.func31, Tryd.ntmps31
    go_wp2_with fail
    refine (HH.out _).mono ?_
    rintro e w1 ⟨rfl, rfl⟩
    go_wp2_with fail
    go_ret
    exact ⟨rfl, Below.refl _ _⟩
  rw [if_neg h3]
  have c3 : (k == 3) = false := beq_eq_false_iff_ne.2 h3
  have HT2 : Hid (∀ w, Calls Tryd.prog 49 #[.string s, .string ⟨#[32]⟩] w fun e w' => e = .returned (.string (trB s)) ∧ Below w.heap.size w w') := Lib.hid (fun w => (HTr.out w).mono fun e w' ⟨he, hw⟩ => ⟨he, by rcases hw with rfl | rfl; exact Below.refl _ _; exact (Below.refl _ _).drew⟩)
  clear HTr HD HH h1 h3
  generalize trB s = Q at *
  cases hB : prn (ls s)
  · simp only [hB] at HP
    rw [Bool.false_and]
    go_enter Tryd.func31, Tryd.ntmps31
    go_wp2_with fail
    refine (HP.out _).mono ?_
    rintro e w1 ⟨rfl, rfl⟩
    go_wp2_with fail
    go_ret
    exact ⟨rfl, Below.refl _ _⟩
  · simp only [hB] at HP
    rw [Bool.true_and]
    generalize hq : (Q.toList == s.toList) = D
    cases D
    all_goals
      go_enter Tryd.func31, Tryd.ntmps31
      go_wp2_with fail
      refine (HP.out _).mono ?_
      rintro e w1 ⟨rfl, rfl⟩
      go_wp2_with fail
      refine (HT2.out _).mono ?_
      rintro e w2 ⟨rfl, hb⟩
      have HB2 := Lib.hid hb
      clear hb
      go_wp2_with fail
      go_ret
      exact ⟨rfl, HB2.out⟩
end Go.Proofs.YtjkfckkmofcpdaaDoor
