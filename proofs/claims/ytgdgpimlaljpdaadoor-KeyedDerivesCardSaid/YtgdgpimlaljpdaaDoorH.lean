/- IsHex; ParseUint at base 16. -/
import Derived.Test.YtgdgpimlaljpdaaDoorD
import Derived.Lib.ConvBytes
set_option linter.unusedVariables false
set_option linter.unusedSimpArgs false
namespace Go.Proofs.YtgdgpimlaljpdaaDoor
open Go.Sort Go.ChangeShapes Go.WideShapes Go.ChangeAt Go.RowKit
/-- a decimal digit; a digit of base 16 -/
def dg (c : Nat) : Bool := decide (48 ≤ c) && decide (c ≤ 57)
def hx (c : Nat) : Bool := dg c || (decide (97 ≤ c) && decide (c ≤ 102))
def hv (c : Nat) : Nat := if c ≤ 57 then c - 48 else c - 87
def allH (l : List UInt8) : Bool := l.all fun c => hx c.toNat
def valH (l : List UInt8) : Nat := l.foldl (fun n c => n * 16 + hv c.toNat) 0
theorem isdigit_any (c : Nat) (w : World) : Calls Tryd.prog 39 #[.int .u8 c] w fun e w' => e = .returned (.bool (dg c)) ∧ w' = w := by
  unfold dg
  by_cases h1 : 48 ≤ c
  · by_cases h2 : c ≤ 57
    · rw [decide_eq_true h1, decide_eq_true h2]
      have g1 : decide ((48 : Int) ≤ (c : Int)) = true := decide_eq_true (by omega)
      have g2 : decide ((c : Int) ≤ 57) = true := decide_eq_true (by omega)
      clear h1 h2
      go_enter Tryd.func39, Tryd.ntmps39
      go_wp2_with fail
      go_ret
      exact ⟨rfl, rfl⟩
    · rw [decide_eq_true h1, decide_eq_false h2]
      have g1 : decide ((48 : Int) ≤ (c : Int)) = true := decide_eq_true (by omega)
      have g2 : decide ((c : Int) ≤ 57) = false := decide_eq_false (by omega)
      clear h1 h2
      go_enter Tryd.func39, Tryd.ntmps39
      go_wp2_with fail
      go_ret
      exact ⟨rfl, rfl⟩
  · rw [decide_eq_false h1, Bool.false_and]
    have g1 : decide ((48 : Int) ≤ (c : Int)) = false := decide_eq_false (by omega)
    clear h1
    go_enter Tryd.func39, Tryd.ntmps39
    go_wp2_with fail
    go_ret
    exact ⟨rfl, rfl⟩
theorem allH_take (s : ByteArray) (k : Nat) (h : k < s.size) : allH (s.data.toList.take (k + 1)) = (allH (s.data.toList.take k) && hx s[k].toNat) := by
  have e : s.data.toList.take (k + 1) = s.data.toList.take k ++ [s[k]] := by
    rw [List.take_succ_eq_append_getElem (by simpa using h)]; rfl
  rw [e]
  simp [allH, List.all_append]
theorem allH_false (s : ByteArray) (k : Nat) (h : k < s.size) (hb : hx s[k].toNat = false) : allH s.data.toList = false := by
  rw [← List.take_append_drop (k + 1) s.data.toList]
  unfold allH
  rw [List.all_append]
  have := allH_take s k h
  rw [hb, Bool.and_false] at this
  unfold allH at this
  rw [this, Bool.false_and]
set_option maxHeartbeats 400000 in
theorem ishex_any (s : ByteArray) (w : World) (hs : s.size ≤ maxLen) : Calls Tryd.prog 27 #[.string s] w fun e w' => e = .returned (.bool (allH s.data.toList)) ∧ w' = w := by
  unfold maxLen at hs
  have hs' : (s.size : Int) ≤ 9223372036854775807 := by omega
  go_enter Tryd.func27, Tryd.ntmps27
  go_wp2_with fail
  go_loop [6] (fun i => ∃ k : Nat, k ≤ s.size ∧ i = .int .i64 k ∧ Hid (allH (s.data.toList.take k) = true)) (fun i => s.size - (intOf i).toNat)
  case atStart => exact ⟨0, Nat.zero_le _, rfl, Lib.hid rfl⟩
  case round =>
    obtain ⟨k, hk, rfl, hA⟩ := hrel
    by_cases hlt : k < s.size
    · have ht := allH_take s k hlt
      have hf := allH_false s k hlt
      rw [hA.out, Bool.true_and] at ht
      have HD := Lib.hid (isdigit_any s[k].toNat)
      have hlt' : (k : Int) < (s.size : Int) := by omega
      have hge' : 0 ≤ (k : Int) := by omega
      have HT := Lib.hid ht
      have HFn := Lib.hid hf
      clear ht hf
      cases hd : dg s[k].toNat
      · have HD0 := HD.out
        rw [hd] at HD0
        have HDD := Lib.hid HD0
        clear HD0 HD
        by_cases h97 : 97 ≤ s[k].toNat
        · have g1 : decide ((s[k].toNat : Int) < 97) = false := decide_eq_false (by omega)
          by_cases h102 : s[k].toNat ≤ 102
          · have g2 : decide (102 < (s[k].toNat : Int)) = false := decide_eq_false (by omega)
            have hyes : hx s[k].toNat = true := by unfold hx; rw [hd, decide_eq_true h97, decide_eq_true h102]; rfl
            have HY := Lib.hid (HT.out.trans hyes)
            clear hyes hd h97 h102
            go_wp2_with (go_at_call 39; refine (HDD.out _).mono ?_; rintro e w' ⟨rfl, rfl⟩)
            go_round
            case rel => exact ⟨k + 1, by omega, by go_num, Lib.hid HY.out⟩
            case measure => simp [intOf]; omega
          · have g2 : decide (102 < (s[k].toNat : Int)) = true := decide_eq_true (by omega)
            have hno : hx s[k].toNat = false := by unfold hx; rw [hd, decide_eq_true h97, decide_eq_false h102]; rfl
            have HN := Lib.hid (HFn.out hno)
            clear hno hd h97 h102
            go_wp2_with (go_at_call 39; refine (HDD.out _).mono ?_; rintro e w' ⟨rfl, rfl⟩)
            go_ret
            exact ⟨by rw [HN.out]; rfl, rfl⟩
        · have g1 : decide ((s[k].toNat : Int) < 97) = true := decide_eq_true (by omega)
          have hno : hx s[k].toNat = false := by unfold hx; rw [hd, decide_eq_false h97]; rfl
          have HN := Lib.hid (HFn.out hno)
          clear hno hd h97
          go_wp2_with (go_at_call 39; refine (HDD.out _).mono ?_; rintro e w' ⟨rfl, rfl⟩)
          go_ret
          exact ⟨by rw [HN.out]; rfl, rfl⟩
      · have HD0 := HD.out
        rw [hd] at HD0
        have HDD := Lib.hid HD0
        have hyes : hx s[k].toNat = true := by unfold hx; rw [hd]; rfl
        have HY := Lib.hid (HT.out.trans hyes)
        clear HD0 HD hyes hd
        go_wp2_with (go_at_call 39; refine (HDD.out _).mono ?_; rintro e w' ⟨rfl, rfl⟩)
        go_round
        case rel => exact ⟨k + 1, by omega, by go_num, Lib.hid HY.out⟩
        case measure => simp [intOf]; omega
    · have hge : ¬ (k : Int) < (s.size : Int) := by omega
      have hall : allH s.data.toList = true := by have := hA.out; rwa [List.take_of_length_le (by simp; omega)] at this
      have HA := Lib.hid hall
      clear hall hA
      go_wp2_with fail
      go_ret
      exact ⟨by rw [HA.out]; rfl, rfl⟩
theorem or32 : ∀ c : Fin 6, bits .or .u8 ((97 + c.val : Nat) : Int) 32 = ((97 + c.val : Nat) : Int) := by decide
theorem lower_any (c : Nat) (h1 : 97 ≤ c) (h2 : c ≤ 102) (w : World) : Calls Tryd.prog 51 #[.int .u8 c] w fun e w' => e = .returned (.int .u8 c) ∧ w' = w := by
  have h := or32 ⟨c - 97, by omega⟩
  simp only at h
  rw [show 97 + (c - 97) = c from by omega] at h
  go_enter Tryd.func51, Tryd.ntmps51
  go_wp2_with fail
  go_ret
  exact ⟨rfl, rfl⟩
theorem valH_take (l : List UInt8) (k : Nat) (h : k < l.length) : valH (l.take (k + 1)) = valH (l.take k) * 16 + hv (l.getD k 0).toNat := by
  have e : l.take (k + 1) = l.take k ++ [l.getD k 0] := by
    rw [List.take_succ_eq_append_getElem h, List.getD_eq_getElem?_getD, List.getElem?_eq_getElem h]; rfl
  rw [e]
  unfold valH
  rw [List.foldl_append]
  rfl
theorem hv_lt (c : Nat) (h : hx c = true) : hv c ≤ 15 := by
  unfold hx dg at h
  unfold hv
  simp only [Bool.or_eq_true, Bool.and_eq_true, decide_eq_true_eq] at h
  split <;> omega
theorem allH_at (l : List UInt8) (k : Nat) (h : k < l.length) (hA : allH l = true) : hx (l.getD k 0).toNat = true := by
  unfold allH at hA
  rw [List.all_eq_true] at hA
  refine hA _ ?_
  rw [List.getD_eq_getElem?_getD, List.getElem?_eq_getElem h]
  exact List.getElem_mem h
theorem valH_lt (l : List UInt8) (hA : allH l = true) (k : Nat) (hk : k ≤ l.length) : valH (l.take k) < 16 ^ k := by
  induction k with
  | zero => simp [valH]
  | succ k ih =>
    have h1 := ih (by omega)
    have h2 := hv_lt _ (allH_at l k (by omega) hA)
    rw [valH_take l k (by omega), Nat.pow_succ]
    omega
theorem conv_s (w : World) (s : ByteArray) (hs : s.size = 16) : ∃ (w1 : World) (cap : Nat), (convert 9 38 (.string s)).run Tryd.prog w = .ok (.slice (some ⟨w.heap.size, 0, none⟩) 16 cap) w1 ∧
    (∀ j, j < 16 → w1.cell? ⟨w.heap.size, j, none⟩ = some (.int .u8 (s.data.toList.getD j 0).toNat)) ∧ Below w.heap.size w w1 := by
  refine ⟨_, _, by have := Lib.run_convert_string_bytes (P := Tryd.prog) w 9 38 5 s Tryd.underlying9 Tryd.underlying38 Tryd.underlying5; rw [hs] at this; exact this, fun j hj => Lib.bytesWorld_cell w 5 s j (by omega), ⟨rfl, rfl, rfl, ?_, fun k hk => Lib.bytesWorld_at_old w 5 s k hk⟩⟩
  rw [Lib.bytesWorld_size]
  omega
set_option maxHeartbeats 2000000 in
set_option maxRecDepth 100000 in
theorem pu_any (s : ByteArray) (w : World) (hs : s.size = 16) (hA : allH s.data.toList = true) :
    Calls Tryd.prog 40 #[.string s, .int .i64 16, .int .i64 64] w fun e w' => e = .returned (.tuple #[.int .u64 (valH s.data.toList : Nat), .nilIface]) ∧ Below w.heap.size w w' := by
  have hl : s.data.toList.length = 16 := (show s.data.toList.length = s.size from Array.length_toList).trans hs
  have hne : s.toList.isEmpty = false := by
    rw [ByteArray.toList_eq]
    cases h : s.data.toList with
    | nil => rw [h] at hl; cases hl
    | cons => rfl
  have hmx : IntKind.u64.wrap (IntKind.u64.wrap 18446744073709551616 - 1) = 18446744073709551615 := by decide
  obtain ⟨w1, cap, hconv, hcell, hB⟩ := conv_s w s hs
  generalize s.data.toList = l at *
  have HA := Lib.hid hA
  have HL := Lib.hid hl
  have HC := Lib.hid hcell
  have HB := Lib.hid hB
  clear hA hs hl hcell hB
  go_enter Tryd.func40, Tryd.ntmps40
  go_wp2_with fail
  go_loop [12, 13, 101] (fun u n i => ∃ (k : Nat) (v : Int), u = .bool false ∧ k ≤ 16 ∧ i = .int .i64 k ∧ n = .int .u64 v ∧ Hid (v = (valH (l.take k) : Nat))) (fun _ _ i => 16 - (intOf i).toNat)
  case atStart => exact ⟨0, 0, rfl, by omega, rfl, rfl, Lib.hid rfl⟩
  case round =>
    obtain ⟨k, v, rfl, hk, rfl, rfl, hv0⟩ := hrel
    by_cases hlt : k < 16
    · have hlt' : (k : Int) < 16 := by omega
      have hge' : 0 ≤ (k : Int) := by omega
      have hcl := HC.out k hlt
      have hxx := allH_at l k (by rw [HL.out]; exact hlt) HA.out
      have hvt := valH_take l k (by rw [HL.out]; exact hlt)
      have hvl := valH_lt l HA.out k (by rw [HL.out]; exact hk)
      have h15 : 16 ^ k ≤ 1152921504606846976 := by
        have : 16 ^ k ≤ 16 ^ 15 := Nat.pow_le_pow_right (by decide) (by omega)
        exact this
      generalize (l.getD k 0).toNat = c at *
      have hvc := hv_lt c hxx
      have hb : hv0.out = hv0.out := rfl
      have v0 : 0 ≤ v := by rw [hv0.out]; omega
      have v1 : v ≤ 1152921504606846975 := by rw [hv0.out]; omega
      obtain ⟨m, hm⟩ : ∃ m, m = v * 16 := ⟨_, rfl⟩
      have m1 : IntKind.u64.wrap (v * 16) = m := by rw [IntKind.wrap_u64]; omega
      obtain ⟨d, hd⟩ : ∃ d : Int, d = (hv c : Nat) := ⟨_, rfl⟩
      obtain ⟨r, hr⟩ : ∃ r, r = m + d := ⟨_, rfl⟩
      have r1 : IntKind.u64.wrap (m + d) = r := by rw [IntKind.wrap_u64]; omega
      have t1 : decide (1152921504606846976 ≤ v) = false := decide_eq_false (by omega)
      have t2 : decide (r < m) = false := decide_eq_false (by omega)
      have t3 : decide (18446744073709551615 < r) = false := decide_eq_false (by omega)
      have t4 : decide (16 ≤ d) = false := decide_eq_false (by omega)
      have t5 : decide (48 ≤ (c : Int)) = true := by unfold hx dg at hxx; simp only [Bool.or_eq_true, Bool.and_eq_true, decide_eq_true_eq] at hxx; exact decide_eq_true (by omega)
      have t6 : ((c : Int) == 95) = false := by unfold hx dg at hxx; simp only [Bool.or_eq_true, Bool.and_eq_true, decide_eq_true_eq] at hxx; exact beq_eq_false_iff_ne.2 (by omega)
      have d0 : 0 ≤ d := by omega
      have d1 : d ≤ 15 := by omega
      have hnext : r = ((valH (l.take (k + 1)) : Nat) : Int) := by rw [hvt, hr, hm, hv0.out, hd]; omega
      have HN := Lib.hid hnext
      by_cases h57 : c ≤ 57
      · have t7 : decide ((c : Int) ≤ 57) = true := decide_eq_true (by omega)
        have t8 : IntKind.u8.wrap ((c : Int) - 48) = d := by
          have : hv c = c - 48 := if_pos h57
          have h48 : 48 ≤ (c : Int) := of_decide_eq_true t5
          rw [hd, this, IntKind.wrap_u8]; omega
        clear hxx hvt hvl h15 hvc hb hm hd hr hnext h57 HC HA HL
        go_wp2_with fail
        go_round
        case rel => exact ⟨k + 1, r, rfl, by omega, by go_num, rfl, Lib.hid HN.out⟩
        case measure => simp [intOf]; omega
      · have hc2 : 97 ≤ c ∧ c ≤ 102 := by unfold hx dg at hxx; simp only [Bool.or_eq_true, Bool.and_eq_true, decide_eq_true_eq] at hxx; omega
        have t7 : decide ((c : Int) ≤ 57) = false := decide_eq_false (by omega)
        have t9 : decide (97 ≤ (c : Int)) = true := decide_eq_true (by omega)
        have ta : decide ((c : Int) ≤ 122) = true := decide_eq_true (by omega)
        obtain ⟨z, hz⟩ : ∃ z : Int, z = c - 97 := ⟨_, rfl⟩
        have tb : IntKind.u8.wrap ((c : Int) - 97) = z := by rw [hz, IntKind.wrap_u8]; omega
        have tc : IntKind.u8.wrap (z + 10) = d := by
          have : hv c = c - 87 := if_neg h57
          rw [hd, this, hz, IntKind.wrap_u8]; omega
        have HW := Lib.hid (lower_any c hc2.1 hc2.2)
        clear hxx hvt hvl h15 hvc hb hm hd hr hnext h57 hc2 hz HC HA HL
        go_wp2_with (go_at_call 51; refine (HW.out _).mono ?_; rintro e w' ⟨rfl, rfl⟩)
        go_round
        case rel => exact ⟨k + 1, r, rfl, by omega, by go_num, rfl, Lib.hid HN.out⟩
        case measure => simp [intOf]; omega
    · have hge : ¬ (k : Int) < 16 := by omega
      have hv1 := hv0.out
      rw [List.take_of_length_le (by rw [HL.out]; omega)] at hv1
      have HV := Lib.hid hv1
      clear hv1 hv0 HC HA HL
      go_wp2_with fail
      go_ret2
      exact ⟨by rw [HV.out]; rfl, HB.out⟩
theorem pub_any (s : ByteArray) (w : World) (hs : s.size = 16) (hA : allH s.data.toList = true) :
    Calls Tryd.prog 28 #[.string s, .int .i64 16, .int .i64 64] w fun e w' => e = .returned (.tuple #[.int .u64 (valH s.data.toList : Nat), .nilIface]) ∧ Below w.heap.size w w' := by
  have HP : Hid (∀ w, _) := Lib.hid (fun w => pu_any s w hs hA)
  generalize valH s.data.toList = v at *
  clear hs hA
  go_enter Tryd.func28, Tryd.ntmps28
  go_wp2_with fail
  refine (HP.out _).mono ?_
  rintro e w1 ⟨rfl, hb⟩
  have HB := Lib.hid hb
  clear hb
  go_wp2_with fail
  go_ret2
  exact ⟨rfl, HB.out⟩
end Go.Proofs.YtgdgpimlaljpdaaDoor
