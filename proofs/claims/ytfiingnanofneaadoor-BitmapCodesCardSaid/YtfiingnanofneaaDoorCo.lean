/- read and hex of the reference. -/
import Derived.Test.YtfiingnanofneaaDoorRt
set_option linter.unusedVariables false
set_option linter.unusedSimpArgs false
namespace Go.Proofs.YtfiingnanofneaaDoor
open Go.Sort Go.ChangeShapes Go.WideShapes Go.ChangeAt Go.RowKit
theorem digit_at : ∀ c : Fin 256, ∀ j : Fin 16, (c.val == (hexc j.val).toNat) = (hx c.val && hv c.val == j.val) := by decide +kernel
theorem hexc_at16 (d : Nat) (hd : d < 16) : ∀ h, (⟨#[48, 49, 50, 51, 52, 53, 54, 55, 56, 57, 97, 98, 99, 100, 101, 102]⟩ : ByteArray)[d]'h = hexc d := by
  have key : ∀ k : Fin 16, (⟨#[48, 49, 50, 51, 52, 53, 54, 55, 56, 57, 97, 98, 99, 100, 101, 102]⟩ : ByteArray)[k.val]'(Nat.lt_of_lt_of_le k.2 (by decide)) = hexc k.val := by decide
  intro h
  exact key ⟨d, hd⟩
/-- the place of a digit among the first j -/
def kd (c j : Nat) : Int := if hx c = true ∧ hv c < j then (hv c : Int) else -1
theorem kd_succ (c j : Nat) (hc : c < 256) (hj : j < 16) : kd c (j + 1) = if (((c : Int) == ((hexc j).toNat : Int))) = true then (j : Int) else kd c j := by
  have h := digit_at ⟨c, hc⟩ ⟨j, hj⟩
  simp only at h
  rw [cast_beq, h]
  unfold kd
  cases hx c
  · simp
  · by_cases h1 : hv c = j
    · simp [h1]
    · have : (hv c == j) = false := beq_eq_false_iff_ne.2 h1
      rw [this]
      by_cases h2 : hv c < j
      · simp [h2, show hv c < j + 1 by omega]
      · simp [h2, show ¬ hv c < j + 1 by omega]
theorem kd_in (c j : Nat) (hj : j ≤ 16) : -1 ≤ kd c j ∧ kd c j ≤ 15 := by
  unfold kd
  split <;> omega
theorem kd_all (c : Nat) : (hx c = true → kd c 16 = hv c) ∧ (hx c = false → kd c 16 = -1) := by
  constructor
  · intro h
    have := hv_lt c h
    unfold kd
    rw [if_pos ⟨h, by omega⟩]
  · intro h
    unfold kd
    rw [if_neg (by rw [h]; simp)]
theorem valH_step (s : ByteArray) (k : Nat) (h : k < s.size) : valH (s.data.toList.take (k + 1)) = valH (s.data.toList.take k) * 16 + hv s[k].toNat := by
  have e : s.data.toList.take (k + 1) = s.data.toList.take k ++ [s[k]] := by
    rw [List.take_succ_eq_append_getElem (by simpa using h)]; rfl
  rw [e, valH_snoc]
set_option maxHeartbeats 2000000 in
set_option maxRecDepth 100000 in
theorem rread_any (s : ByteArray) (w : World) (hs : s.size = 16) :
    Calls Tryd.prog 36 #[.string s] w fun e w' => e = .returned (.tuple #[.int .u64 (if allH s.data.toList = true then valH s.data.toList else 0 : Nat), .bool (allH s.data.toList)]) ∧ Below w.heap.size w w' := by
  have hs16 : (s.size : Int) = 16 := by omega
  have HS := Lib.hid hs
  have hlen : s.data.toList.length = 16 := (show s.data.toList.length = s.size from Array.length_toList).trans hs
  have HL := Lib.hid hlen
  obtain ⟨U, hU⟩ : ∃ U, (if allH s.data.toList = true then valH s.data.toList else 0) = U := ⟨_, rfl⟩
  obtain ⟨B, hB⟩ : ∃ B, allH s.data.toList = B := ⟨_, rfl⟩
  rw [hU, hB]
  have HU := Lib.hid hU
  have HBB := Lib.hid hB
  clear hs hlen hU hB
  go_enter Tryd.func36, Tryd.ntmps36
  go_wp2_with fail
  go_loopw [4, 5] (fun u i wr => ∃ (k m : Nat) (v : Int), k ≤ 16 ∧ i = .int .i64 k ∧ u = .int .u64 v ∧ Hid (v = (valH (s.data.toList.take k) : Nat)) ∧ Hid (allH (s.data.toList.take k) = true) ∧ wr = w.drewN m) (fun _ i _ => 16 - (intOf i).toNat)
  case atStart => exact ⟨0, 0, 0, by omega, rfl, rfl, Lib.hid rfl, Lib.hid rfl, rfl⟩
  case round =>
    obtain ⟨k, m, v, hk, rfl, rfl, hv0, hA, rfl⟩ := hrel
    by_cases hlt : k < 16
    · have hlt' : (k : Int) < 16 := by omega
      have hge' : 0 ≤ (k : Int) := by omega
      have hks : k < s.size := by rw [HS.out]; exact hlt
      have hvs := valH_step s k hks
      have hts := allH_take s k hks
      rw [hA.out, Bool.true_and] at hts
      have hfs := allH_false s k hks
      have hc256 : s[k].toNat < 256 := s[k].toNat_lt
      have HVS := Lib.hid hvs
      have HTS := Lib.hid hts
      have HFS := Lib.hid hfs
      clear hvs hts hfs
      go_wp2_with fail
      go_loopw [6, 7] (fun t6 t7 wr => ∃ (j m' : Nat) (q : Int), j ≤ 16 ∧ t7 = .int .i64 j ∧ t6 = .int .i64 q ∧ Hid (q = kd s[k].toNat j) ∧ wr = w.drewN m') (fun _ t7 _ => 16 - (intOf t7).toNat)
      case atStart => exact ⟨0, m, -1, by omega, rfl, rfl, Lib.hid (by unfold kd; rw [if_neg (by omega)]), rfl⟩
      case round =>
        obtain ⟨j, m', q, hj, rfl, rfl, hq, rfl⟩ := hrel
        by_cases hjl : j < 16
        · have hjl' : (j : Int) < 16 := by omega
          have hjg' : 0 ≤ (j : Int) := by omega
          have hdig := hexc_at16 j hjl
          have hks' : (k : Int) < (s.size : Int) := by omega
          have hkd := kd_succ s[k].toNat j hc256 hjl
          cases htest : ((s[k].toNat : Int) == ((hexc j).toNat : Int))
          · rw [htest, if_neg (by simp)] at hkd
            have HKD := Lib.hid hkd
            clear hkd
            go_wp2_with fail
            go_quiet (fail)
            go_wp2_with fail
            go_roundw
            case rel => exact ⟨j + 1, _, q, by omega, by go_num, rfl, Lib.hid (hq.out.trans HKD.out.symm), rfl⟩
            case measure => simp [intOf]; omega
          · rw [htest, if_pos rfl] at hkd
            have HKD := Lib.hid hkd
            clear hkd
            go_wp2_with fail
            go_quiet (fail)
            go_wp2_with fail
            go_roundw
            case rel => exact ⟨j + 1, _, (j : Int), by omega, by go_num, rfl, Lib.hid HKD.out.symm, rfl⟩
            case measure => simp [intOf]; omega
        · obtain rfl : j = 16 := by omega
          have hge16 : ¬ ((16 : Nat) : Int) < 16 := by decide
          obtain ⟨a1, a2⟩ := kd_all s[k].toNat
          cases hxx : hx s[k].toNat
          · have hq2 : q = -1 := hq.out.trans (a2 hxx)
            have hno := HFS.out hxx
            have hB0 : false = B := hno.symm.trans HBB.out
            have hU0 : 0 = U := by rw [← HU.out, hno]; rfl
            subst hB0 hU0
            have hqneg : q < 0 := by omega
            clear a1 a2 hq hq2 hno hxx HTS HFS HVS HU HBB
            go_wp2_with fail
            go_ret2
            exact ⟨rfl, below_drewN (Below.refl _ _) _⟩
          · have hq2 : q = (hv s[k].toNat : Nat) := hq.out.trans (a1 hxx)
            have hl15 := hv_lt _ hxx
            have hyes := HTS.out.trans hxx
            have hvl : valH (s.data.toList.take k) < 16 ^ k := by
              have hA2 : allH (s.data.toList.take k) = true := hA.out
              have := valH_lt (s.data.toList.take k) hA2 k (by rw [List.length_take, HL.out]; omega)
              rwa [List.take_take, Nat.min_self] at this
            have h15 : 16 ^ k ≤ 1152921504606846976 := by
              have : 16 ^ k ≤ 16 ^ 15 := Nat.pow_le_pow_right (by decide) (by omega)
              exact this
            have v0 : 0 ≤ v := by rw [hv0.out]; omega
            have v1 : v ≤ 1152921504606846975 := by rw [hv0.out]; omega
            obtain ⟨p, hp⟩ : ∃ p, p = v * 16 := ⟨_, rfl⟩
            have p1 : IntKind.u64.wrap (v * 16) = p := by rw [IntKind.wrap_u64]; omega
            obtain ⟨r, hr⟩ : ∃ r, r = p + q := ⟨_, rfl⟩
            have r1 : IntKind.u64.wrap (p + q) = r := by rw [IntKind.wrap_u64]; omega
            have q0 : 0 ≤ q := by omega
            have q1 : q ≤ 15 := by omega
            have hnext : r = ((valH (s.data.toList.take (k + 1)) : Nat) : Int) := by rw [HVS.out, hr, hp, hv0.out, hq2]; omega
            have HNX := Lib.hid hnext
            have HY := Lib.hid hyes
            clear a1 a2 hq hq2 hxx HTS HFS HVS hyes hvl h15 hp hr hnext hl15
            go_wp2_with fail
            go_roundw
            case rel => exact ⟨k + 1, _, r, by omega, by go_num, rfl, Lib.hid HNX.out, Lib.hid HY.out, rfl⟩
            case measure => simp [intOf]; omega
    · have hge : ¬ (k : Int) < 16 := by omega
      have hall : allH s.data.toList = true := by have := hA.out; rwa [List.take_of_length_le (by rw [HL.out]; omega)] at this
      have hval : v = (valH s.data.toList : Nat) := by have := hv0.out; rwa [List.take_of_length_le (by rw [HL.out]; omega)] at this
      have hB0 : true = B := hall.symm.trans HBB.out
      have hU0 : v = (U : Nat) := by rw [hval, ← HU.out, hall]; rfl
      subst hB0 hU0
      clear hall hval hA hv0 HU HBB
      go_wp2_with fail
      go_ret2
      exact ⟨rfl, below_drewN (Below.refl _ _) _⟩
end Go.Proofs.YtfiingnanofneaaDoor
