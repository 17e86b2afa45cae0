/- Number of both. -/
import Derived.Test.YtgdgpimlaljpdaaDoorJ
set_option linter.unusedVariables false
set_option linter.unusedSimpArgs false
namespace Go.Proofs.YtgdgpimlaljpdaaDoor
open Go.Sort Go.ChangeShapes Go.WideShapes Go.ChangeAt Go.RowKit
/-- what Number answers -/
def nbE (s : ByteArray) : Int := if s.size = 16 then if allH s.data.toList = true then 0 else 2 else 2
def nbV (s : ByteArray) : Nat := if nbE s = 0 then valH s.data.toList else 0
set_option maxHeartbeats 1000000 in
theorem number_any (s : ByteArray) (w : World) (hs : s.size ≤ maxLen) :
    Calls Tryd.prog 16 #[.string s] w fun e w' => e = .returned (.tuple #[.int .u64 (nbV s : Nat), .int .i64 (nbE s)]) ∧ Below w.heap.size w w' := by
  have hsm : (s.size : Int) ≤ 9223372036854775807 := by unfold maxLen at hs; omega
  by_cases h : s.size = 16
  · have HI := Lib.hid (fun w => ishex_any s w hs)
    cases hA : allH s.data.toList
    · have e1 : nbE s = 2 := by unfold nbE; rw [if_pos h, hA]; rfl
      have e2 : nbV s = 0 := by unfold nbV; rw [e1]; rfl
      rw [hA] at HI
      rw [e1, e2]
      have g : ((s.size : Int) == 16) = true := by rw [h]; rfl
      have g2 : ((s.size : Int) != 16) = false := by rw [h]; rfl
      clear e1 e2 hA h hs hsm
      go_enter Tryd.func16, Tryd.ntmps16
      go_wp2_with (go_at_call 27; refine (HI.out _).mono ?_; rintro e w' ⟨rfl, rfl⟩)
      go_ret2
      exact ⟨rfl, Below.refl _ _⟩
    · have e1 : nbE s = 0 := by unfold nbE; rw [if_pos h, hA]; rfl
      have e2 : nbV s = valH s.data.toList := by unfold nbV; rw [if_pos e1]
      have HP := Lib.hid (fun w => pub_any s w h hA)
      rw [hA] at HI
      rw [e1, e2]
      generalize valH s.data.toList = v at *
      have g : ((s.size : Int) == 16) = true := by rw [h]; rfl
      have g2 : ((s.size : Int) != 16) = false := by rw [h]; rfl
      clear e1 e2 hA h hs hsm
      go_enter Tryd.func16, Tryd.ntmps16
      go_wp2_with (first | (go_at_call 27; refine (HI.out _).mono ?_; rintro e w' ⟨rfl, rfl⟩) | (go_at_call 28; refine (HP.out _).mono ?_; rintro e w1 ⟨rfl, hb⟩; have HB := Lib.hid hb; clear hb))
      go_ret2
      exact ⟨rfl, HB.out⟩
  · have e1 : nbE s = 2 := by unfold nbE; rw [if_neg h]
    have e2 : nbV s = 0 := by unfold nbV; rw [e1]; rfl
    rw [e1, e2]
    have g : ((s.size : Int) == 16) = false := beq_eq_false_iff_ne.2 (by omega)
    have g2 : ((s.size : Int) != 16) = true := by rw [bne, g]; rfl
    clear e1 e2 h hs
    go_enter Tryd.func16, Tryd.ntmps16
    go_wp2_with fail
    go_ret2
    exact ⟨rfl, Below.refl _ _⟩
theorem hexd_at (d : Nat) (hd : d < 16) : ∀ h, (⟨#[48, 49, 50, 51, 52, 53, 54, 55, 56, 57, 97, 98, 99, 100, 101, 102]⟩ : ByteArray)[d]'h = hexc d := by
  have key : ∀ k : Fin 16, (⟨#[48, 49, 50, 51, 52, 53, 54, 55, 56, 57, 97, 98, 99, 100, 101, 102]⟩ : ByteArray)[k.val]'k.2 = hexc k.val := by decide
  intro h
  exact key ⟨d, hd⟩
theorem rv16_lt (l : List UInt8) : rvH (l.take 16) < B64 := by
  have h := rvH_lt (l.take 16) (l.take 16).length (Nat.le_refl _)
  rw [List.take_length] at h
  exact Nat.lt_of_lt_of_le h (Nat.le_trans (Nat.pow_le_pow_right (by decide) (List.length_take_le _ _)) (by decide))
theorem toList_inj {a b : ByteArray} (h : a.toList = b.toList) : a = b := by
  rw [ByteArray.toList_eq, ByteArray.toList_eq] at h
  exact ByteArray.ext (Array.toList_inj.1 h)
def rvE (s : ByteArray) : Int := if txt (rvH (s.data.toList.take 16)) = s then 0 else 2
set_option maxHeartbeats 2000000 in
theorem rnumber_loop (s : ByteArray) (w : World) (hs : s.size ≤ maxLen) :
    Calls Tryd.prog 17 #[.string s] w fun e w' => e = .returned (.tuple #[.int .u64 (if rvE s = 0 then rvH (s.data.toList.take 16) else 0 : Nat), .int .i64 (rvE s)]) ∧ Below w.heap.size w w' := by
  have hsm : (s.size : Int) ≤ 9223372036854775807 := by unfold maxLen at hs; omega
  have HT := Lib.hid (fun w => rtext_any (rvH (s.data.toList.take 16)) (rv16_lt _) w)
  have hl : s.data.toList.length = s.size := Array.length_toList
  have HL := Lib.hid hl
  have hgd : ∀ k (h : k < s.size), s.data.toList.getD k 0 = s[k] := by
    intro k h
    rw [List.getD_eq_getElem?_getD, List.getElem?_eq_getElem (by omega)]; rfl
  have HG := Lib.hid hgd
  obtain ⟨E, hE⟩ : ∃ E, E = rvE s := ⟨_, rfl⟩
  obtain ⟨V, hV⟩ : ∃ V : Nat, V = if E = 0 then rvH (s.data.toList.take 16) else 0 := ⟨_, rfl⟩
  rw [← hE, ← hV]
  have HE := Lib.hid hE
  have HV := Lib.hid hV
  clear hs hl hgd hE hV
  go_enter Tryd.func17, Tryd.ntmps17
  go_wp2_with fail
  go_loopg [4, 5, 6, 7] 16 (fun g n i d k wr => Below w.heap.size w wr ∧ ∃ (j : Nat) (v : Int), g + j = 16 ∧ j ≤ s.size ∧ i = .int .i64 j ∧ n = .int .u64 v ∧ Hid (v = (rvH (s.data.toList.take j) : Nat)))
  case atStart => exact ⟨Below.refl _ _, 0, 0, by omega, by omega, rfl, rfl, Lib.hid rfl⟩
  case round =>
    obtain ⟨hB, j, v, hj, hj2, rfl, rfl, hv0⟩ := hrel
    have HB := Lib.hid hB
    have HJ := Lib.hid hj
    have hj16 : j ≤ 16 := by omega
    clear hB hj
    by_cases hlt : j < 16 ∧ j < s.size
    · obtain ⟨hl1, hl2⟩ := hlt
      have g1 : (j : Int) < 16 := by omega
      have g2 : (j : Int) < (s.size : Int) := by omega
      have hcj := HG.out j hl2
      have htk := rvH_take s.data.toList j (by rw [HL.out]; exact hl2)
      have hvl := rvH_lt s.data.toList j (by rw [HL.out]; omega)
      rw [hcj] at htk
      have HTK := Lib.hid htk
      have HVL := Lib.hid hvl
      clear hcj htk hvl
      go_wp2_with fail
      go_loopg [6, 7] 16 (fun g d k wr => Below w.heap.size w wr ∧ ∃ (q : Nat) (D : Int), g + q = 16 ∧ k = .int .i64 q ∧ d = .int .u64 D ∧ Hid (D = (dAt s[j].toNat q : Nat)))
      case atStart => exact ⟨HB.out, 0, 0, by omega, rfl, rfl, Lib.hid rfl⟩
      case round =>
        obtain ⟨hB, q, D, hq, rfl, rfl, hD0⟩ := hrel
        have HB2 := Lib.hid hB
        have HQ := Lib.hid hq
        clear hB
        by_cases hq16 : q < 16
        · have g3 : (q : Int) < 16 := by omega
          have hdig := hexd_at q hq16
          clear hq
          by_cases he : (hexc q).toNat = s[j].toNat
          · have hb : (((hexc q).toNat : Int) == (s[j].toNat : Int)) = true := by rw [he]; exact beq_self_eq_true _
            have HN := Lib.hid (show dAt s[j].toNat (q + 1) = q by rw [dAt, if_pos he])
            clear he
            go_wp2_with fail
            go_quiet (fail)
            go_wp2_with fail
            go_roundg (gk - 1)
            case measure => have := HQ.out; omega
            case rel => exact ⟨below_drewN HB2.out _, q + 1, _, by have := HQ.out; omega, by go_num, rfl, Lib.hid (by rw [HN.out])⟩
          · have hb : (((hexc q).toNat : Int) == (s[j].toNat : Int)) = false := beq_eq_false_iff_ne.2 (by omega)
            have HN := Lib.hid (show dAt s[j].toNat (q + 1) = dAt s[j].toNat q by rw [dAt, if_neg he])
            clear he
            go_wp2_with fail
            go_quiet (fail)
            go_wp2_with fail
            go_roundg (gk - 1)
            case measure => have := HQ.out; omega
            case rel => exact ⟨below_drewN HB2.out _, q + 1, _, by have := HQ.out; omega, by go_num, rfl, Lib.hid (by rw [HN.out]; exact hD0.out)⟩
        · have g3 : ¬ (q : Int) < 16 := by omega
          have hq0 : q = 16 := by omega
          have HQ0 := Lib.hid hq0
          have hD := hD0.out
          rw [hq0] at hD
          have hd16 := dAt16 s[j].toNat
          have hv := hv0.out
          have hvl := HVL.out
          have h15 : 16 ^ j ≤ 1152921504606846976 := by
            have : 16 ^ j ≤ 16 ^ 15 := Nat.pow_le_pow_right (by decide) (by omega)
            exact this
          obtain ⟨m, hm⟩ : ∃ m, m = v * 16 := ⟨_, rfl⟩
          have m1 : IntKind.u64.wrap (v * 16) = m := by rw [IntKind.wrap_u64]; omega
          have m2 : IntKind.u64.wrap (m + D) = m + D := by rw [IntKind.wrap_u64]; omega
          have HR := Lib.hid (show m + D = ((rvH (s.data.toList.take (j + 1)) : Nat) : Int) by rw [HTK.out, hD, hm, hv]; omega)
          clear hq hq0 hD hd16 hv hvl h15 hm
          go_wp2_with fail
          go_roundg (15 - j)
          case measure => have := HJ.out; omega
          case rel => exact ⟨HB2.out, j + 1, _, by have := HJ.out; omega, by omega, by go_num, rfl, HR⟩
    · have HNL := Lib.hid hlt
      have hrv : rvH (s.data.toList.take j) = rvH (s.data.toList.take 16) := by
        by_cases h16 : j = 16
        · rw [h16]
        · rw [List.take_of_length_le (by rw [HL.out]; omega), List.take_of_length_le (by rw [HL.out]; omega)]
      have hv := hv0.out
      rw [hrv] at hv
      subst hv
      unfold txt at *
      by_cases hex : bst (lastD 16 hexc 16 (rvH (s.data.toList.take 16))) = s
      · have e1 : rvE s = 0 := if_pos hex
        have e2 := HE.out.trans e1
        have e3 := HV.out
        rw [if_pos e2] at e3
        have E2 := Lib.hid e2
        have E3 := Lib.hid e3
        rw [hex] at HT
        generalize rvH (s.data.toList.take 16) = r at *
        clear hrv hlt hv0 hex e1 e2 e3
        by_cases hjs : (j : Int) < (s.size : Int)
        · have hj6 : ¬ (j : Int) < 16 := by have := HNL.out; omega
          go_wp2_with (go_at_call 15; refine (HT.out _).mono ?_; rintro e w2 ⟨rfl, hb⟩; have HC := Lib.hid (beI HB.out (Nat.le_refl _) hb); clear hb)
          go_ret2
          exact ⟨by rw [E2.out, E3.out]; rfl, HC.out⟩
        · go_wp2_with (go_at_call 15; refine (HT.out _).mono ?_; rintro e w2 ⟨rfl, hb⟩; have HC := Lib.hid (beI HB.out (Nat.le_refl _) hb); clear hb)
          go_ret2
          exact ⟨by rw [E2.out, E3.out]; rfl, HC.out⟩
      · have e1 : rvE s = 2 := if_neg hex
        have e2 := HE.out.trans e1
        have e3 := HV.out
        rw [if_neg (by rw [e2]; decide)] at e3
        have E2 := Lib.hid e2
        have E3 := Lib.hid e3
        have hne : ((bst (lastD 16 hexc 16 (rvH (s.data.toList.take 16)))).toList == s.toList) = false := by
          rw [beq_eq_false_iff_ne]
          intro h
          exact hex (toList_inj h)
        generalize bst (lastD 16 hexc 16 (rvH (s.data.toList.take 16))) = R at *
        generalize rvH (s.data.toList.take 16) = r at *
        clear hrv hlt hv0 hex e1 e2 e3
        by_cases hjs : (j : Int) < (s.size : Int)
        · have hj6 : ¬ (j : Int) < 16 := by have := HNL.out; omega
          go_wp2_with (go_at_call 15; refine (HT.out _).mono ?_; rintro e w2 ⟨rfl, hb⟩; have HC := Lib.hid (beI HB.out (Nat.le_refl _) hb); clear hb)
          go_ret2
          exact ⟨by rw [E2.out, E3.out]; rfl, HC.out⟩
        · go_wp2_with (go_at_call 15; refine (HT.out _).mono ?_; rintro e w2 ⟨rfl, hb⟩; have HC := Lib.hid (beI HB.out (Nat.le_refl _) hb); clear hb)
          go_ret2
          exact ⟨by rw [E2.out, E3.out]; rfl, HC.out⟩
theorem rnumber_any (s : ByteArray) (w : World) (hs : s.size ≤ maxLen) :
    Calls Tryd.prog 17 #[.string s] w fun e w' => e = .returned (.tuple #[.int .u64 (nbV s : Nat), .int .i64 (nbE s)]) ∧ Below w.heap.size w w' := by
  have h := rnumber_loop s w hs
  have hl : s.data.toList.length = s.size := Array.length_toList
  by_cases hg : s.size = 16 ∧ allH s.data.toList = true
  · obtain ⟨h1, h2⟩ := hg
    have ht : s.data.toList.take 16 = s.data.toList := List.take_of_length_le (by omega)
    have e0 : txt (rvH (s.data.toList.take 16)) = s := by
      rw [ht, rvH_eq _ h2, txt]
      have := last_val _ h2
      rw [hl, h1] at this
      rw [this]
      rfl
    have e1 : rvE s = 0 := if_pos e0
    have e2 : nbE s = 0 := by unfold nbE; rw [if_pos h1, if_pos h2]
    have e3 : nbV s = rvH (s.data.toList.take 16) := by unfold nbV; rw [if_pos e2, ht, rvH_eq _ h2]
    rw [e1, if_pos rfl] at h
    rw [e2, e3]
    exact h
  · have e0 : txt (rvH (s.data.toList.take 16)) ≠ s := by
      intro h
      apply hg
      rw [← h]
      exact ⟨txt_size _, last_hex _ _⟩
    have e1 : rvE s = 2 := if_neg e0
    have e2 : nbE s = 2 := by
      unfold nbE
      split
      · rename_i h1
        rw [if_neg (fun h2 => hg ⟨h1, h2⟩)]
      · rfl
    have e3 : nbV s = 0 := by unfold nbV; rw [e2]; rfl
    rw [e1] at h
    rw [e2, e3]
    exact h
end Go.Proofs.YtgdgpimlaljpdaaDoor
