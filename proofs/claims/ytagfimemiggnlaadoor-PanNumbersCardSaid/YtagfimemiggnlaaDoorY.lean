/- Numbers: plain facts; the walks of Groups and Numbers. -/
import Derived.Test.YtagfimemiggnlaaDoorX
set_option linter.unusedVariables false
set_option linter.unusedSimpArgs false
namespace Go.Proofs.YtagfimemiggnlaaDoor
open Go.Sort Go.ChangeShapes Go.WideShapes Go.ChangeAt Go.RowKit
theorem lsum_app (l m : List UInt8) (n : Int) (k : Nat) (hk : k ≤ l.length) : lsum (l ++ m) (n + 1) 1 k = lsum l n 2 k := by
  induction k with
  | zero => rfl
  | succ k ih =>
    rw [lsum_succ, lsum_succ, ih (by omega), show n + 1 - 1 - (k : Int) + 1 = n - 1 - k + 2 by omega, getD_app_lt l m k (by omega)]
theorem cd_luh (S : ByteArray) (h0 : cdE S = 0) (hd : allD S.data.toList = true) (hc : 48 ≤ cdV S ∧ cdV S ≤ 57) : luhB (S ++ d1 (cdV S)) = true ∧ allD (S ++ d1 (cdV S)).data.toList = true := by
  have hl : ls (S ++ d1 (cdV S)) = ls S ++ [UInt8.ofNat (cdV S).toNat] := ls_app _ _
  have hn : ((UInt8.ofNat (cdV S).toNat).toNat : Int) = cdV S := by rw [UInt8.toNat_ofNat']; omega
  have hA : allD (ls S ++ [UInt8.ofNat (cdV S).toNat]) = true := by
    unfold allD
    rw [List.all_append, Bool.and_eq_true]
    refine ⟨hd, ?_⟩
    rw [List.all_cons, Bool.and_eq_true]
    exact ⟨(dgB_iff _).2 (by omega), rfl⟩
  refine ⟨?_, by rw [← hl] at hA; exact hA⟩
  rw [luhB_L]
  show luhL (ls (S ++ d1 (cdV S))) = true
  rw [hl]
  refine (luhL_iff _).2 ⟨by simp, hA, ?_⟩
  rw [List.length_append, List.length_singleton, show (((ls S).length + 1 : Nat) : Int) = ((ls S).length : Int) + 1 by omega, lsum_succ, lsum_app _ _ _ _ (Nat.le_refl _), if_neg (by omega), getD_app_ge _ _ _ (Nat.le_refl _), Nat.sub_self]
  show (_ + (((UInt8.ofNat (cdV S).toNat).toNat : Int) - 48)) % 10 = 0
  rw [hn]
  unfold cdV
  rw [if_pos h0]
  show (lsum S.data.toList S.size 2 S.size + _) % 10 = 0
  omega
theorem mk_good {p : ByteArray} {N : Nat} {len : Int} (h : mkBad p N len = false) : 12 ≤ len ∧ len ≤ 19 ∧ 1 ≤ p.size ∧ p.size ≤ 10 ∧ allD p.data.toList = true ∧ N < 10 ^ mkw p len := by
  rcases mk_parts p N len with hb | ⟨h1, h2, h3, h4, h5, h6⟩
  · have : mkBad p N len = true := by
      unfold mkBad
      rcases hb with h | h | h | h | h | h <;> simp [h]
    rw [h] at this; cases this
  · refine ⟨h1, h2, h3, h4, h5, ?_⟩
    rw [mkBad_ok h1 h2 h3 h4 h5] at h
    have := of_decide_eq_false h
    omega
theorem mk_next {p : ByteArray} {N : Nat} {len : Int} (h : mkBad p N len = true) : mkBad p ((N : Int) + 1) len = true := by
  rcases mk_parts p N len with hb | ⟨h1, h2, h3, h4, h5, h6⟩
  · unfold mkBad
    rcases hb with h | h | h | h | h | h
    · simp [h]
    · simp [h]
    · simp [h]
    · simp [h]
    · simp [h]
    · omega
  · rw [mkBad_ok h1 h2 h3 h4 h5] at h
    have := of_decide_eq_true h
    rw [show (N : Int) + 1 = ((N + 1 : Nat) : Int) by omega, mkBad_ok h1 h2 h3 h4 h5]
    exact decide_eq_true (by omega)
theorem mkV_ls {p : ByteArray} {N : Nat} {len : Int} (h : mkBad p N len = false) : ls (mkV p N len) = ls p ++ (dgw (mkw p len) N ++ [UInt8.ofNat (cdV (mkS p N len)).toNat]) := by
  rw [(mkGood_of h).2, ls_app]
  unfold mkS
  rw [ls_app, ls_bst, Int.toNat_natCast, List.append_assoc]
  rfl
theorem mkV_is {p : ByteArray} {N : Nat} {len : Int} (h : mkBad p N len = false) :
    ((mkV p N len).size : Int) = len ∧ chkP (mkV p N len) = 0 ∧ p.size ≤ (mkV p N len).size ∧ (mkV p N len).extract 0 p.size = p ∧ idxB p (mkV p N len) = true ∧ idxV p (mkV p N len) = N := by
  obtain ⟨h1, h2, h3, h4, h5, h6⟩ := mk_good h
  obtain ⟨k1, k2, k3, k4, k5⟩ := mkS_cd p N len h1 h2 h3 h4 h5
  have hl := mkV_ls h
  have hsz : (mkV p N len).size = len.toNat := by
    rw [ls_size, hl, List.length_append, List.length_append, dgw_len, ← ls_size, List.length_singleton]
    unfold mkw; omega
  have hc := cd_luh (mkS p N len) k3 k2 ⟨k4, k5⟩
  have hchk : chkP (mkV p N len) = 0 := by
    rw [← (mkGood_of h).2] at hc
    unfold chkP
    rw [if_neg (by omega), if_neg (by omega), hc.2, if_neg (by simp), hc.1, if_neg (by simp)]
  have hex : (mkV p N len).extract 0 p.size = p := by
    apply ls_ext
    rw [ls_ex, hl, List.drop_zero, Nat.sub_zero, List.take_append_of_le_length (by rw [← ls_size]; exact Nat.le_refl _), List.take_of_length_le (by rw [← ls_size]; exact Nat.le_refl _)]
  have hix := idxB_mk hchk h3 h4 hex
  refine ⟨by omega, hchk, by omega, hex, hix, ?_⟩
  rw [idx_yes hix]
  have hm : mid p (mkV p N len) = dgw (mkw p len) N := by
    unfold mid
    rw [hl, List.drop_append_of_le_length (by rw [← ls_size]; exact Nat.le_refl _), List.drop_of_length_le (by rw [← ls_size]; exact Nat.le_refl _), List.nil_append, hsz]
    rw [List.take_append_of_le_length (by rw [dgw_len]; unfold mkw; omega), List.take_of_length_le (by rw [dgw_len]; unfold mkw; omega)]
  rw [hm, dgw_val, Nat.mod_eq_of_lt h6]
theorem bl_app (a x y : List UInt8) : Op.bytesLess (a ++ x) (a ++ y) = Op.bytesLess x y := by
  induction a with
  | nil => rfl
  | cons c r ih =>
    show (decide (c < c) || (c == c && Op.bytesLess (r ++ x) (r ++ y))) = _
    rw [ih]
    have : ¬ c < c := by rw [UInt8.lt_iff_toNat_lt]; omega
    simp [this]
theorem bl_dgw (k : Nat) : ∀ (m n : Nat) (u v : List UInt8), m < n → n < 10 ^ k → Op.bytesLess (dgw k m ++ u) (dgw k n ++ v) = true := by
  induction k with
  | zero => intro m n u v h1 h2; simp at h2; omega
  | succ k ih =>
    intro m n u v h1 h2
    have hpk : 0 < 10 ^ k := Nat.pow_pos (by omega)
    have hq : n / 10 ^ k < 10 := Nat.div_lt_of_lt_mul (by rw [Nat.pow_succ] at h2; exact h2)
    have hle : m / 10 ^ k ≤ n / 10 ^ k := Nat.div_le_div_right (by omega)
    show (decide (UInt8.ofNat (48 + m / 10 ^ k % 10) < UInt8.ofNat (48 + n / 10 ^ k % 10)) || (UInt8.ofNat (48 + m / 10 ^ k % 10) == UInt8.ofNat (48 + n / 10 ^ k % 10) && Op.bytesLess (dgw k m ++ u) (dgw k n ++ v))) = true
    rw [Nat.mod_eq_of_lt hq, Nat.mod_eq_of_lt (by omega)]
    rcases Nat.eq_or_lt_of_le hle with h | h
    · rw [h]
      have hm := Nat.div_add_mod m (10 ^ k)
      have hn := Nat.div_add_mod n (10 ^ k)
      rw [h] at hm
      have e1 : dgw k m = dgw k (m % 10 ^ k) := by
        have := dgw_mod k (n / 10 ^ k) (m % 10 ^ k)
        rw [Nat.mul_comm, hm] at this; exact this
      have e2 : dgw k n = dgw k (n % 10 ^ k) := by
        have := dgw_mod k (n / 10 ^ k) (n % 10 ^ k)
        rw [Nat.mul_comm, hn] at this; exact this
      rw [e1, e2, ih _ _ u v (by omega) (Nat.mod_lt _ hpk)]
      simp
    · have : UInt8.ofNat (48 + m / 10 ^ k) < UInt8.ofNat (48 + n / 10 ^ k) := by
        rw [UInt8.lt_iff_toNat_lt, ofNat_d _ (by omega), ofNat_d _ hq]; omega
      rw [decide_eq_true this]; rfl
theorem mkV_less {p : ByteArray} {N : Nat} {len : Int} (h : mkBad p N len = false) (h' : mkBad p ((N : Int) + 1) len = false) : Op.bytesLess (mkV p N len).toList (mkV p ((N : Int) + 1) len).toList = true := by
  rw [show (N : Int) + 1 = ((N + 1 : Nat) : Int) by omega] at *
  rw [ls_tl, ls_tl, mkV_ls h, mkV_ls h', bl_app]
  exact bl_dgw _ _ _ _ _ (by omega) (mk_good h').2.2.2.2.2
theorem TabP.re {w : World} (h : TabP w) (d : Nat) (os : Array Obj) : TabP (grow (redrawn w d) os) := h.call (below_regrown w d os)
set_option maxHeartbeats 4000000 in
theorem panGroups.walk (s : ByteArray) (w : World) (hs : s.size ≤ maxLen) (hT : TabP w) : Calls Tryd.prog 9 #[.string s] w fun e w' => e = .returned (.bool true) ∧ Below w.heap.size w w' := by
  have HT := Lib.hid hT
  have HAW := Lib.hid awake_any
  clear hT
  unfold maxLen at hs
  by_cases h100 : 100 < s.size
  · have c1 : decide (100 < (s.size : Int)) = true := decide_eq_true (by omega)
    clear h100
    go_enter Tryd.func9, Tryd.ntmps9
    go_wp2_with fail
    refine (HAW.out _ (HT.out.call (Below.refl w.heap.size w))).mono ?_
    rintro e w1 ⟨rfl, hb⟩
    have B1 := Lib.hid (below_call (Below.refl w.heap.size w) hb)
    clear hb
    go_wp2_with fail
    go_ret
    exact ⟨rfl, B1.out⟩
  · have c1 : decide (100 < (s.size : Int)) = false := decide_eq_false (by omega)
    have H15 := Lib.hid (fun w => check_any s (by omega) w)
    by_cases hP : chkP s = 0
    · obtain ⟨l0, l1, _, _⟩ := chk_in s hP
      obtain ⟨g1, g2⟩ := strip_group s hP
      have H19 := Lib.hid (fun w => group_any s (by omega) w)
      have H27 := Lib.hid (fun w => strip_any (grB s s.size) (by have := grB_len s s.size (Nat.le_refl _); omega) w)
      have H17 := Lib.hid (fun w => mask_any s (by omega) w)
      rw [hP] at H15
      rw [g1, g2] at H27
      have hM := mkP_size s hP
      have HAT := Lib.hid (mkP_at s hP)
      have q1 := cut_h (mkP s) 6 (by omega)
      have hXX : (((mkP s).extract 0 6).toList == (s.extract 0 6).toList) = true := by rw [mkP_head s hP]; simp
      have q2 := cut_h s 6 (by omega)
      have q3 := cut_l (mkP s) (s.size - 4) (by omega)
      rw [hM] at q3
      have hYY : (((mkP s).extract (s.size - 4) s.size).toList == (s.extract (s.size - 4) s.size).toList) = true := by rw [mkP_tail s hP]; simp
      have q4 := cut_l s (s.size - 4) (by omega)
      have e4 : IntKind.i64.wrap ((s.size : Int) - 4) = ((s.size - 4 : Nat) : Int) := by rw [IntWalk.i64_in _ (by omega)]; omega
      have e4b : (s.size : Int) - 4 = ((s.size - 4 : Nat) : Int) := by omega
      have E4 := Lib.hid e4b
      have hsi : (s.size : Int) ≤ 19 := by omega
      have hsj : (12 : Int) ≤ (s.size : Int) := by omega
      have c12 : decide ((s.size : Int) < 12) = false := decide_eq_false (by omega)
      have cM : ((((mkP s).size : Nat) : Int) != (s.size : Int)) = false := by rw [hM]; simp
      clear hP g1 g2 hs h100
      generalize mkP s = M at *
      generalize grB s s.size = G at *
      have HM := Lib.hid hM
      go_enter Tryd.func9, Tryd.ntmps9
      go_wp2_with fail
      refine (H15.out _).mono ?_
      rintro e w1 ⟨rfl, hb⟩
      have B1 := Lib.hid (below_call (Below.refl w.heap.size w) hb)
      clear hb
      go_wp2_with fail
      refine (H19.out _).mono ?_
      rintro e w2 ⟨rfl, hb⟩
      have B2 := Lib.hid (below_call B1.out hb)
      clear hb
      go_wp2_with fail
      refine (H27.out _).mono ?_
      rintro e w3 ⟨rfl, hb⟩
      have B3 := Lib.hid (below_call B2.out hb)
      clear hb
      go_wp2_with fail
      refine (H17.out _).mono ?_
      rintro e w4 ⟨rfl, hb⟩
      have B4 := Lib.hid (below_call B3.out hb)
      clear hb
      go_wp2_with fail
      go_loop [6] (fun x => ∃ (k : Nat), 6 ≤ k ∧ k + 4 ≤ s.size ∧ x = .int .i64 k) (fun x => s.size - (intOf x).toNat)
      case atStart => exact ⟨6, Nat.le_refl _, by omega, rfl⟩
      case round =>
        obtain ⟨k, h6, h4, rfl⟩ := hrel
        by_cases hlt : k + 4 < s.size
        · have hlt' : decide ((k : Int) < ((s.size - 4 : Nat) : Int)) = true := decide_eq_true (by omega)
          have hlt2 : k < s.size - 4 := by omega
          have hkM : k < M.size := by rw [HM.out]; omega
          have hx := fun w => idx_at M k hkM w
          rw [HAT.out k h6 hlt hkM] at hx
          have hx2 : ∀ w : World, (Instr.index 9 (.string M) (.int .i64 k)).run Tryd.prog w = .ok (.int .u8 42) w := hx
          clear hx
          go_wp2_with fail
          go_round
          case rel => exact ⟨k + 1, by omega, by omega, by go_num⟩
          case measure => simp [intOf]; omega
        · have hlt' : decide ((k : Int) < ((s.size - 4 : Nat) : Int)) = false := decide_eq_false (by omega)
          have hlt2 : ¬ k < s.size - 4 := by omega
          have HT4 := Lib.hid (HT.out.call B4.out)
          clear h6 h4 hlt
          go_wp2_with fail
          refine wp_region_quiet_below (by kernel_rfl) (by kernel_rfl) ?_
          repeat (first | go_big_quiet_step (exact Calls.regrown_of (HAW.out _ (HT4.out.re _ _))) | quiet_step (exact Calls.regrown_of (HAW.out _ (HT4.out.re _ _))))
          refine wpQuiet_nil ?_
          intro _ hw'
          obtain ⟨⟨dq, osq⟩, hw''⟩ := hw'
          subst hw''
          go_wp2_with fail
          go_ret
          exact ⟨rfl, bre_ B4.out _ _⟩
    · have cP : (chkP s != 0) = true := by rw [bne_iff_ne]; exact hP
      have cP2 : (chkP s == 0) = false := by rw [beq_eq_false_iff_ne]; exact hP
      generalize chkP s = P at *
      clear hP hs h100
      go_enter Tryd.func9, Tryd.ntmps9
      go_wp2_with fail
      refine (H15.out _).mono ?_
      rintro e w1 ⟨rfl, hb⟩
      have B1 := Lib.hid (below_call (Below.refl w.heap.size w) hb)
      clear hb
      go_wp2_with fail
      refine (HAW.out _ (HT.out.call B1.out)).mono ?_
      rintro e w2 ⟨rfl, hb⟩
      have B2 := Lib.hid (below_call B1.out hb)
      clear hb
      go_wp2_with fail
      go_ret
      exact ⟨rfl, B2.out⟩
end Go.Proofs.YtagfimemiggnlaaDoor
