/- The walk of MoneyOrder. -/
import Derived.Test.YtompeealmgdfhaaDoorZ
set_option linter.unusedVariables false
set_option linter.unusedSimpArgs false
namespace Go.Proofs.YtompeealmgdfhaaDoor
open Go.Sort Go.ChangeShapes Go.WideShapes Go.ChangeAt Go.RowKit
open div
theorem same_scale (a : Int) (n : Nat) (m : Int) (h0 : -4503599627370496 ≤ a) (h1 : a ≤ 4503599627370496) (n1 : 1 ≤ n) : rndQ a n n m = (a.natAbs : Nat) := by
  unfold rndQ
  have e1 : n * a.natAbs / n = a.natAbs := Nat.mul_div_cancel_left _ (by omega)
  have e2 : n * a.natAbs % n = 0 := Nat.mul_mod_right _ _
  rw [e1, e2]
  have e3 : capQ a.natAbs = (a.natAbs : Nat) := by unfold capQ; rw [if_pos (by omega)]
  rw [e3]
  have e4 : upI ((a.natAbs : Nat) : Int) ((0 : Nat) : Int) n m = false := by
    unfold upI
    have f1 : decide ((0 : Int) < ((0 : Nat) : Int)) = false := by decide
    have f2 : decide ((n : Int) ≤ 2 * ((0 : Nat) : Int)) = false := decide_eq_false (by omega)
    have f3 : decide ((n : Int) < 2 * ((0 : Nat) : Int)) = false := decide_eq_false (by omega)
    have f4 : decide (2 * ((0 : Nat) : Int) = (n : Int)) = false := decide_eq_false (by omega)
    rw [f1, f2, f3, f4]
    simp
  rw [e4]
  simp [bI]
theorem scale_same (a : Int) (c : ByteArray) (n m : Int) (hc : c.size ≤ maxLen) (hx : mchk a c = 0) (n1 : 1 ≤ n) (n2 : n ≤ 1099511627776) (m1 : 1 ≤ m) (m2 : m ≤ 4) (w : World) :
    Calls Tryd.prog 19 #[mo a c, .int .i64 n, .int .i64 n, .int .i64 m] w fun e w' => e = .returned (.tuple #[mo a c, .int .i64 0]) ∧ Below w.heap.size w w' := by
  obtain ⟨hcl, a0, a1⟩ := mchk_zero hx
  obtain ⟨k, rfl⟩ : ∃ k : Nat, n = k := ⟨n.toNat, by omega⟩
  have h := scale_all a c k k m w hc hx ⟨by omega, by omega, by omega, by omega, m1, m2⟩
  rw [Int.natAbs_natCast, same_scale a k m a0 a1 (by omega), if_pos (by omega)] at h
  have e : sg2 a k ((a.natAbs : Nat) : Int) = a := by
    unfold sg2
    rw [show decide ((k : Int) < 0) = false from decide_eq_false (by omega)]
    by_cases h : a < 0
    · rw [decide_eq_true h, if_pos (by decide)]; omega
    · rw [decide_eq_false h, if_neg (by decide)]; omega
  rw [e] at h
  exact h
namespace moneyOrder
set_option maxHeartbeats 8000000 in
set_option maxRecDepth 100000 in
theorem w1 (a : Int) (c : ByteArray) (b : Int) (d : ByteArray) (n : Int) (w : World) (ha : (Lit.int .i64 a).wf = true) (hc : c.size ≤ maxLen) (hb : (Lit.int .i64 b).wf = true) (hd : d.size ≤ maxLen) (hn : (Lit.int .i64 n).wf = true) (hX : XT w) (hP : TabP w) (hx : (mchk a c == 0) = false) :
    Calls Tryd.prog 9 #[mo a c, mo b d, .int .i64 n] w fun e w' => e = .returned (.bool true) ∧ Below w.heap.size w w' := by
  have K1 := Lib.hid (fun w => mcheck_any a c hc w)
  generalize mchk a c = x at *
  have hx2 : (x != 0) = true := by rw [bne, hx]; rfl
  have AW : Hid (∀ w, XT w → TabP w → _) := Lib.hid awake_any
  have HX := Lib.hid hX
  have HP := Lib.hid hP
  unfold mo at *
  clear ha hc hb hd hn hX hP
  go_enter Tryd.func9, Tryd.ntmps9
  go_wp2_with fail
  have KA := Lib.hid ((Blk.new w 23 #[.int .i64 a, .string c]).alloc (.cells #[.int .i64 b, .string d] 23))
  have KB := Lib.hid (Blk.new (w.alloc (.cells #[.int .i64 a, .string c] 23)) 23 #[.int .i64 b, .string d])
  rw [show (w.alloc (.cells #[.int .i64 a, .string c] 23)).heap.size = w.heap.size + 1 by simp] at KB
  generalize w.heap.size + 1 = gb at *
  refine (K1.out _).mono ?_
  rintro e v1 ⟨rfl, hb⟩
  replace KA := Lib.hid (KA.out.call hb)
  replace KB := Lib.hid (KB.out.call hb)
  have HB1 := Lib.hid (bre2 (al (al (Below.refl w.heap.size w))) (Nat.le_refl _) hb)
  clear hb
  have KAc0 := (KA.out.cell 0).trans (show _ = some (Value.int .i64 a) from rfl)
  have KAc1 := (KA.out.cell 1).trans (show _ = some (Value.string c) from rfl)
  have KAl := KA.out.lt
  have KAf := KA.out.frozen
  have KBc0 := (KB.out.cell 0).trans (show _ = some (Value.int .i64 b) from rfl)
  have KBc1 := (KB.out.cell 1).trans (show _ = some (Value.string d) from rfl)
  have KBl := KB.out.lt
  have KBf := KB.out.frozen
  go_wp2_with fail
  clear KAc0 KAc1 KAl KAf KBc0 KBc1 KBl KBf
  refine (AW.out _ (HX.out.call HB1.out) (HP.out.call HB1.out)).mono ?_
  rintro e v2 ⟨rfl, hb⟩
  replace KA := Lib.hid (KA.out.call hb)
  replace KB := Lib.hid (KB.out.call hb)
  have HB2 := Lib.hid (bre2 HB1.out (Nat.le_refl _) hb)
  clear hb
  have KAc0 := (KA.out.cell 0).trans (show _ = some (Value.int .i64 a) from rfl)
  have KAc1 := (KA.out.cell 1).trans (show _ = some (Value.string c) from rfl)
  have KAl := KA.out.lt
  have KAf := KA.out.frozen
  have KBc0 := (KB.out.cell 0).trans (show _ = some (Value.int .i64 b) from rfl)
  have KBc1 := (KB.out.cell 1).trans (show _ = some (Value.string d) from rfl)
  have KBl := KB.out.lt
  have KBf := KB.out.frozen
  go_wp2_with fail
  go_ret
  exact ⟨rfl, HB2.out⟩
set_option maxHeartbeats 8000000 in
set_option maxRecDepth 100000 in
theorem w2 (a : Int) (c : ByteArray) (b : Int) (d : ByteArray) (n : Int) (w : World) (ha : (Lit.int .i64 a).wf = true) (hc : c.size ≤ maxLen) (hb : (Lit.int .i64 b).wf = true) (hd : d.size ≤ maxLen) (hn : (Lit.int .i64 n).wf = true) (hX : XT w) (hP : TabP w) (hz : mchk a c = 0) (hx : (mchk b d == 0) = false) :
    Calls Tryd.prog 9 #[mo a c, mo b d, .int .i64 n] w fun e w' => e = .returned (.bool true) ∧ Below w.heap.size w w' := by
  have K1 := Lib.hid (fun w => mcheck_any a c hc w)
  have K2 := Lib.hid (fun w => mcheck_any b d hd w)
  rw [hz] at K1
  generalize mchk b d = x at *
  have hx2 : (x != 0) = true := by rw [bne, hx]; rfl
  have AW : Hid (∀ w, XT w → TabP w → _) := Lib.hid awake_any
  have HX := Lib.hid hX
  have HP := Lib.hid hP
  unfold mo at *
  clear ha hc hb hd hn hX hP hz
  go_enter Tryd.func9, Tryd.ntmps9
  go_wp2_with fail
  have KA := Lib.hid ((Blk.new w 23 #[.int .i64 a, .string c]).alloc (.cells #[.int .i64 b, .string d] 23))
  have KB := Lib.hid (Blk.new (w.alloc (.cells #[.int .i64 a, .string c] 23)) 23 #[.int .i64 b, .string d])
  rw [show (w.alloc (.cells #[.int .i64 a, .string c] 23)).heap.size = w.heap.size + 1 by simp] at KB
  generalize w.heap.size + 1 = gb at *
  refine (K1.out _).mono ?_
  rintro e v1 ⟨rfl, hb⟩
  replace KA := Lib.hid (KA.out.call hb)
  replace KB := Lib.hid (KB.out.call hb)
  have HB1 := Lib.hid (bre2 (al (al (Below.refl w.heap.size w))) (Nat.le_refl _) hb)
  clear hb
  have KAc0 := (KA.out.cell 0).trans (show _ = some (Value.int .i64 a) from rfl)
  have KAc1 := (KA.out.cell 1).trans (show _ = some (Value.string c) from rfl)
  have KAl := KA.out.lt
  have KAf := KA.out.frozen
  have KBc0 := (KB.out.cell 0).trans (show _ = some (Value.int .i64 b) from rfl)
  have KBc1 := (KB.out.cell 1).trans (show _ = some (Value.string d) from rfl)
  have KBl := KB.out.lt
  have KBf := KB.out.frozen
  go_wp2_with fail
  clear KAc0 KAc1 KAl KAf KBc0 KBc1 KBl KBf
  refine (K2.out _).mono ?_
  rintro e v2 ⟨rfl, hb⟩
  replace KA := Lib.hid (KA.out.call hb)
  replace KB := Lib.hid (KB.out.call hb)
  have HB2 := Lib.hid (bre2 HB1.out (Nat.le_refl _) hb)
  clear hb
  have KAc0 := (KA.out.cell 0).trans (show _ = some (Value.int .i64 a) from rfl)
  have KAc1 := (KA.out.cell 1).trans (show _ = some (Value.string c) from rfl)
  have KAl := KA.out.lt
  have KAf := KA.out.frozen
  have KBc0 := (KB.out.cell 0).trans (show _ = some (Value.int .i64 b) from rfl)
  have KBc1 := (KB.out.cell 1).trans (show _ = some (Value.string d) from rfl)
  have KBl := KB.out.lt
  have KBf := KB.out.frozen
  go_wp2_with fail
  clear KAc0 KAc1 KAl KAf KBc0 KBc1 KBl KBf
  refine (AW.out _ (HX.out.call HB2.out) (HP.out.call HB2.out)).mono ?_
  rintro e v3 ⟨rfl, hb⟩
  replace KA := Lib.hid (KA.out.call hb)
  replace KB := Lib.hid (KB.out.call hb)
  have HB3 := Lib.hid (bre2 HB2.out (Nat.le_refl _) hb)
  clear hb
  have KAc0 := (KA.out.cell 0).trans (show _ = some (Value.int .i64 a) from rfl)
  have KAc1 := (KA.out.cell 1).trans (show _ = some (Value.string c) from rfl)
  have KAl := KA.out.lt
  have KAf := KA.out.frozen
  have KBc0 := (KB.out.cell 0).trans (show _ = some (Value.int .i64 b) from rfl)
  have KBc1 := (KB.out.cell 1).trans (show _ = some (Value.string d) from rfl)
  have KBl := KB.out.lt
  have KBf := KB.out.frozen
  go_wp2_with fail
  go_ret
  exact ⟨rfl, HB3.out⟩
set_option maxHeartbeats 8000000 in
set_option maxRecDepth 100000 in
theorem w3 (a : Int) (c : ByteArray) (b : Int) (d : ByteArray) (n : Int) (w : World) (ha : (Lit.int .i64 a).wf = true) (hc : c.size ≤ maxLen) (hb : (Lit.int .i64 b).wf = true) (hd : d.size ≤ maxLen) (hn : (Lit.int .i64 n).wf = true) (hX : XT w) (hP : TabP w) (hz : mchk a c = 0) (hz2 : mchk b d = 0) (hx : c ≠ d) :
    Calls Tryd.prog 9 #[mo a c, mo b d, .int .i64 n] w fun e w' => e = .returned (.bool true) ∧ Below w.heap.size w w' := by
  have K1 := Lib.hid (fun w => mcheck_any a c hc w)
  have K2 := Lib.hid (fun w => mcheck_any b d hd w)
  rw [hz] at K1
  rw [hz2] at K2
  have hx1 : (c.toList == d.toList) = false := by rw [beq_eq_false_iff_ne]; exact fun h => hx (toList_inj h)
  have hx2 : (c.toList != d.toList) = true := by rw [bne, hx1]; rfl
  have AW : Hid (∀ w, XT w → TabP w → _) := Lib.hid awake_any
  have HX := Lib.hid hX
  have HP := Lib.hid hP
  unfold mo at *
  clear ha hc hb hd hn hX hP hz hz2 hx
  go_enter Tryd.func9, Tryd.ntmps9
  go_wp2_with fail
  have KA := Lib.hid ((Blk.new w 23 #[.int .i64 a, .string c]).alloc (.cells #[.int .i64 b, .string d] 23))
  have KB := Lib.hid (Blk.new (w.alloc (.cells #[.int .i64 a, .string c] 23)) 23 #[.int .i64 b, .string d])
  rw [show (w.alloc (.cells #[.int .i64 a, .string c] 23)).heap.size = w.heap.size + 1 by simp] at KB
  generalize w.heap.size + 1 = gb at *
  refine (K1.out _).mono ?_
  rintro e v1 ⟨rfl, hb⟩
  replace KA := Lib.hid (KA.out.call hb)
  replace KB := Lib.hid (KB.out.call hb)
  have HB1 := Lib.hid (bre2 (al (al (Below.refl w.heap.size w))) (Nat.le_refl _) hb)
  clear hb
  have KAc0 := (KA.out.cell 0).trans (show _ = some (Value.int .i64 a) from rfl)
  have KAc1 := (KA.out.cell 1).trans (show _ = some (Value.string c) from rfl)
  have KAl := KA.out.lt
  have KAf := KA.out.frozen
  have KBc0 := (KB.out.cell 0).trans (show _ = some (Value.int .i64 b) from rfl)
  have KBc1 := (KB.out.cell 1).trans (show _ = some (Value.string d) from rfl)
  have KBl := KB.out.lt
  have KBf := KB.out.frozen
  go_wp2_with fail
  clear KAc0 KAc1 KAl KAf KBc0 KBc1 KBl KBf
  refine (K2.out _).mono ?_
  rintro e v2 ⟨rfl, hb⟩
  replace KA := Lib.hid (KA.out.call hb)
  replace KB := Lib.hid (KB.out.call hb)
  have HB2 := Lib.hid (bre2 HB1.out (Nat.le_refl _) hb)
  clear hb
  have KAc0 := (KA.out.cell 0).trans (show _ = some (Value.int .i64 a) from rfl)
  have KAc1 := (KA.out.cell 1).trans (show _ = some (Value.string c) from rfl)
  have KAl := KA.out.lt
  have KAf := KA.out.frozen
  have KBc0 := (KB.out.cell 0).trans (show _ = some (Value.int .i64 b) from rfl)
  have KBc1 := (KB.out.cell 1).trans (show _ = some (Value.string d) from rfl)
  have KBl := KB.out.lt
  have KBf := KB.out.frozen
  go_wp2_with fail
  clear KAc0 KAc1 KAl KAf KBc0 KBc1 KBl KBf
  refine (AW.out _ (HX.out.call HB2.out) (HP.out.call HB2.out)).mono ?_
  rintro e v3 ⟨rfl, hb⟩
  replace KA := Lib.hid (KA.out.call hb)
  replace KB := Lib.hid (KB.out.call hb)
  have HB3 := Lib.hid (bre2 HB2.out (Nat.le_refl _) hb)
  clear hb
  have KAc0 := (KA.out.cell 0).trans (show _ = some (Value.int .i64 a) from rfl)
  have KAc1 := (KA.out.cell 1).trans (show _ = some (Value.string c) from rfl)
  have KAl := KA.out.lt
  have KAf := KA.out.frozen
  have KBc0 := (KB.out.cell 0).trans (show _ = some (Value.int .i64 b) from rfl)
  have KBc1 := (KB.out.cell 1).trans (show _ = some (Value.string d) from rfl)
  have KBl := KB.out.lt
  have KBf := KB.out.frozen
  go_wp2_with fail
  go_ret
  exact ⟨rfl, HB3.out⟩
set_option maxHeartbeats 8000000 in
set_option maxRecDepth 100000 in
theorem m00 (a : Int) (c : ByteArray) (b : Int) (n : Int) (w : World) (hc : c.size ≤ maxLen) (hX : XT w) (hP : TabP w) (hz : mchk a c = 0) (hz2 : mchk b c = 0) (hs : ¬ (-4503599627370496 ≤ a + b ∧ a + b ≤ 4503599627370496)) (hr : n < 1 ∨ 1099511627776 < n) :
    Calls Tryd.prog 9 #[mo a c, mo b c, .int .i64 n] w fun e w' => e = .returned (.bool true) ∧ Below w.heap.size w w' := by
  obtain ⟨hcl, a0, a1⟩ := mchk_zero hz
  obtain ⟨_, b0, b1⟩ := mchk_zero hz2
  have ch0 : chk2 0 0 c c = 0 := by unfold chk2; rw [if_pos (by decide), if_pos (by decide), if_pos (beq_self_eq_true _)]
  have K1 := Lib.hid (fun w => mcheck_any a c hc w)
  have K2 := Lib.hid (fun w => mcheck_any b c hc w)
  have C1 := Lib.hid (fun w => cmp_any a b c c hc hc w)
  have C2 := Lib.hid (fun w => cmp_any b a c c hc hc w)
  have A1 := Lib.hid (fun w => add_any a b c c hc hc w)
  rw [hz] at K1
  rw [hz2] at K2
  rw [hz, hz2, ch0, if_pos (show ((0 : Int) == 0) = true from rfl)] at C1
  rw [hz, hz2, ch0, if_pos (show ((0 : Int) == 0) = true from rfl)] at C2
  rw [hz, hz2, ch0] at A1
  have e1 : adE 0 (a + b) = 4 := by unfold adE; rw [if_pos (show ((0 : Int) == 0) = true from rfl), if_neg hs]
  have e2 : adV 0 (a + b) c = mo0 := by unfold adV; rw [e1, if_neg (by decide)]
  rw [e1, e2] at A1
  unfold mo0 at *
  clear hs e1 e2
  obtain ⟨x, hx⟩ : ∃ x, x = cmpI a b := ⟨_, rfl⟩
  obtain ⟨y, hy⟩ : ∃ y, y = cmpI b a := ⟨_, rfl⟩
  rw [← hx] at C1
  rw [← hy] at C2
  have f0 : x = -1 ∧ y = 1 ∧ a < b ∨ x = 1 ∧ y = -1 ∧ b < a ∨ x = 0 ∧ y = 0 ∧ a = b := by unfold cmpI at hx hy; split at hx <;> split at hy <;> (try split at hx) <;> (try split at hy) <;> omega
  have f1 : IntKind.i64.wrap (-y) = -y := by rw [IntKind.wrap_i64]; omega
  have f2 : (x != -y) = false := by rw [bne_eq_false_iff_eq]; omega
  have f2b : (x == -y) = true := by rw [beq_iff_eq]; omega
  obtain ⟨B, f3⟩ : ∃ B, decide (x < 0) = B := ⟨_, rfl⟩
  have f4 : decide (a < b) = B := by rw [← f3]; exact decide_eq_decide.2 (by omega)
  obtain ⟨D, f5⟩ : ∃ D, (x == 0) = D := ⟨_, rfl⟩
  have f6 : (a == b) = D := by rw [← f5, Bool.eq_iff_iff, beq_iff_eq, beq_iff_eq]; omega
  clear f0 hx hy
  have AW : Hid (∀ w, XT w → TabP w → _) := Lib.hid awake_any
  have HX := Lib.hid hX
  have HP := Lib.hid hP
  unfold mo at *
  clear hc hX hP hz hz2 ch0 a0 a1 b0 b1 hcl
  have hN : (decide (n < 1) = true) ∨ (decide (n < 1) = false ∧ decide (1099511627776 < n) = true) := by
    by_cases h : n < 1
    · exact Or.inl (decide_eq_true h)
    · exact Or.inr ⟨decide_eq_false h, decide_eq_true (by omega)⟩
  clear hr
  rcases hN with N1 | ⟨N1, N2⟩
  all_goals cases D
  all_goals
    go_enter Tryd.func9, Tryd.ntmps9
    go_wp2_with fail
    have KA := Lib.hid ((Blk.new w 23 #[.int .i64 a, .string c]).alloc (.cells #[.int .i64 b, .string c] 23))
    have KB := Lib.hid (Blk.new (w.alloc (.cells #[.int .i64 a, .string c] 23)) 23 #[.int .i64 b, .string c])
    rw [show (w.alloc (.cells #[.int .i64 a, .string c] 23)).heap.size = w.heap.size + 1 by simp] at KB
    generalize w.heap.size + 1 = gb at *
    refine (K1.out _).mono ?_
    rintro e v1 ⟨rfl, hb⟩
    replace KA := Lib.hid (KA.out.call hb)
    replace KB := Lib.hid (KB.out.call hb)
    have HB1 := Lib.hid (bre2 (al (al (Below.refl w.heap.size w))) (Nat.le_refl _) hb)
    clear hb
    have KAc0 := (KA.out.cell 0).trans (show _ = some (Value.int .i64 a) from rfl)
    have KAc1 := (KA.out.cell 1).trans (show _ = some (Value.string c) from rfl)
    have KAl := KA.out.lt
    have KAf := KA.out.frozen
    have KBc0 := (KB.out.cell 0).trans (show _ = some (Value.int .i64 b) from rfl)
    have KBc1 := (KB.out.cell 1).trans (show _ = some (Value.string c) from rfl)
    have KBl := KB.out.lt
    have KBf := KB.out.frozen
    go_wp2_with fail
    clear KAc0 KAc1 KAl KAf KBc0 KBc1 KBl KBf
    refine (K2.out _).mono ?_
    rintro e v2 ⟨rfl, hb⟩
    replace KA := Lib.hid (KA.out.call hb)
    replace KB := Lib.hid (KB.out.call hb)
    have HB2 := Lib.hid (bre2 HB1.out (Nat.le_refl _) hb)
    clear hb
    have KAc0 := (KA.out.cell 0).trans (show _ = some (Value.int .i64 a) from rfl)
    have KAc1 := (KA.out.cell 1).trans (show _ = some (Value.string c) from rfl)
    have KAl := KA.out.lt
    have KAf := KA.out.frozen
    have KBc0 := (KB.out.cell 0).trans (show _ = some (Value.int .i64 b) from rfl)
    have KBc1 := (KB.out.cell 1).trans (show _ = some (Value.string c) from rfl)
    have KBl := KB.out.lt
    have KBf := KB.out.frozen
    go_wp2_with fail
    clear KAc0 KAc1 KAl KAf KBc0 KBc1 KBl KBf
    refine (C1.out _).mono ?_
    rintro e v3 ⟨rfl, hb⟩
    replace KA := Lib.hid (KA.out.call hb)
    replace KB := Lib.hid (KB.out.call hb)
    have HB3 := Lib.hid (bre2 HB2.out (Nat.le_refl _) hb)
    clear hb
    have KAc0 := (KA.out.cell 0).trans (show _ = some (Value.int .i64 a) from rfl)
    have KAc1 := (KA.out.cell 1).trans (show _ = some (Value.string c) from rfl)
    have KAl := KA.out.lt
    have KAf := KA.out.frozen
    have KBc0 := (KB.out.cell 0).trans (show _ = some (Value.int .i64 b) from rfl)
    have KBc1 := (KB.out.cell 1).trans (show _ = some (Value.string c) from rfl)
    have KBl := KB.out.lt
    have KBf := KB.out.frozen
    go_wp2_with fail
    clear KAc0 KAc1 KAl KAf KBc0 KBc1 KBl KBf
    refine (C2.out _).mono ?_
    rintro e v4 ⟨rfl, hb⟩
    replace KA := Lib.hid (KA.out.call hb)
    replace KB := Lib.hid (KB.out.call hb)
    have HB4 := Lib.hid (bre2 HB3.out (Nat.le_refl _) hb)
    clear hb
    have KAc0 := (KA.out.cell 0).trans (show _ = some (Value.int .i64 a) from rfl)
    have KAc1 := (KA.out.cell 1).trans (show _ = some (Value.string c) from rfl)
    have KAl := KA.out.lt
    have KAf := KA.out.frozen
    have KBc0 := (KB.out.cell 0).trans (show _ = some (Value.int .i64 b) from rfl)
    have KBc1 := (KB.out.cell 1).trans (show _ = some (Value.string c) from rfl)
    have KBl := KB.out.lt
    have KBf := KB.out.frozen
    go_wp2_with fail
    clear KAc0 KAc1 KAl KAf KBc0 KBc1 KBl KBf
    refine (A1.out _).mono ?_
    rintro e v5 ⟨rfl, hb⟩
    replace KA := Lib.hid (KA.out.call hb)
    replace KB := Lib.hid (KB.out.call hb)
    have HB5 := Lib.hid (bre2 HB4.out (Nat.le_refl _) hb)
    clear hb
    have KAc0 := (KA.out.cell 0).trans (show _ = some (Value.int .i64 a) from rfl)
    have KAc1 := (KA.out.cell 1).trans (show _ = some (Value.string c) from rfl)
    have KAl := KA.out.lt
    have KAf := KA.out.frozen
    have KBc0 := (KB.out.cell 0).trans (show _ = some (Value.int .i64 b) from rfl)
    have KBc1 := (KB.out.cell 1).trans (show _ = some (Value.string c) from rfl)
    have KBl := KB.out.lt
    have KBf := KB.out.frozen
    go_wp2_with fail
    clear KAc0 KAc1 KAl KAf KBc0 KBc1 KBl KBf
    have R1 := Lib.hid (Blk.new v5 23 #[.int .i64 0, .string ⟨#[]⟩])
    replace KA := Lib.hid (KA.out.alloc (.cells #[.int .i64 0, .string ⟨#[]⟩] 23))
    replace KB := Lib.hid (KB.out.alloc (.cells #[.int .i64 0, .string ⟨#[]⟩] 23))
    refine (AW.out _ (HX.out.call (al HB5.out)) (HP.out.call (al HB5.out))).mono ?_
    rintro e v6 ⟨rfl, hb⟩
    replace KA := Lib.hid (KA.out.call hb)
    replace KB := Lib.hid (KB.out.call hb)
    replace R1 := Lib.hid (R1.out.call hb)
    have HB6 := Lib.hid (bre2 (al HB5.out) (Nat.le_refl _) hb)
    clear hb
    have KAc0 := (KA.out.cell 0).trans (show _ = some (Value.int .i64 a) from rfl)
    have KAc1 := (KA.out.cell 1).trans (show _ = some (Value.string c) from rfl)
    have KAl := KA.out.lt
    have KAf := KA.out.frozen
    have KBc0 := (KB.out.cell 0).trans (show _ = some (Value.int .i64 b) from rfl)
    have KBc1 := (KB.out.cell 1).trans (show _ = some (Value.string c) from rfl)
    have KBl := KB.out.lt
    have KBf := KB.out.frozen
    have R1c0 := (R1.out.cell 0).trans (show _ = some (Value.int .i64 0) from rfl)
    have R1c1 := (R1.out.cell 1).trans (show _ = some (Value.string ⟨#[]⟩) from rfl)
    have R1l := R1.out.lt
    have R1f := R1.out.frozen
    go_wp2_with fail
    go_ret
    exact ⟨rfl, HB6.out⟩
set_option maxHeartbeats 8000000 in
set_option maxRecDepth 100000 in
theorem m01 (a : Int) (c : ByteArray) (b : Int) (n : Int) (w : World) (hc : c.size ≤ maxLen) (hX : XT w) (hP : TabP w) (hz : mchk a c = 0) (hz2 : mchk b c = 0) (hs : ¬ (-4503599627370496 ≤ a + b ∧ a + b ≤ 4503599627370496)) (n1 : 1 ≤ n) (n2 : n ≤ 1099511627776) :
    Calls Tryd.prog 9 #[mo a c, mo b c, .int .i64 n] w fun e w' => e = .returned (.bool true) ∧ Below w.heap.size w w' := by
  obtain ⟨hcl, a0, a1⟩ := mchk_zero hz
  obtain ⟨_, b0, b1⟩ := mchk_zero hz2
  have ch0 : chk2 0 0 c c = 0 := by unfold chk2; rw [if_pos (by decide), if_pos (by decide), if_pos (beq_self_eq_true _)]
  have K1 := Lib.hid (fun w => mcheck_any a c hc w)
  have K2 := Lib.hid (fun w => mcheck_any b c hc w)
  have C1 := Lib.hid (fun w => cmp_any a b c c hc hc w)
  have C2 := Lib.hid (fun w => cmp_any b a c c hc hc w)
  have A1 := Lib.hid (fun w => add_any a b c c hc hc w)
  rw [hz] at K1
  rw [hz2] at K2
  rw [hz, hz2, ch0, if_pos (show ((0 : Int) == 0) = true from rfl)] at C1
  rw [hz, hz2, ch0, if_pos (show ((0 : Int) == 0) = true from rfl)] at C2
  rw [hz, hz2, ch0] at A1
  have e1 : adE 0 (a + b) = 4 := by unfold adE; rw [if_pos (show ((0 : Int) == 0) = true from rfl), if_neg hs]
  have e2 : adV 0 (a + b) c = mo0 := by unfold adV; rw [e1, if_neg (by decide)]
  rw [e1, e2] at A1
  unfold mo0 at *
  clear hs e1 e2
  have S1 := Lib.hid (fun (k : Nat) (k1 : 1 ≤ k) (k2 : k ≤ 4) w => scale_same a c n k hc hz n1 n2 (by omega) (by omega) w)
  have N1 : decide (n < 1) = false := decide_eq_false (by omega)
  have N2 : decide (1099511627776 < n) = false := decide_eq_false (by omega)
  obtain ⟨x, hx⟩ : ∃ x, x = cmpI a b := ⟨_, rfl⟩
  obtain ⟨y, hy⟩ : ∃ y, y = cmpI b a := ⟨_, rfl⟩
  rw [← hx] at C1
  rw [← hy] at C2
  have f0 : x = -1 ∧ y = 1 ∧ a < b ∨ x = 1 ∧ y = -1 ∧ b < a ∨ x = 0 ∧ y = 0 ∧ a = b := by unfold cmpI at hx hy; split at hx <;> split at hy <;> (try split at hx) <;> (try split at hy) <;> omega
  have f1 : IntKind.i64.wrap (-y) = -y := by rw [IntKind.wrap_i64]; omega
  have f2 : (x != -y) = false := by rw [bne_eq_false_iff_eq]; omega
  have f2b : (x == -y) = true := by rw [beq_iff_eq]; omega
  obtain ⟨B, f3⟩ : ∃ B, decide (x < 0) = B := ⟨_, rfl⟩
  have f4 : decide (a < b) = B := by rw [← f3]; exact decide_eq_decide.2 (by omega)
  obtain ⟨D, f5⟩ : ∃ D, (x == 0) = D := ⟨_, rfl⟩
  have f6 : (a == b) = D := by rw [← f5, Bool.eq_iff_iff, beq_iff_eq, beq_iff_eq]; omega
  clear f0 hx hy
  have AW : Hid (∀ w, XT w → TabP w → _) := Lib.hid awake_any
  have HX := Lib.hid hX
  have HP := Lib.hid hP
  unfold mo at *
  clear hc hX hP hz hz2 ch0 a0 a1 b0 b1 hcl
  all_goals cases D
  all_goals
    go_enter Tryd.func9, Tryd.ntmps9
    go_wp2_with fail
    have KA := Lib.hid ((Blk.new w 23 #[.int .i64 a, .string c]).alloc (.cells #[.int .i64 b, .string c] 23))
    have KB := Lib.hid (Blk.new (w.alloc (.cells #[.int .i64 a, .string c] 23)) 23 #[.int .i64 b, .string c])
    rw [show (w.alloc (.cells #[.int .i64 a, .string c] 23)).heap.size = w.heap.size + 1 by simp] at KB
    generalize w.heap.size + 1 = gb at *
    refine (K1.out _).mono ?_
    rintro e v1 ⟨rfl, hb⟩
    replace KA := Lib.hid (KA.out.call hb)
    replace KB := Lib.hid (KB.out.call hb)
    have HB1 := Lib.hid (bre2 (al (al (Below.refl w.heap.size w))) (Nat.le_refl _) hb)
    clear hb
    have KAc0 := (KA.out.cell 0).trans (show _ = some (Value.int .i64 a) from rfl)
    have KAc1 := (KA.out.cell 1).trans (show _ = some (Value.string c) from rfl)
    have KAl := KA.out.lt
    have KAf := KA.out.frozen
    have KBc0 := (KB.out.cell 0).trans (show _ = some (Value.int .i64 b) from rfl)
    have KBc1 := (KB.out.cell 1).trans (show _ = some (Value.string c) from rfl)
    have KBl := KB.out.lt
    have KBf := KB.out.frozen
    go_wp2_with fail
    clear KAc0 KAc1 KAl KAf KBc0 KBc1 KBl KBf
    refine (K2.out _).mono ?_
    rintro e v2 ⟨rfl, hb⟩
    replace KA := Lib.hid (KA.out.call hb)
    replace KB := Lib.hid (KB.out.call hb)
    have HB2 := Lib.hid (bre2 HB1.out (Nat.le_refl _) hb)
    clear hb
    have KAc0 := (KA.out.cell 0).trans (show _ = some (Value.int .i64 a) from rfl)
    have KAc1 := (KA.out.cell 1).trans (show _ = some (Value.string c) from rfl)
    have KAl := KA.out.lt
    have KAf := KA.out.frozen
    have KBc0 := (KB.out.cell 0).trans (show _ = some (Value.int .i64 b) from rfl)
    have KBc1 := (KB.out.cell 1).trans (show _ = some (Value.string c) from rfl)
    have KBl := KB.out.lt
    have KBf := KB.out.frozen
    go_wp2_with fail
    clear KAc0 KAc1 KAl KAf KBc0 KBc1 KBl KBf
    refine (C1.out _).mono ?_
    rintro e v3 ⟨rfl, hb⟩
    replace KA := Lib.hid (KA.out.call hb)
    replace KB := Lib.hid (KB.out.call hb)
    have HB3 := Lib.hid (bre2 HB2.out (Nat.le_refl _) hb)
    clear hb
    have KAc0 := (KA.out.cell 0).trans (show _ = some (Value.int .i64 a) from rfl)
    have KAc1 := (KA.out.cell 1).trans (show _ = some (Value.string c) from rfl)
    have KAl := KA.out.lt
    have KAf := KA.out.frozen
    have KBc0 := (KB.out.cell 0).trans (show _ = some (Value.int .i64 b) from rfl)
    have KBc1 := (KB.out.cell 1).trans (show _ = some (Value.string c) from rfl)
    have KBl := KB.out.lt
    have KBf := KB.out.frozen
    go_wp2_with fail
    clear KAc0 KAc1 KAl KAf KBc0 KBc1 KBl KBf
    refine (C2.out _).mono ?_
    rintro e v4 ⟨rfl, hb⟩
    replace KA := Lib.hid (KA.out.call hb)
    replace KB := Lib.hid (KB.out.call hb)
    have HB4 := Lib.hid (bre2 HB3.out (Nat.le_refl _) hb)
    clear hb
    have KAc0 := (KA.out.cell 0).trans (show _ = some (Value.int .i64 a) from rfl)
    have KAc1 := (KA.out.cell 1).trans (show _ = some (Value.string c) from rfl)
    have KAl := KA.out.lt
    have KAf := KA.out.frozen
    have KBc0 := (KB.out.cell 0).trans (show _ = some (Value.int .i64 b) from rfl)
    have KBc1 := (KB.out.cell 1).trans (show _ = some (Value.string c) from rfl)
    have KBl := KB.out.lt
    have KBf := KB.out.frozen
    go_wp2_with fail
    clear KAc0 KAc1 KAl KAf KBc0 KBc1 KBl KBf
    refine (A1.out _).mono ?_
    rintro e v5 ⟨rfl, hb⟩
    replace KA := Lib.hid (KA.out.call hb)
    replace KB := Lib.hid (KB.out.call hb)
    have HB5 := Lib.hid (bre2 HB4.out (Nat.le_refl _) hb)
    clear hb
    have KAc0 := (KA.out.cell 0).trans (show _ = some (Value.int .i64 a) from rfl)
    have KAc1 := (KA.out.cell 1).trans (show _ = some (Value.string c) from rfl)
    have KAl := KA.out.lt
    have KAf := KA.out.frozen
    have KBc0 := (KB.out.cell 0).trans (show _ = some (Value.int .i64 b) from rfl)
    have KBc1 := (KB.out.cell 1).trans (show _ = some (Value.string c) from rfl)
    have KBl := KB.out.lt
    have KBf := KB.out.frozen
    go_wp2_with fail
    clear KAc0 KAc1 KAl KAf KBc0 KBc1 KBl KBf
    have R1 := Lib.hid (Blk.new v5 23 #[.int .i64 0, .string ⟨#[]⟩])
    replace KA := Lib.hid (KA.out.alloc (.cells #[.int .i64 0, .string ⟨#[]⟩] 23))
    replace KB := Lib.hid (KB.out.alloc (.cells #[.int .i64 0, .string ⟨#[]⟩] 23))
    go_loopg [15] 4 (fun g m wr => Below w.heap.size w wr ∧ Blk wr w.heap.size 23 #[.int .i64 a, .string c] ∧ ∃ k : Nat, g + k = 5 ∧ 1 ≤ k ∧ m = .int .i64 k)
    case atStart => exact ⟨(al HB5.out), KA.out, 1, rfl, by omega, rfl⟩
    case round =>
      obtain ⟨hB, hK, k, hk, hk1, rfl⟩ := hrel
      have HB := Lib.hid hB
      have HK := Lib.hid hK
      have HKK := Lib.hid hk
      clear hB hK
      by_cases hlt : k ≤ 4
      · have g1 : (k : Int) ≤ 4 := by omega
        have SC := Lib.hid (fun w => S1.out k (by omega) (by omega) w)
        have c0 := (HK.out.cell 0).trans (show _ = some (Value.int .i64 a) from rfl)
        have c1 := (HK.out.cell 1).trans (show _ = some (Value.string c) from rfl)
        have cl := HK.out.lt
        clear hk hlt
        go_wp2_with fail
        refine (SC.out _).mono ?_
        rintro e u1 ⟨rfl, hb⟩
        have HU := Lib.hid (HK.out.call hb)
        have HBU := Lib.hid (bre2 HB.out (Nat.le_refl _) hb)
        clear hb c0 c1 cl
        have c0 := (HU.out.cell 0).trans (show _ = some (Value.int .i64 a) from rfl)
        have c1 := (HU.out.cell 1).trans (show _ = some (Value.string c) from rfl)
        have cl := HU.out.lt
        go_wp2_with fail
        go_roundg (gk - 1)
        case measure => have := HKK.out; omega
        case rel => exact ⟨al HBU.out, HU.out.alloc _, k + 1, by have := HKK.out; omega, by omega, by go_num⟩
      · have g1 : ¬ (k : Int) ≤ 4 := by omega
        clear hk hlt
        go_wp2_with fail
        refine (AW.out _ (HX.out.call HB.out) (HP.out.call HB.out)).mono ?_
        rintro e u2 ⟨rfl, hb⟩
        have HBU := Lib.hid (bre2 HB.out (Nat.le_refl _) hb)
        clear hb
        go_wp2_with fail
        go_ret
        exact ⟨rfl, HBU.out⟩
set_option maxHeartbeats 8000000 in
set_option maxRecDepth 100000 in
theorem m10 (a : Int) (c : ByteArray) (b : Int) (n : Int) (w : World) (hc : c.size ≤ maxLen) (hX : XT w) (hP : TabP w) (hz : mchk a c = 0) (hz2 : mchk b c = 0) (h0 : -4503599627370496 ≤ a + b) (h1 : a + b ≤ 4503599627370496) (hr : n < 1 ∨ 1099511627776 < n) :
    Calls Tryd.prog 9 #[mo a c, mo b c, .int .i64 n] w fun e w' => e = .returned (.bool true) ∧ Below w.heap.size w w' := by
  obtain ⟨hcl, a0, a1⟩ := mchk_zero hz
  obtain ⟨_, b0, b1⟩ := mchk_zero hz2
  have ch0 : chk2 0 0 c c = 0 := by unfold chk2; rw [if_pos (by decide), if_pos (by decide), if_pos (beq_self_eq_true _)]
  have K1 := Lib.hid (fun w => mcheck_any a c hc w)
  have K2 := Lib.hid (fun w => mcheck_any b c hc w)
  have C1 := Lib.hid (fun w => cmp_any a b c c hc hc w)
  have C2 := Lib.hid (fun w => cmp_any b a c c hc hc w)
  have A1 := Lib.hid (fun w => add_any a b c c hc hc w)
  rw [hz] at K1
  rw [hz2] at K2
  rw [hz, hz2, ch0, if_pos (show ((0 : Int) == 0) = true from rfl)] at C1
  rw [hz, hz2, ch0, if_pos (show ((0 : Int) == 0) = true from rfl)] at C2
  rw [hz, hz2, ch0] at A1
  have e1 : adE 0 (a + b) = 0 := by unfold adE; rw [if_pos (show ((0 : Int) == 0) = true from rfl), if_pos ⟨h0, h1⟩]
  have e2 : adV 0 (a + b) c = mo (a + b) c := by unfold adV; rw [e1, if_pos (show ((0 : Int) == 0) = true from rfl)]
  rw [e1, e2] at A1
  have hzs : mchk (a + b) c = 0 := by rw [mchk_of hcl, if_pos ⟨h0, h1⟩]
  have B1 := Lib.hid (fun w => sub_any (a + b) b c c hc hc w)
  rw [hzs, hz2, ch0] at B1
  have e3 : adE 0 (a + b - b) = 0 := by unfold adE; rw [if_pos (show ((0 : Int) == 0) = true from rfl), if_pos (by omega)]
  have e4 : adV 0 (a + b - b) c = mo a c := by unfold adV; rw [e3, if_pos (show ((0 : Int) == 0) = true from rfl), show a + b - b = a by omega]
  rw [e3, e4] at B1
  have hw : IntKind.i64.wrap (a + b) = a + b := by rw [IntKind.wrap_i64]; omega
  obtain ⟨s, hs⟩ : ∃ s, s = a + b := ⟨_, rfl⟩
  rw [← hs] at A1 B1 hw
  have hsum : a + b = s := hs.symm
  clear hs e1 e2 e3 e4 hzs h0 h1
  obtain ⟨x, hx⟩ : ∃ x, x = cmpI a b := ⟨_, rfl⟩
  obtain ⟨y, hy⟩ : ∃ y, y = cmpI b a := ⟨_, rfl⟩
  rw [← hx] at C1
  rw [← hy] at C2
  have f0 : x = -1 ∧ y = 1 ∧ a < b ∨ x = 1 ∧ y = -1 ∧ b < a ∨ x = 0 ∧ y = 0 ∧ a = b := by unfold cmpI at hx hy; split at hx <;> split at hy <;> (try split at hx) <;> (try split at hy) <;> omega
  have f1 : IntKind.i64.wrap (-y) = -y := by rw [IntKind.wrap_i64]; omega
  have f2 : (x != -y) = false := by rw [bne_eq_false_iff_eq]; omega
  have f2b : (x == -y) = true := by rw [beq_iff_eq]; omega
  obtain ⟨B, f3⟩ : ∃ B, decide (x < 0) = B := ⟨_, rfl⟩
  have f4 : decide (a < b) = B := by rw [← f3]; exact decide_eq_decide.2 (by omega)
  obtain ⟨D, f5⟩ : ∃ D, (x == 0) = D := ⟨_, rfl⟩
  have f6 : (a == b) = D := by rw [← f5, Bool.eq_iff_iff, beq_iff_eq, beq_iff_eq]; omega
  clear f0 hx hy
  have AW : Hid (∀ w, XT w → TabP w → _) := Lib.hid awake_any
  have HX := Lib.hid hX
  have HP := Lib.hid hP
  unfold mo at *
  clear hc hX hP hz hz2 ch0 a0 a1 b0 b1 hcl
  have hN : (decide (n < 1) = true) ∨ (decide (n < 1) = false ∧ decide (1099511627776 < n) = true) := by
    by_cases h : n < 1
    · exact Or.inl (decide_eq_true h)
    · exact Or.inr ⟨decide_eq_false h, decide_eq_true (by omega)⟩
  clear hr
  rcases hN with N1 | ⟨N1, N2⟩
  all_goals cases D
  all_goals
    go_enter Tryd.func9, Tryd.ntmps9
    go_wp2_with fail
    have KA := Lib.hid ((Blk.new w 23 #[.int .i64 a, .string c]).alloc (.cells #[.int .i64 b, .string c] 23))
    have KB := Lib.hid (Blk.new (w.alloc (.cells #[.int .i64 a, .string c] 23)) 23 #[.int .i64 b, .string c])
    rw [show (w.alloc (.cells #[.int .i64 a, .string c] 23)).heap.size = w.heap.size + 1 by simp] at KB
    generalize w.heap.size + 1 = gb at *
    refine (K1.out _).mono ?_
    rintro e v1 ⟨rfl, hb⟩
    replace KA := Lib.hid (KA.out.call hb)
    replace KB := Lib.hid (KB.out.call hb)
    have HB1 := Lib.hid (bre2 (al (al (Below.refl w.heap.size w))) (Nat.le_refl _) hb)
    clear hb
    have KAc0 := (KA.out.cell 0).trans (show _ = some (Value.int .i64 a) from rfl)
    have KAc1 := (KA.out.cell 1).trans (show _ = some (Value.string c) from rfl)
    have KAl := KA.out.lt
    have KAf := KA.out.frozen
    have KBc0 := (KB.out.cell 0).trans (show _ = some (Value.int .i64 b) from rfl)
    have KBc1 := (KB.out.cell 1).trans (show _ = some (Value.string c) from rfl)
    have KBl := KB.out.lt
    have KBf := KB.out.frozen
    go_wp2_with fail
    clear KAc0 KAc1 KAl KAf KBc0 KBc1 KBl KBf
    refine (K2.out _).mono ?_
    rintro e v2 ⟨rfl, hb⟩
    replace KA := Lib.hid (KA.out.call hb)
    replace KB := Lib.hid (KB.out.call hb)
    have HB2 := Lib.hid (bre2 HB1.out (Nat.le_refl _) hb)
    clear hb
    have KAc0 := (KA.out.cell 0).trans (show _ = some (Value.int .i64 a) from rfl)
    have KAc1 := (KA.out.cell 1).trans (show _ = some (Value.string c) from rfl)
    have KAl := KA.out.lt
    have KAf := KA.out.frozen
    have KBc0 := (KB.out.cell 0).trans (show _ = some (Value.int .i64 b) from rfl)
    have KBc1 := (KB.out.cell 1).trans (show _ = some (Value.string c) from rfl)
    have KBl := KB.out.lt
    have KBf := KB.out.frozen
    go_wp2_with fail
    clear KAc0 KAc1 KAl KAf KBc0 KBc1 KBl KBf
    refine (C1.out _).mono ?_
    rintro e v3 ⟨rfl, hb⟩
    replace KA := Lib.hid (KA.out.call hb)
    replace KB := Lib.hid (KB.out.call hb)
    have HB3 := Lib.hid (bre2 HB2.out (Nat.le_refl _) hb)
    clear hb
    have KAc0 := (KA.out.cell 0).trans (show _ = some (Value.int .i64 a) from rfl)
    have KAc1 := (KA.out.cell 1).trans (show _ = some (Value.string c) from rfl)
    have KAl := KA.out.lt
    have KAf := KA.out.frozen
    have KBc0 := (KB.out.cell 0).trans (show _ = some (Value.int .i64 b) from rfl)
    have KBc1 := (KB.out.cell 1).trans (show _ = some (Value.string c) from rfl)
    have KBl := KB.out.lt
    have KBf := KB.out.frozen
    go_wp2_with fail
    clear KAc0 KAc1 KAl KAf KBc0 KBc1 KBl KBf
    refine (C2.out _).mono ?_
    rintro e v4 ⟨rfl, hb⟩
    replace KA := Lib.hid (KA.out.call hb)
    replace KB := Lib.hid (KB.out.call hb)
    have HB4 := Lib.hid (bre2 HB3.out (Nat.le_refl _) hb)
    clear hb
    have KAc0 := (KA.out.cell 0).trans (show _ = some (Value.int .i64 a) from rfl)
    have KAc1 := (KA.out.cell 1).trans (show _ = some (Value.string c) from rfl)
    have KAl := KA.out.lt
    have KAf := KA.out.frozen
    have KBc0 := (KB.out.cell 0).trans (show _ = some (Value.int .i64 b) from rfl)
    have KBc1 := (KB.out.cell 1).trans (show _ = some (Value.string c) from rfl)
    have KBl := KB.out.lt
    have KBf := KB.out.frozen
    go_wp2_with fail
    clear KAc0 KAc1 KAl KAf KBc0 KBc1 KBl KBf
    refine (A1.out _).mono ?_
    rintro e v5 ⟨rfl, hb⟩
    replace KA := Lib.hid (KA.out.call hb)
    replace KB := Lib.hid (KB.out.call hb)
    have HB5 := Lib.hid (bre2 HB4.out (Nat.le_refl _) hb)
    clear hb
    have KAc0 := (KA.out.cell 0).trans (show _ = some (Value.int .i64 a) from rfl)
    have KAc1 := (KA.out.cell 1).trans (show _ = some (Value.string c) from rfl)
    have KAl := KA.out.lt
    have KAf := KA.out.frozen
    have KBc0 := (KB.out.cell 0).trans (show _ = some (Value.int .i64 b) from rfl)
    have KBc1 := (KB.out.cell 1).trans (show _ = some (Value.string c) from rfl)
    have KBl := KB.out.lt
    have KBf := KB.out.frozen
    go_wp2_with fail
    clear KAc0 KAc1 KAl KAf KBc0 KBc1 KBl KBf
    have R1 := Lib.hid (Blk.new v5 23 #[.int .i64 s, .string c])
    replace KA := Lib.hid (KA.out.alloc (.cells #[.int .i64 s, .string c] 23))
    replace KB := Lib.hid (KB.out.alloc (.cells #[.int .i64 s, .string c] 23))
    refine (B1.out _).mono ?_
    rintro e v6 ⟨rfl, hb⟩
    replace KA := Lib.hid (KA.out.call hb)
    replace KB := Lib.hid (KB.out.call hb)
    replace R1 := Lib.hid (R1.out.call hb)
    have HB6 := Lib.hid (bre2 (al HB5.out) (Nat.le_refl _) hb)
    clear hb
    have KAc0 := (KA.out.cell 0).trans (show _ = some (Value.int .i64 a) from rfl)
    have KAc1 := (KA.out.cell 1).trans (show _ = some (Value.string c) from rfl)
    have KAl := KA.out.lt
    have KAf := KA.out.frozen
    have KBc0 := (KB.out.cell 0).trans (show _ = some (Value.int .i64 b) from rfl)
    have KBc1 := (KB.out.cell 1).trans (show _ = some (Value.string c) from rfl)
    have KBl := KB.out.lt
    have KBf := KB.out.frozen
    have R1c0 := (R1.out.cell 0).trans (show _ = some (Value.int .i64 s) from rfl)
    have R1c1 := (R1.out.cell 1).trans (show _ = some (Value.string c) from rfl)
    have R1l := R1.out.lt
    have R1f := R1.out.frozen
    go_wp2_with fail
    clear KAc0 KAc1 KAl KAf KBc0 KBc1 KBl KBf R1c0 R1c1 R1l R1f
    have R2 := Lib.hid (Blk.new v6 23 #[.int .i64 a, .string c])
    replace KA := Lib.hid (KA.out.alloc (.cells #[.int .i64 a, .string c] 23))
    replace KB := Lib.hid (KB.out.alloc (.cells #[.int .i64 a, .string c] 23))
    replace R1 := Lib.hid (R1.out.alloc (.cells #[.int .i64 a, .string c] 23))
    refine (AW.out _ (HX.out.call (al HB6.out)) (HP.out.call (al HB6.out))).mono ?_
    rintro e v7 ⟨rfl, hb⟩
    replace KA := Lib.hid (KA.out.call hb)
    replace KB := Lib.hid (KB.out.call hb)
    replace R1 := Lib.hid (R1.out.call hb)
    replace R2 := Lib.hid (R2.out.call hb)
    have HB7 := Lib.hid (bre2 (al HB6.out) (Nat.le_refl _) hb)
    clear hb
    have KAc0 := (KA.out.cell 0).trans (show _ = some (Value.int .i64 a) from rfl)
    have KAc1 := (KA.out.cell 1).trans (show _ = some (Value.string c) from rfl)
    have KAl := KA.out.lt
    have KAf := KA.out.frozen
    have KBc0 := (KB.out.cell 0).trans (show _ = some (Value.int .i64 b) from rfl)
    have KBc1 := (KB.out.cell 1).trans (show _ = some (Value.string c) from rfl)
    have KBl := KB.out.lt
    have KBf := KB.out.frozen
    have R1c0 := (R1.out.cell 0).trans (show _ = some (Value.int .i64 s) from rfl)
    have R1c1 := (R1.out.cell 1).trans (show _ = some (Value.string c) from rfl)
    have R1l := R1.out.lt
    have R1f := R1.out.frozen
    have R2c0 := (R2.out.cell 0).trans (show _ = some (Value.int .i64 a) from rfl)
    have R2c1 := (R2.out.cell 1).trans (show _ = some (Value.string c) from rfl)
    have R2l := R2.out.lt
    have R2f := R2.out.frozen
    go_wp2_with fail
    go_ret
    exact ⟨rfl, HB7.out⟩
set_option maxHeartbeats 8000000 in
set_option maxRecDepth 100000 in
theorem m11 (a : Int) (c : ByteArray) (b : Int) (n : Int) (w : World) (hc : c.size ≤ maxLen) (hX : XT w) (hP : TabP w) (hz : mchk a c = 0) (hz2 : mchk b c = 0) (h0 : -4503599627370496 ≤ a + b) (h1 : a + b ≤ 4503599627370496) (n1 : 1 ≤ n) (n2 : n ≤ 1099511627776) :
    Calls Tryd.prog 9 #[mo a c, mo b c, .int .i64 n] w fun e w' => e = .returned (.bool true) ∧ Below w.heap.size w w' := by
  obtain ⟨hcl, a0, a1⟩ := mchk_zero hz
  obtain ⟨_, b0, b1⟩ := mchk_zero hz2
  have ch0 : chk2 0 0 c c = 0 := by unfold chk2; rw [if_pos (by decide), if_pos (by decide), if_pos (beq_self_eq_true _)]
  have K1 := Lib.hid (fun w => mcheck_any a c hc w)
  have K2 := Lib.hid (fun w => mcheck_any b c hc w)
  have C1 := Lib.hid (fun w => cmp_any a b c c hc hc w)
  have C2 := Lib.hid (fun w => cmp_any b a c c hc hc w)
  have A1 := Lib.hid (fun w => add_any a b c c hc hc w)
  rw [hz] at K1
  rw [hz2] at K2
  rw [hz, hz2, ch0, if_pos (show ((0 : Int) == 0) = true from rfl)] at C1
  rw [hz, hz2, ch0, if_pos (show ((0 : Int) == 0) = true from rfl)] at C2
  rw [hz, hz2, ch0] at A1
  have e1 : adE 0 (a + b) = 0 := by unfold adE; rw [if_pos (show ((0 : Int) == 0) = true from rfl), if_pos ⟨h0, h1⟩]
  have e2 : adV 0 (a + b) c = mo (a + b) c := by unfold adV; rw [e1, if_pos (show ((0 : Int) == 0) = true from rfl)]
  rw [e1, e2] at A1
  have hzs : mchk (a + b) c = 0 := by rw [mchk_of hcl, if_pos ⟨h0, h1⟩]
  have B1 := Lib.hid (fun w => sub_any (a + b) b c c hc hc w)
  rw [hzs, hz2, ch0] at B1
  have e3 : adE 0 (a + b - b) = 0 := by unfold adE; rw [if_pos (show ((0 : Int) == 0) = true from rfl), if_pos (by omega)]
  have e4 : adV 0 (a + b - b) c = mo a c := by unfold adV; rw [e3, if_pos (show ((0 : Int) == 0) = true from rfl), show a + b - b = a by omega]
  rw [e3, e4] at B1
  have hw : IntKind.i64.wrap (a + b) = a + b := by rw [IntKind.wrap_i64]; omega
  obtain ⟨s, hs⟩ : ∃ s, s = a + b := ⟨_, rfl⟩
  rw [← hs] at A1 B1 hw
  have hsum : a + b = s := hs.symm
  clear hs e1 e2 e3 e4 hzs h0 h1
  have S1 := Lib.hid (fun (k : Nat) (k1 : 1 ≤ k) (k2 : k ≤ 4) w => scale_same a c n k hc hz n1 n2 (by omega) (by omega) w)
  have N1 : decide (n < 1) = false := decide_eq_false (by omega)
  have N2 : decide (1099511627776 < n) = false := decide_eq_false (by omega)
  obtain ⟨x, hx⟩ : ∃ x, x = cmpI a b := ⟨_, rfl⟩
  obtain ⟨y, hy⟩ : ∃ y, y = cmpI b a := ⟨_, rfl⟩
  rw [← hx] at C1
  rw [← hy] at C2
  have f0 : x = -1 ∧ y = 1 ∧ a < b ∨ x = 1 ∧ y = -1 ∧ b < a ∨ x = 0 ∧ y = 0 ∧ a = b := by unfold cmpI at hx hy; split at hx <;> split at hy <;> (try split at hx) <;> (try split at hy) <;> omega
  have f1 : IntKind.i64.wrap (-y) = -y := by rw [IntKind.wrap_i64]; omega
  have f2 : (x != -y) = false := by rw [bne_eq_false_iff_eq]; omega
  have f2b : (x == -y) = true := by rw [beq_iff_eq]; omega
  obtain ⟨B, f3⟩ : ∃ B, decide (x < 0) = B := ⟨_, rfl⟩
  have f4 : decide (a < b) = B := by rw [← f3]; exact decide_eq_decide.2 (by omega)
  obtain ⟨D, f5⟩ : ∃ D, (x == 0) = D := ⟨_, rfl⟩
  have f6 : (a == b) = D := by rw [← f5, Bool.eq_iff_iff, beq_iff_eq, beq_iff_eq]; omega
  clear f0 hx hy
  have AW : Hid (∀ w, XT w → TabP w → _) := Lib.hid awake_any
  have HX := Lib.hid hX
  have HP := Lib.hid hP
  unfold mo at *
  clear hc hX hP hz hz2 ch0 a0 a1 b0 b1 hcl
  all_goals cases D
  all_goals
    go_enter Tryd.func9, Tryd.ntmps9
    go_wp2_with fail
    have KA := Lib.hid ((Blk.new w 23 #[.int .i64 a, .string c]).alloc (.cells #[.int .i64 b, .string c] 23))
    have KB := Lib.hid (Blk.new (w.alloc (.cells #[.int .i64 a, .string c] 23)) 23 #[.int .i64 b, .string c])
    rw [show (w.alloc (.cells #[.int .i64 a, .string c] 23)).heap.size = w.heap.size + 1 by simp] at KB
    generalize w.heap.size + 1 = gb at *
    refine (K1.out _).mono ?_
    rintro e v1 ⟨rfl, hb⟩
    replace KA := Lib.hid (KA.out.call hb)
    replace KB := Lib.hid (KB.out.call hb)
    have HB1 := Lib.hid (bre2 (al (al (Below.refl w.heap.size w))) (Nat.le_refl _) hb)
    clear hb
    have KAc0 := (KA.out.cell 0).trans (show _ = some (Value.int .i64 a) from rfl)
    have KAc1 := (KA.out.cell 1).trans (show _ = some (Value.string c) from rfl)
    have KAl := KA.out.lt
    have KAf := KA.out.frozen
    have KBc0 := (KB.out.cell 0).trans (show _ = some (Value.int .i64 b) from rfl)
    have KBc1 := (KB.out.cell 1).trans (show _ = some (Value.string c) from rfl)
    have KBl := KB.out.lt
    have KBf := KB.out.frozen
    go_wp2_with fail
    clear KAc0 KAc1 KAl KAf KBc0 KBc1 KBl KBf
    refine (K2.out _).mono ?_
    rintro e v2 ⟨rfl, hb⟩
    replace KA := Lib.hid (KA.out.call hb)
    replace KB := Lib.hid (KB.out.call hb)
    have HB2 := Lib.hid (bre2 HB1.out (Nat.le_refl _) hb)
    clear hb
    have KAc0 := (KA.out.cell 0).trans (show _ = some (Value.int .i64 a) from rfl)
    have KAc1 := (KA.out.cell 1).trans (show _ = some (Value.string c) from rfl)
    have KAl := KA.out.lt
    have KAf := KA.out.frozen
    have KBc0 := (KB.out.cell 0).trans (show _ = some (Value.int .i64 b) from rfl)
    have KBc1 := (KB.out.cell 1).trans (show _ = some (Value.string c) from rfl)
    have KBl := KB.out.lt
    have KBf := KB.out.frozen
    go_wp2_with fail
    clear KAc0 KAc1 KAl KAf KBc0 KBc1 KBl KBf
    refine (C1.out _).mono ?_
    rintro e v3 ⟨rfl, hb⟩
    replace KA := Lib.hid (KA.out.call hb)
    replace KB := Lib.hid (KB.out.call hb)
    have HB3 := Lib.hid (bre2 HB2.out (Nat.le_refl _) hb)
    clear hb
    have KAc0 := (KA.out.cell 0).trans (show _ = some (Value.int .i64 a) from rfl)
    have KAc1 := (KA.out.cell 1).trans (show _ = some (Value.string c) from rfl)
    have KAl := KA.out.lt
    have KAf := KA.out.frozen
    have KBc0 := (KB.out.cell 0).trans (show _ = some (Value.int .i64 b) from rfl)
    have KBc1 := (KB.out.cell 1).trans (show _ = some (Value.string c) from rfl)
    have KBl := KB.out.lt
    have KBf := KB.out.frozen
    go_wp2_with fail
    clear KAc0 KAc1 KAl KAf KBc0 KBc1 KBl KBf
    refine (C2.out _).mono ?_
    rintro e v4 ⟨rfl, hb⟩
    replace KA := Lib.hid (KA.out.call hb)
    replace KB := Lib.hid (KB.out.call hb)
    have HB4 := Lib.hid (bre2 HB3.out (Nat.le_refl _) hb)
    clear hb
    have KAc0 := (KA.out.cell 0).trans (show _ = some (Value.int .i64 a) from rfl)
    have KAc1 := (KA.out.cell 1).trans (show _ = some (Value.string c) from rfl)
    have KAl := KA.out.lt
    have KAf := KA.out.frozen
    have KBc0 := (KB.out.cell 0).trans (show _ = some (Value.int .i64 b) from rfl)
    have KBc1 := (KB.out.cell 1).trans (show _ = some (Value.string c) from rfl)
    have KBl := KB.out.lt
    have KBf := KB.out.frozen
    go_wp2_with fail
    clear KAc0 KAc1 KAl KAf KBc0 KBc1 KBl KBf
    refine (A1.out _).mono ?_
    rintro e v5 ⟨rfl, hb⟩
    replace KA := Lib.hid (KA.out.call hb)
    replace KB := Lib.hid (KB.out.call hb)
    have HB5 := Lib.hid (bre2 HB4.out (Nat.le_refl _) hb)
    clear hb
    have KAc0 := (KA.out.cell 0).trans (show _ = some (Value.int .i64 a) from rfl)
    have KAc1 := (KA.out.cell 1).trans (show _ = some (Value.string c) from rfl)
    have KAl := KA.out.lt
    have KAf := KA.out.frozen
    have KBc0 := (KB.out.cell 0).trans (show _ = some (Value.int .i64 b) from rfl)
    have KBc1 := (KB.out.cell 1).trans (show _ = some (Value.string c) from rfl)
    have KBl := KB.out.lt
    have KBf := KB.out.frozen
    go_wp2_with fail
    clear KAc0 KAc1 KAl KAf KBc0 KBc1 KBl KBf
    have R1 := Lib.hid (Blk.new v5 23 #[.int .i64 s, .string c])
    replace KA := Lib.hid (KA.out.alloc (.cells #[.int .i64 s, .string c] 23))
    replace KB := Lib.hid (KB.out.alloc (.cells #[.int .i64 s, .string c] 23))
    refine (B1.out _).mono ?_
    rintro e v6 ⟨rfl, hb⟩
    replace KA := Lib.hid (KA.out.call hb)
    replace KB := Lib.hid (KB.out.call hb)
    replace R1 := Lib.hid (R1.out.call hb)
    have HB6 := Lib.hid (bre2 (al HB5.out) (Nat.le_refl _) hb)
    clear hb
    have KAc0 := (KA.out.cell 0).trans (show _ = some (Value.int .i64 a) from rfl)
    have KAc1 := (KA.out.cell 1).trans (show _ = some (Value.string c) from rfl)
    have KAl := KA.out.lt
    have KAf := KA.out.frozen
    have KBc0 := (KB.out.cell 0).trans (show _ = some (Value.int .i64 b) from rfl)
    have KBc1 := (KB.out.cell 1).trans (show _ = some (Value.string c) from rfl)
    have KBl := KB.out.lt
    have KBf := KB.out.frozen
    have R1c0 := (R1.out.cell 0).trans (show _ = some (Value.int .i64 s) from rfl)
    have R1c1 := (R1.out.cell 1).trans (show _ = some (Value.string c) from rfl)
    have R1l := R1.out.lt
    have R1f := R1.out.frozen
    go_wp2_with fail
    clear KAc0 KAc1 KAl KAf KBc0 KBc1 KBl KBf R1c0 R1c1 R1l R1f
    have R2 := Lib.hid (Blk.new v6 23 #[.int .i64 a, .string c])
    replace KA := Lib.hid (KA.out.alloc (.cells #[.int .i64 a, .string c] 23))
    replace KB := Lib.hid (KB.out.alloc (.cells #[.int .i64 a, .string c] 23))
    replace R1 := Lib.hid (R1.out.alloc (.cells #[.int .i64 a, .string c] 23))
    go_loopg [15] 4 (fun g m wr => Below w.heap.size w wr ∧ Blk wr w.heap.size 23 #[.int .i64 a, .string c] ∧ ∃ k : Nat, g + k = 5 ∧ 1 ≤ k ∧ m = .int .i64 k)
    case atStart => exact ⟨(al HB6.out), KA.out, 1, rfl, by omega, rfl⟩
    case round =>
      obtain ⟨hB, hK, k, hk, hk1, rfl⟩ := hrel
      have HB := Lib.hid hB
      have HK := Lib.hid hK
      have HKK := Lib.hid hk
      clear hB hK
      by_cases hlt : k ≤ 4
      · have g1 : (k : Int) ≤ 4 := by omega
        have SC := Lib.hid (fun w => S1.out k (by omega) (by omega) w)
        have c0 := (HK.out.cell 0).trans (show _ = some (Value.int .i64 a) from rfl)
        have c1 := (HK.out.cell 1).trans (show _ = some (Value.string c) from rfl)
        have cl := HK.out.lt
        clear hk hlt
        go_wp2_with fail
        refine (SC.out _).mono ?_
        rintro e u1 ⟨rfl, hb⟩
        have HU := Lib.hid (HK.out.call hb)
        have HBU := Lib.hid (bre2 HB.out (Nat.le_refl _) hb)
        clear hb c0 c1 cl
        have c0 := (HU.out.cell 0).trans (show _ = some (Value.int .i64 a) from rfl)
        have c1 := (HU.out.cell 1).trans (show _ = some (Value.string c) from rfl)
        have cl := HU.out.lt
        go_wp2_with fail
        go_roundg (gk - 1)
        case measure => have := HKK.out; omega
        case rel => exact ⟨al HBU.out, HU.out.alloc _, k + 1, by have := HKK.out; omega, by omega, by go_num⟩
      · have g1 : ¬ (k : Int) ≤ 4 := by omega
        clear hk hlt
        go_wp2_with fail
        refine (AW.out _ (HX.out.call HB.out) (HP.out.call HB.out)).mono ?_
        rintro e u2 ⟨rfl, hb⟩
        have HBU := Lib.hid (bre2 HB.out (Nat.le_refl _) hb)
        clear hb
        go_wp2_with fail
        go_ret
        exact ⟨rfl, HBU.out⟩
theorem walk (a : Int) (c : ByteArray) (b : Int) (d : ByteArray) (n : Int) (w : World) (ha : (Lit.int .i64 a).wf = true) (hc : c.size ≤ maxLen) (hb : (Lit.int .i64 b).wf = true) (hd : d.size ≤ maxLen) (hn : (Lit.int .i64 n).wf = true) (hX : XT w) (hP : TabP w) :
    Calls Tryd.prog 9 #[mo a c, mo b d, .int .i64 n] w fun e w' => e = .returned (.bool true) ∧ Below w.heap.size w w' := by
  cases h1 : (mchk a c == 0)
  · exact w1 a c b d n w ha hc hb hd hn hX hP h1
  have z1 : mchk a c = 0 := by simpa using h1
  cases h2 : (mchk b d == 0)
  · exact w2 a c b d n w ha hc hb hd hn hX hP z1 h2
  have z2 : mchk b d = 0 := by simpa using h2
  by_cases h3 : c = d
  · subst h3
    by_cases h4 : -4503599627370496 ≤ a + b ∧ a + b ≤ 4503599627370496
    · by_cases h5 : n < 1 ∨ 1099511627776 < n
      · exact m10 a c b n w hc hX hP z1 z2 h4.1 h4.2 h5
      · exact m11 a c b n w hc hX hP z1 z2 h4.1 h4.2 (by omega) (by omega)
    · by_cases h5 : n < 1 ∨ 1099511627776 < n
      · exact m00 a c b n w hc hX hP z1 z2 h4 h5
      · exact m01 a c b n w hc hX hP z1 z2 h4 (by omega) (by omega)
  · exact w3 a c b d n w ha hc hb hd hn hX hP z1 z2 h3
end moneyOrder
end Go.Proofs.YtompeealmgdfhaaDoor
