/- The walks of MoneyScales, MoneyAdds. -/
import Derived.Test.YtompeealmgdfhaaDoorZ
set_option linter.unusedVariables false
set_option linter.unusedSimpArgs false
namespace Go.Proofs.YtompeealmgdfhaaDoor
open Go.Sort Go.ChangeShapes Go.WideShapes Go.ChangeAt Go.RowKit
open div
theorem wf_i64 {a : Int} (h : (Lit.int .i64 a).wf = true) : -9223372036854775808 ≤ a ∧ a ≤ 9223372036854775807 := by simp [Lit.wf, IntKind.min, IntKind.max, IntKind.signed, IntKind.bits] at h; omega
namespace moneyScales
set_option maxHeartbeats 4000000 in
set_option maxRecDepth 20000 in
theorem walk (a : Int) (c : ByteArray) (n d m : Int) (w : World) (ha : (Lit.int .i64 a).wf = true) (hc : c.size ≤ maxLen) (hn : (Lit.int .i64 n).wf = true) (hd : (Lit.int .i64 d).wf = true) (hm : (Lit.int .i64 m).wf = true) (hX : XT w) (hP : TabP w) :
    Calls Tryd.prog 4 #[mo a c, .int .i64 n, .int .i64 d, .int .i64 m] w fun e w' => e = .returned (.bool true) ∧ Below w.heap.size w w' := by
  obtain ⟨v, s, E, S1, S2⟩ := scale_both a c n d m hc
  replace S1 := Lib.hid S1
  replace S2 := Lib.hid S2
  have AW : Hid (∀ w, XT w → TabP w → _) := Lib.hid awake_any
  have HX := Lib.hid hX
  have HP := Lib.hid hP
  unfold mo at *
  clear ha hc hn hd hm hX hP
  go_enter Tryd.func4, Tryd.ntmps4
  go_wp2_with fail
  have KA := Lib.hid (Blk.new w 23 #[.int .i64 a, .string c])
  refine (S1.out _).mono ?_
  rintro e v1 ⟨rfl, hb⟩
  replace KA := Lib.hid (KA.out.call hb)
  have HB1 := Lib.hid (bre2 (al (Below.refl w.heap.size w)) (Nat.le_refl _) hb)
  clear hb
  have KAc0 := (KA.out.cell 0).trans (show _ = some (Value.int .i64 a) from rfl)
  have KAc1 := (KA.out.cell 1).trans (show _ = some (Value.string c) from rfl)
  have KAl := KA.out.lt
  have KAf := KA.out.frozen
  go_wp2_with fail
  clear KAc0 KAc1 KAl KAf
  have R1 := Lib.hid (Blk.new v1 23 #[.int .i64 v, .string s])
  replace KA := Lib.hid (KA.out.alloc (.cells #[.int .i64 v, .string s] 23))
  refine (S2.out _).mono ?_
  rintro e v2 ⟨rfl, hb⟩
  replace KA := Lib.hid (KA.out.call hb)
  replace R1 := Lib.hid (R1.out.call hb)
  have HB2 := Lib.hid (bre2 (al HB1.out) (Nat.le_refl _) hb)
  clear hb
  have KAc0 := (KA.out.cell 0).trans (show _ = some (Value.int .i64 a) from rfl)
  have KAc1 := (KA.out.cell 1).trans (show _ = some (Value.string c) from rfl)
  have KAl := KA.out.lt
  have KAf := KA.out.frozen
  have R1c0 := (R1.out.cell 0).trans (show _ = some (Value.int .i64 v) from rfl)
  have R1c1 := (R1.out.cell 1).trans (show _ = some (Value.string s) from rfl)
  have R1l := R1.out.lt
  have R1f := R1.out.frozen
  go_wp2_with fail
  clear KAc0 KAc1 KAl KAf R1c0 R1c1 R1l R1f
  have R2 := Lib.hid (Blk.new v2 23 #[.int .i64 v, .string s])
  replace KA := Lib.hid (KA.out.alloc (.cells #[.int .i64 v, .string s] 23))
  replace R1 := Lib.hid (R1.out.alloc (.cells #[.int .i64 v, .string s] 23))
  refine (AW.out _ (HX.out.call (al HB2.out)) (HP.out.call (al HB2.out))).mono ?_
  rintro e v3 ⟨rfl, hb⟩
  replace KA := Lib.hid (KA.out.call hb)
  replace R1 := Lib.hid (R1.out.call hb)
  replace R2 := Lib.hid (R2.out.call hb)
  have HB3 := Lib.hid (bre2 (al HB2.out) (Nat.le_refl _) hb)
  clear hb
  have KAc0 := (KA.out.cell 0).trans (show _ = some (Value.int .i64 a) from rfl)
  have KAc1 := (KA.out.cell 1).trans (show _ = some (Value.string c) from rfl)
  have KAl := KA.out.lt
  have KAf := KA.out.frozen
  have R1c0 := (R1.out.cell 0).trans (show _ = some (Value.int .i64 v) from rfl)
  have R1c1 := (R1.out.cell 1).trans (show _ = some (Value.string s) from rfl)
  have R1l := R1.out.lt
  have R1f := R1.out.frozen
  have R2c0 := (R2.out.cell 0).trans (show _ = some (Value.int .i64 v) from rfl)
  have R2c1 := (R2.out.cell 1).trans (show _ = some (Value.string s) from rfl)
  have R2l := R2.out.lt
  have R2f := R2.out.frozen
  go_wp2_with fail
  go_ret
  exact ⟨rfl, HB3.out⟩
end moneyScales
abbrev SAdd (w : World) (ga r1 r2 r3 r4 : Nat) (a x1 x2 : Int) (c s1 s2 : ByteArray) (w' : World) : Prop :=
  w'.cell? ⟨ga, 0, none⟩ = some (.int .i64 a) ∧ w'.cell? ⟨ga, 1, none⟩ = some (.string c) ∧ w'.cell? ⟨r1, 0, none⟩ = some (.int .i64 x1) ∧ w'.cell? ⟨r1, 1, none⟩ = some (.string s1) ∧ w'.cell? ⟨r2, 0, none⟩ = some (.int .i64 x1) ∧ w'.cell? ⟨r2, 1, none⟩ = some (.string s1) ∧ w'.cell? ⟨r3, 0, none⟩ = some (.int .i64 x2) ∧ w'.cell? ⟨r3, 1, none⟩ = some (.string s2) ∧ w'.cell? ⟨r4, 0, none⟩ = some (.int .i64 x2) ∧ w'.cell? ⟨r4, 1, none⟩ = some (.string s2) ∧ XT w' ∧ TabP w' ∧ Below w.heap.size w w'
theorem SAdd.call {w W w1 : World} {ga r1 r2 r3 r4 : Nat} {a x1 x2 : Int} {c s1 s2 : ByteArray} (h : SAdd w ga r1 r2 r3 r4 a x1 x2 c s1 s2 W) (hb : Below W.heap.size W w1) : SAdd w ga r1 r2 r3 r4 a x1 x2 c s1 s2 w1 := by
  obtain ⟨h0, h1, h2, h3, h4, h5, h6, h7, h8, h9, h10, h11, h12⟩ := h
  exact ⟨cell_call h0 hb, cell_call h1 hb, cell_call h2 hb, cell_call h3 hb, cell_call h4 hb, cell_call h5 hb, cell_call h6 hb, cell_call h7 hb, cell_call h8 hb, cell_call h9 hb, h10.call hb, h11.call hb, below_call h12 hb⟩
theorem SAdd.drew {w W : World} {ga r1 r2 r3 r4 : Nat} {a x1 x2 : Int} {c s1 s2 : ByteArray} (h : SAdd w ga r1 r2 r3 r4 a x1 x2 c s1 s2 W) : SAdd w ga r1 r2 r3 r4 a x1 x2 c s1 s2 W.drew := SAdd.call h (Below.drew (Below.refl _ _))
theorem SAdd.al_ {w W : World} {o : Obj} {ga r1 r2 r3 r4 : Nat} {a x1 x2 : Int} {c s1 s2 : ByteArray} (h : SAdd w ga r1 r2 r3 r4 a x1 x2 c s1 s2 W) : SAdd w ga r1 r2 r3 r4 a x1 x2 c s1 s2 (W.alloc o) := SAdd.call h (al (Below.refl _ _))
theorem SAdd.bel {w W : World} {ga r1 r2 r3 r4 : Nat} {a x1 x2 : Int} {c s1 s2 : ByteArray} (h : SAdd w ga r1 r2 r3 r4 a x1 x2 c s1 s2 W) : Below w.heap.size w W := h.2.2.2.2.2.2.2.2.2.2.2.2
theorem SAdd.xt {w W : World} {ga r1 r2 r3 r4 : Nat} {a x1 x2 : Int} {c s1 s2 : ByteArray} (h : SAdd w ga r1 r2 r3 r4 a x1 x2 c s1 s2 W) : XT W := h.2.2.2.2.2.2.2.2.2.2.1
theorem SAdd.tp {w W : World} {ga r1 r2 r3 r4 : Nat} {a x1 x2 : Int} {c s1 s2 : ByteArray} (h : SAdd w ga r1 r2 r3 r4 a x1 x2 c s1 s2 W) : TabP W := h.2.2.2.2.2.2.2.2.2.2.2.1
theorem cell_call_ {W w1 : World} {p : Addr} {v : Value} (h : W.cell? p = some v) (hb : Below W.heap.size W w1) : w1.cell? p = some v := cell_call h hb
theorem ad_mo (E s : Int) (c : ByteArray) : ∃ (v : Int) (t : ByteArray), adV E s c = mo v t := by
  unfold adV
  split
  · exact ⟨_, _, rfl⟩
  · exact ⟨_, _, rfl⟩
namespace moneyAdds
set_option maxHeartbeats 8000000 in
set_option maxRecDepth 100000 in
theorem walk (a : Int) (c : ByteArray) (b : Int) (d : ByteArray) (w : World) (ha : (Lit.int .i64 a).wf = true) (hc : c.size ≤ maxLen) (hb : (Lit.int .i64 b).wf = true) (hd : d.size ≤ maxLen) (hX : XT w) (hP : TabP w) :
    Calls Tryd.prog 3 #[mo a c, mo b d] w fun e w' => e = .returned (.bool true) ∧ Below w.heap.size w w' := by
  have A1 := Lib.hid (fun w => add_any a b c d hc hd w)
  have A2 := Lib.hid (fun w => radd_any a b c d hc hd w)
  have B1 := Lib.hid (fun w => sub_any a b c d hc hd w)
  have B2 := Lib.hid (fun w => rsub_any a b c d hc hd w)
  have C1 := Lib.hid (fun w => cmp_any a b c d hc hd w)
  have C2 := Lib.hid (fun w => rcmp_any a b c d hc hd w)
  have K1 := Lib.hid (fun w => mcheck_any a c hc w)
  have K2 := Lib.hid (fun w => rmcheck_any a c hc w)
  obtain ⟨x1, s1, e1⟩ := ad_mo (chk2 (mchk a c) (mchk b d) c d) (a + b) c
  obtain ⟨x2, s2, e2⟩ := ad_mo (chk2 (mchk a c) (mchk b d) c d) (a - b) c
  rw [e1] at A1 A2
  rw [e2] at B1 B2
  generalize adE (chk2 (mchk a c) (mchk b d) c d) (a + b) = E1 at *
  generalize adE (chk2 (mchk a c) (mchk b d) c d) (a - b) = E2 at *
  generalize (if (chk2 (mchk a c) (mchk b d) c d == 0) = true then cmpI a b else 0) = z at *
  generalize chk2 (mchk a c) (mchk b d) c d = E3 at *
  generalize mchk a c = E4 at *
  have AW : Hid (∀ w, XT w → TabP w → _) := Lib.hid awake_any
  have HX := Lib.hid hX
  have HP := Lib.hid hP
  unfold mo at *
  clear e1 e2 ha hc hb hd hX hP
  go_enter Tryd.func3, Tryd.ntmps3
  go_wp2_with fail
  have KA := Lib.hid ((Blk.new w 23 #[.int .i64 a, .string c]).alloc (.cells #[.int .i64 b, .string d] 23))
  have KB := Lib.hid (Blk.new (w.alloc (.cells #[.int .i64 a, .string c] 23)) 23 #[.int .i64 b, .string d])
  rw [show (w.alloc (.cells #[.int .i64 a, .string c] 23)).heap.size = w.heap.size + 1 by simp] at KB
  generalize w.heap.size + 1 = gb at *
  refine (A1.out _).mono ?_
  rintro e v1 ⟨rfl, hb⟩
  replace KA := Lib.hid (KA.out.call hb)
  replace KB := Lib.hid (KB.out.call hb)
  have HB1 := Lib.hid (bre2 (al (al (Below.refl w.heap.size w))) (Nat.le_refl _) hb)
  clear hb
  have KAc0 := (KA.out.cell 0).trans (show _ = some (Value.int .i64 a) from rfl)
  have KAc1 := (KA.out.cell 1).trans (show _ = some (Value.string c) from rfl)
  have KAl := KA.out.lt
  have KAf := KA.out.frozen
  have KBc0 := (KB.out.cell 0).trans (show _ = some (Value.int .i64 b) from rfl)
  have KBc1 := (KB.out.cell 1).trans (show _ = some (Value.string d) from rfl)
  have KBl := KB.out.lt
  have KBf := KB.out.frozen
  go_wp2_with fail
  clear KAc0 KAc1 KAl KAf KBc0 KBc1 KBl KBf
  have R1 := Lib.hid (Blk.new v1 23 #[.int .i64 x1, .string s1])
  replace KA := Lib.hid (KA.out.alloc (.cells #[.int .i64 x1, .string s1] 23))
  replace KB := Lib.hid (KB.out.alloc (.cells #[.int .i64 x1, .string s1] 23))
  refine (A2.out _).mono ?_
  rintro e v2 ⟨rfl, hb⟩
  replace KA := Lib.hid (KA.out.call hb)
  replace KB := Lib.hid (KB.out.call hb)
  replace R1 := Lib.hid (R1.out.call hb)
  have HB2 := Lib.hid (bre2 (al HB1.out) (Nat.le_refl _) hb)
  clear hb
  have KAc0 := (KA.out.cell 0).trans (show _ = some (Value.int .i64 a) from rfl)
  have KAc1 := (KA.out.cell 1).trans (show _ = some (Value.string c) from rfl)
  have KAl := KA.out.lt
  have KAf := KA.out.frozen
  have KBc0 := (KB.out.cell 0).trans (show _ = some (Value.int .i64 b) from rfl)
  have KBc1 := (KB.out.cell 1).trans (show _ = some (Value.string d) from rfl)
  have KBl := KB.out.lt
  have KBf := KB.out.frozen
  have R1c0 := (R1.out.cell 0).trans (show _ = some (Value.int .i64 x1) from rfl)
  have R1c1 := (R1.out.cell 1).trans (show _ = some (Value.string s1) from rfl)
  have R1l := R1.out.lt
  have R1f := R1.out.frozen
  go_wp2_with fail
  clear KAc0 KAc1 KAl KAf KBc0 KBc1 KBl KBf R1c0 R1c1 R1l R1f
  have R2 := Lib.hid (Blk.new v2 23 #[.int .i64 x1, .string s1])
  replace KA := Lib.hid (KA.out.alloc (.cells #[.int .i64 x1, .string s1] 23))
  replace KB := Lib.hid (KB.out.alloc (.cells #[.int .i64 x1, .string s1] 23))
  replace R1 := Lib.hid (R1.out.alloc (.cells #[.int .i64 x1, .string s1] 23))
  refine (B1.out _).mono ?_
  rintro e v3 ⟨rfl, hb⟩
  replace KA := Lib.hid (KA.out.call hb)
  replace KB := Lib.hid (KB.out.call hb)
  replace R1 := Lib.hid (R1.out.call hb)
  replace R2 := Lib.hid (R2.out.call hb)
  have HB3 := Lib.hid (bre2 (al HB2.out) (Nat.le_refl _) hb)
  clear hb
  have KAc0 := (KA.out.cell 0).trans (show _ = some (Value.int .i64 a) from rfl)
  have KAc1 := (KA.out.cell 1).trans (show _ = some (Value.string c) from rfl)
  have KAl := KA.out.lt
  have KAf := KA.out.frozen
  have KBc0 := (KB.out.cell 0).trans (show _ = some (Value.int .i64 b) from rfl)
  have KBc1 := (KB.out.cell 1).trans (show _ = some (Value.string d) from rfl)
  have KBl := KB.out.lt
  have KBf := KB.out.frozen
  have R1c0 := (R1.out.cell 0).trans (show _ = some (Value.int .i64 x1) from rfl)
  have R1c1 := (R1.out.cell 1).trans (show _ = some (Value.string s1) from rfl)
  have R1l := R1.out.lt
  have R1f := R1.out.frozen
  have R2c0 := (R2.out.cell 0).trans (show _ = some (Value.int .i64 x1) from rfl)
  have R2c1 := (R2.out.cell 1).trans (show _ = some (Value.string s1) from rfl)
  have R2l := R2.out.lt
  have R2f := R2.out.frozen
  go_wp2_with fail
  clear KAc0 KAc1 KAl KAf KBc0 KBc1 KBl KBf R1c0 R1c1 R1l R1f R2c0 R2c1 R2l R2f
  have R3 := Lib.hid (Blk.new v3 23 #[.int .i64 x2, .string s2])
  replace KA := Lib.hid (KA.out.alloc (.cells #[.int .i64 x2, .string s2] 23))
  replace KB := Lib.hid (KB.out.alloc (.cells #[.int .i64 x2, .string s2] 23))
  replace R1 := Lib.hid (R1.out.alloc (.cells #[.int .i64 x2, .string s2] 23))
  replace R2 := Lib.hid (R2.out.alloc (.cells #[.int .i64 x2, .string s2] 23))
  refine (B2.out _).mono ?_
  rintro e v4 ⟨rfl, hb⟩
  replace KA := Lib.hid (KA.out.call hb)
  replace KB := Lib.hid (KB.out.call hb)
  replace R1 := Lib.hid (R1.out.call hb)
  replace R2 := Lib.hid (R2.out.call hb)
  replace R3 := Lib.hid (R3.out.call hb)
  have HB4 := Lib.hid (bre2 (al HB3.out) (Nat.le_refl _) hb)
  clear hb
  have KAc0 := (KA.out.cell 0).trans (show _ = some (Value.int .i64 a) from rfl)
  have KAc1 := (KA.out.cell 1).trans (show _ = some (Value.string c) from rfl)
  have KAl := KA.out.lt
  have KAf := KA.out.frozen
  have KBc0 := (KB.out.cell 0).trans (show _ = some (Value.int .i64 b) from rfl)
  have KBc1 := (KB.out.cell 1).trans (show _ = some (Value.string d) from rfl)
  have KBl := KB.out.lt
  have KBf := KB.out.frozen
  have R1c0 := (R1.out.cell 0).trans (show _ = some (Value.int .i64 x1) from rfl)
  have R1c1 := (R1.out.cell 1).trans (show _ = some (Value.string s1) from rfl)
  have R1l := R1.out.lt
  have R1f := R1.out.frozen
  have R2c0 := (R2.out.cell 0).trans (show _ = some (Value.int .i64 x1) from rfl)
  have R2c1 := (R2.out.cell 1).trans (show _ = some (Value.string s1) from rfl)
  have R2l := R2.out.lt
  have R2f := R2.out.frozen
  have R3c0 := (R3.out.cell 0).trans (show _ = some (Value.int .i64 x2) from rfl)
  have R3c1 := (R3.out.cell 1).trans (show _ = some (Value.string s2) from rfl)
  have R3l := R3.out.lt
  have R3f := R3.out.frozen
  go_wp2_with fail
  clear KAc0 KAc1 KAl KAf KBc0 KBc1 KBl KBf R1c0 R1c1 R1l R1f R2c0 R2c1 R2l R2f R3c0 R3c1 R3l R3f
  have R4 := Lib.hid (Blk.new v4 23 #[.int .i64 x2, .string s2])
  replace KA := Lib.hid (KA.out.alloc (.cells #[.int .i64 x2, .string s2] 23))
  replace KB := Lib.hid (KB.out.alloc (.cells #[.int .i64 x2, .string s2] 23))
  replace R1 := Lib.hid (R1.out.alloc (.cells #[.int .i64 x2, .string s2] 23))
  replace R2 := Lib.hid (R2.out.alloc (.cells #[.int .i64 x2, .string s2] 23))
  replace R3 := Lib.hid (R3.out.alloc (.cells #[.int .i64 x2, .string s2] 23))
  refine (C1.out _).mono ?_
  rintro e v5 ⟨rfl, hb⟩
  replace KA := Lib.hid (KA.out.call hb)
  replace KB := Lib.hid (KB.out.call hb)
  replace R1 := Lib.hid (R1.out.call hb)
  replace R2 := Lib.hid (R2.out.call hb)
  replace R3 := Lib.hid (R3.out.call hb)
  replace R4 := Lib.hid (R4.out.call hb)
  have HB5 := Lib.hid (bre2 (al HB4.out) (Nat.le_refl _) hb)
  clear hb
  have KAc0 := (KA.out.cell 0).trans (show _ = some (Value.int .i64 a) from rfl)
  have KAc1 := (KA.out.cell 1).trans (show _ = some (Value.string c) from rfl)
  have KAl := KA.out.lt
  have KAf := KA.out.frozen
  have KBc0 := (KB.out.cell 0).trans (show _ = some (Value.int .i64 b) from rfl)
  have KBc1 := (KB.out.cell 1).trans (show _ = some (Value.string d) from rfl)
  have KBl := KB.out.lt
  have KBf := KB.out.frozen
  have R1c0 := (R1.out.cell 0).trans (show _ = some (Value.int .i64 x1) from rfl)
  have R1c1 := (R1.out.cell 1).trans (show _ = some (Value.string s1) from rfl)
  have R1l := R1.out.lt
  have R1f := R1.out.frozen
  have R2c0 := (R2.out.cell 0).trans (show _ = some (Value.int .i64 x1) from rfl)
  have R2c1 := (R2.out.cell 1).trans (show _ = some (Value.string s1) from rfl)
  have R2l := R2.out.lt
  have R2f := R2.out.frozen
  have R3c0 := (R3.out.cell 0).trans (show _ = some (Value.int .i64 x2) from rfl)
  have R3c1 := (R3.out.cell 1).trans (show _ = some (Value.string s2) from rfl)
  have R3l := R3.out.lt
  have R3f := R3.out.frozen
  have R4c0 := (R4.out.cell 0).trans (show _ = some (Value.int .i64 x2) from rfl)
  have R4c1 := (R4.out.cell 1).trans (show _ = some (Value.string s2) from rfl)
  have R4l := R4.out.lt
  have R4f := R4.out.frozen
  go_wp2_with fail
  clear KAc0 KAc1 KAl KAf KBc0 KBc1 KBl KBf R1c0 R1c1 R1l R1f R2c0 R2c1 R2l R2f R3c0 R3c1 R3l R3f R4c0 R4c1 R4l R4f
  refine (C2.out _).mono ?_
  rintro e v6 ⟨rfl, hb⟩
  replace KA := Lib.hid (KA.out.call hb)
  replace KB := Lib.hid (KB.out.call hb)
  replace R1 := Lib.hid (R1.out.call hb)
  replace R2 := Lib.hid (R2.out.call hb)
  replace R3 := Lib.hid (R3.out.call hb)
  replace R4 := Lib.hid (R4.out.call hb)
  have HB6 := Lib.hid (bre2 HB5.out (Nat.le_refl _) hb)
  clear hb
  have KAc0 := (KA.out.cell 0).trans (show _ = some (Value.int .i64 a) from rfl)
  have KAc1 := (KA.out.cell 1).trans (show _ = some (Value.string c) from rfl)
  have KAl := KA.out.lt
  have KAf := KA.out.frozen
  have KBc0 := (KB.out.cell 0).trans (show _ = some (Value.int .i64 b) from rfl)
  have KBc1 := (KB.out.cell 1).trans (show _ = some (Value.string d) from rfl)
  have KBl := KB.out.lt
  have KBf := KB.out.frozen
  have R1c0 := (R1.out.cell 0).trans (show _ = some (Value.int .i64 x1) from rfl)
  have R1c1 := (R1.out.cell 1).trans (show _ = some (Value.string s1) from rfl)
  have R1l := R1.out.lt
  have R1f := R1.out.frozen
  have R2c0 := (R2.out.cell 0).trans (show _ = some (Value.int .i64 x1) from rfl)
  have R2c1 := (R2.out.cell 1).trans (show _ = some (Value.string s1) from rfl)
  have R2l := R2.out.lt
  have R2f := R2.out.frozen
  have R3c0 := (R3.out.cell 0).trans (show _ = some (Value.int .i64 x2) from rfl)
  have R3c1 := (R3.out.cell 1).trans (show _ = some (Value.string s2) from rfl)
  have R3l := R3.out.lt
  have R3f := R3.out.frozen
  have R4c0 := (R4.out.cell 0).trans (show _ = some (Value.int .i64 x2) from rfl)
  have R4c1 := (R4.out.cell 1).trans (show _ = some (Value.string s2) from rfl)
  have R4l := R4.out.lt
  have R4f := R4.out.frozen
  go_wp2_with fail
  have hxw := HX.out.call HB6.out
  have hpw := HP.out.call HB6.out
  have hw := HB6.out
  clear KAc0 KAc1 KAl KAf KBc0 KBc1 KBl KBf R1c0 R1c1 R1l R1f R2c0 R2c1 R2l R2f R3c0 R3c1 R3l R3f R4c0 R4c1 R4l R4f
  have S0 : SAdd w w.heap.size v1.heap.size v2.heap.size v3.heap.size v4.heap.size a x1 x2 c s1 s2 v6 := ⟨KA.out.cell 0, KA.out.cell 1, R1.out.cell 0, R1.out.cell 1, R2.out.cell 0, R2.out.cell 1, R3.out.cell 0, R3.out.cell 1, R4.out.cell 0, R4.out.cell 1, hxw, hpw, hw⟩
  generalize v1.heap.size = r1 at *
  generalize v2.heap.size = r2 at *
  generalize v3.heap.size = r3 at *
  generalize v4.heap.size = r4 at *
  clear KA KB R1 R2 R3 R4
  go_region_held3 (fun w' => w'.cell? ⟨w.heap.size, 0, none⟩ = some (.int .i64 a) ∧ w'.cell? ⟨w.heap.size, 1, none⟩ = some (.string c) ∧ w'.cell? ⟨r1, 0, none⟩ = some (.int .i64 x1) ∧ w'.cell? ⟨r1, 1, none⟩ = some (.string s1) ∧ w'.cell? ⟨r2, 0, none⟩ = some (.int .i64 x1) ∧ w'.cell? ⟨r2, 1, none⟩ = some (.string s1) ∧ w'.cell? ⟨r3, 0, none⟩ = some (.int .i64 x2) ∧ w'.cell? ⟨r3, 1, none⟩ = some (.string s2) ∧ w'.cell? ⟨r4, 0, none⟩ = some (.int .i64 x2) ∧ w'.cell? ⟨r4, 1, none⟩ = some (.string s2) ∧ XT w' ∧ TabP w' ∧ Below w.heap.size w w')
    (first | (exact SAdd.drew (by assumption)) | (exact SAdd.call (by assumption) (by assumption)))
    (first
      | (go_at_call 16; refine (K1.out _).mono ?_; rintro e u1 ⟨rfl, hu⟩)
      | (go_at_call 17; refine (K2.out _).mono ?_; rintro e u2 ⟨rfl, hu⟩)
      | (go_at_call 18; refine (AW.out _ (SAdd.xt (by assumption)) (SAdd.tp (by assumption))).mono ?_; rintro e u3 ⟨rfl, hu⟩))
  all_goals
    have hB : Below w.heap.size w u3 := SAdd.bel (by assumption)
    have HB := Lib.hid hB
    clear hB
    go_wp2_with fail
    go_ret
    exact ⟨rfl, HB.out⟩
end moneyAdds
end Go.Proofs.YtompeealmgdfhaaDoor
