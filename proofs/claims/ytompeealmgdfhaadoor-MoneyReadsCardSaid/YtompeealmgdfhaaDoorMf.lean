/- The walk of MoneyReads. -/
import Derived.Test.YtompeealmgdfhaaDoorMe
import Derived.Test.YtompeealmgdfhaaDoorZ
set_option linter.unusedVariables false
set_option linter.unusedSimpArgs false
namespace Go.Proofs.YtompeealmgdfhaaDoor
open Go.Sort Go.ChangeShapes Go.WideShapes Go.ChangeAt Go.RowKit
open div
theorem fmt_all (a : Int) (c : ByteArray) (hc : c.size ≤ maxLen) : ∃ t : ByteArray, t.size ≤ 100 ∧ (∀ w, XT w → TabP w → Calls Tryd.prog 27 #[mo a c] w fun e w' => e = .returned (.string t) ∧ Below w.heap.size w w') ∧
    (if (mchk a c == 0) = true then (t.toList == []) = false ∧ prs t = ⟨a, c, 0⟩ else (t.toList == []) = true ∧ prs t = ⟨0, ⟨#[]⟩, 1⟩) := by
  by_cases h : (mchk a c == 0) = true
  · have h0 : mchk a c = 0 := by simpa using h
    obtain ⟨hcl, a0, a1⟩ := mchk_zero h0
    have hc3 : c.size ≤ 3 := by
      rcases Nat.lt_or_ge 3 c.size with h3 | h3
      · rw [curL_no c (by omega)] at hcl; cases hcl
      · exact h3
    have hin := exV_in c
    have hs := fmt_size a c (exV c).toNat a0 a1 (by omega) hc3
    refine ⟨fmtS a c (exV c).toNat, hs.1, fun w hX hP => fmt_yes a c hc3 h0 w hX hP, ?_⟩
    rw [if_pos h]
    exact ⟨size_pos_list (by omega), prs_fmt a c h0⟩
  · refine ⟨⟨#[]⟩, by decide, fun w _ _ => fmt_no a c hc (by simpa using h) w, ?_⟩
    rw [if_neg h]
    exact ⟨size_zero_list rfl, by unfold prs; rw [if_pos (size_zero_list rfl)]⟩
theorem read_all (s : ByteArray) (hs : s.size ≤ 100) : ∃ r : Ps, (∀ w, XT w → RT w → Calls Tryd.prog 28 #[.string s] w fun e w' => e = .returned (.tuple #[.agg #[.int .i64 r.a, .string r.c], .int .i64 r.e]) ∧ Below w.heap.size w w') ∧
    (if (r.e == 0) = true then (∀ w, Calls Tryd.prog 16 #[mo r.a r.c] w fun e w' => e = .returned (.int .i64 0) ∧ Below w.heap.size w w') ∧ (∀ w, XT w → TabP w → Calls Tryd.prog 27 #[mo r.a r.c] w fun e w' => e = .returned (.string s) ∧ Below w.heap.size w w') else r.a = 0 ∧ r.c = ⟨#[]⟩) := by
  refine ⟨prs s, fun w hX hR => parse_any s hs w hX hR, ?_⟩
  by_cases h : ((prs s).e == 0) = true
  · rw [if_pos h]
    obtain ⟨h1, h2, h3⟩ := prs_back s h
    have hm : (prs s).c.size ≤ maxLen := by unfold maxLen; omega
    refine ⟨fun w => ?_, fun w hX hP => ?_⟩
    · have := mcheck_any (prs s).a (prs s).c hm w; rw [h1] at this; exact this
    · have := fmt_yes (prs s).a (prs s).c h3 h1 w hX hP; rw [h2] at this; exact this
  · rw [if_neg h]
    exact prs_err s (by simpa using h)
namespace moneyReads
set_option maxHeartbeats 4000000 in
set_option maxRecDepth 20000 in
theorem w00 (a : Int) (c s t : ByteArray) (x : Int) (ra : Int) (rc : ByteArray) (re : Int) (w : World) (hX : XT w) (hP : TabP w) (hR : RT w) (hs : decide ((100 : Int) < (s.size : Int)) = false) (FM : ∀ w, XT w → TabP w → Calls Tryd.prog 27 #[.agg #[.int .i64 a, .string c]] w fun e w' => e = .returned (.string t) ∧ Below w.heap.size w w') (ht : (t.toList == []) = true) (PT : ∀ w, XT w → RT w → Calls Tryd.prog 28 #[.string t] w fun e w' => e = .returned (.tuple #[.agg #[.int .i64 0, .string ⟨#[]⟩], .int .i64 1]) ∧ Below w.heap.size w w') (hx : (x == 0) = false) (hx2 : (x != 0) = true) (KM : ∀ w, Calls Tryd.prog 16 #[.agg #[.int .i64 a, .string c]] w fun e w' => e = .returned (.int .i64 x) ∧ Below w.heap.size w w') (PS : ∀ w, XT w → RT w → Calls Tryd.prog 28 #[.string s] w fun e w' => e = .returned (.tuple #[.agg #[.int .i64 0, .string ⟨#[]⟩], .int .i64 re]) ∧ Below w.heap.size w w') (hre : (re == 0) = false) (hre2 : (re != 0) = true) :
    Calls Tryd.prog 8 #[.agg #[.int .i64 a, .string c], .string s] w fun e w' => e = .returned (.bool true) ∧ Below w.heap.size w w' := by
  have AW : Hid (∀ w, XT w → TabP w → _) := Lib.hid awake_any
  have HX := Lib.hid hX
  have HP := Lib.hid hP
  have HR := Lib.hid hR
  replace FM := Lib.hid FM
  replace PT := Lib.hid PT
  replace KM := Lib.hid KM
  replace PS := Lib.hid PS
  clear hX hP hR
  go_enter Tryd.func8, Tryd.ntmps8
  go_wp2_with fail
  have KA := Lib.hid (Blk.new w 23 #[.int .i64 a, .string c])
  refine (FM.out _ (HX.out.call (al (Below.refl w.heap.size w))) (HP.out.call (al (Below.refl w.heap.size w)))).mono ?_
  rintro e v1 ⟨rfl, hb⟩
  replace KA := Lib.hid (KA.out.call hb)
  have HB1 := Lib.hid (bre2 (al (Below.refl w.heap.size w)) (Nat.le_refl _) hb)
  clear hb
  have KAc0 := (KA.out.cell 0).trans (show _ = some (Value.int .i64 a) from rfl)
  have KAc1 := (KA.out.cell 1).trans (show _ = some (Value.string c) from rfl)
  have KAl := KA.out.lt
  have KAf := KA.out.frozen
  go_wp2_with fail
  clear KAc0 KAc1 KAl KAf
  refine (PT.out _ (HX.out.call HB1.out) (HR.out.call HB1.out)).mono ?_
  rintro e v2 ⟨rfl, hb⟩
  replace KA := Lib.hid (KA.out.call hb)
  have HB2 := Lib.hid (bre2 HB1.out (Nat.le_refl _) hb)
  clear hb
  have KAc0 := (KA.out.cell 0).trans (show _ = some (Value.int .i64 a) from rfl)
  have KAc1 := (KA.out.cell 1).trans (show _ = some (Value.string c) from rfl)
  have KAl := KA.out.lt
  have KAf := KA.out.frozen
  go_wp2_with fail
  clear KAc0 KAc1 KAl KAf
  have R1 := Lib.hid (Blk.new v2 23 #[.int .i64 0, .string ⟨#[]⟩])
  replace KA := Lib.hid (KA.out.alloc (.cells #[.int .i64 0, .string ⟨#[]⟩] 23))
  refine (KM.out _).mono ?_
  rintro e v3 ⟨rfl, hb⟩
  replace KA := Lib.hid (KA.out.call hb)
  replace R1 := Lib.hid (R1.out.call hb)
  have HB3 := Lib.hid (bre2 (al HB2.out) (Nat.le_refl _) hb)
  clear hb
  have KAc0 := (KA.out.cell 0).trans (show _ = some (Value.int .i64 a) from rfl)
  have KAc1 := (KA.out.cell 1).trans (show _ = some (Value.string c) from rfl)
  have KAl := KA.out.lt
  have KAf := KA.out.frozen
  have R1c0 := (R1.out.cell 0).trans (show _ = some (Value.int .i64 0) from rfl)
  have R1c1 := (R1.out.cell 1).trans (show _ = some (Value.string ⟨#[]⟩) from rfl)
  have R1l := R1.out.lt
  have R1f := R1.out.frozen
  go_wp2_with fail
  clear KAc0 KAc1 KAl KAf R1c0 R1c1 R1l R1f
  refine (PS.out _ (HX.out.call HB3.out) (HR.out.call HB3.out)).mono ?_
  rintro e v4 ⟨rfl, hb⟩
  replace KA := Lib.hid (KA.out.call hb)
  replace R1 := Lib.hid (R1.out.call hb)
  have HB4 := Lib.hid (bre2 HB3.out (Nat.le_refl _) hb)
  clear hb
  have KAc0 := (KA.out.cell 0).trans (show _ = some (Value.int .i64 a) from rfl)
  have KAc1 := (KA.out.cell 1).trans (show _ = some (Value.string c) from rfl)
  have KAl := KA.out.lt
  have KAf := KA.out.frozen
  have R1c0 := (R1.out.cell 0).trans (show _ = some (Value.int .i64 0) from rfl)
  have R1c1 := (R1.out.cell 1).trans (show _ = some (Value.string ⟨#[]⟩) from rfl)
  have R1l := R1.out.lt
  have R1f := R1.out.frozen
  go_wp2_with fail
  clear KAc0 KAc1 KAl KAf R1c0 R1c1 R1l R1f
  have R2 := Lib.hid (Blk.new v4 23 #[.int .i64 0, .string ⟨#[]⟩])
  replace KA := Lib.hid (KA.out.alloc (.cells #[.int .i64 0, .string ⟨#[]⟩] 23))
  replace R1 := Lib.hid (R1.out.alloc (.cells #[.int .i64 0, .string ⟨#[]⟩] 23))
  refine (AW.out _ (HX.out.call (al HB4.out)) (HP.out.call (al HB4.out))).mono ?_
  rintro e v5 ⟨rfl, hb⟩
  replace KA := Lib.hid (KA.out.call hb)
  replace R1 := Lib.hid (R1.out.call hb)
  replace R2 := Lib.hid (R2.out.call hb)
  have HB5 := Lib.hid (bre2 (al HB4.out) (Nat.le_refl _) hb)
  clear hb
  have KAc0 := (KA.out.cell 0).trans (show _ = some (Value.int .i64 a) from rfl)
  have KAc1 := (KA.out.cell 1).trans (show _ = some (Value.string c) from rfl)
  have KAl := KA.out.lt
  have KAf := KA.out.frozen
  have R1c0 := (R1.out.cell 0).trans (show _ = some (Value.int .i64 0) from rfl)
  have R1c1 := (R1.out.cell 1).trans (show _ = some (Value.string ⟨#[]⟩) from rfl)
  have R1l := R1.out.lt
  have R1f := R1.out.frozen
  have R2c0 := (R2.out.cell 0).trans (show _ = some (Value.int .i64 0) from rfl)
  have R2c1 := (R2.out.cell 1).trans (show _ = some (Value.string ⟨#[]⟩) from rfl)
  have R2l := R2.out.lt
  have R2f := R2.out.frozen
  go_wp2_with fail
  go_ret
  exact ⟨rfl, HB5.out⟩
set_option maxHeartbeats 4000000 in
set_option maxRecDepth 20000 in
theorem w01 (a : Int) (c s t : ByteArray) (x : Int) (ra : Int) (rc : ByteArray) (re : Int) (w : World) (hX : XT w) (hP : TabP w) (hR : RT w) (hs : decide ((100 : Int) < (s.size : Int)) = false) (FM : ∀ w, XT w → TabP w → Calls Tryd.prog 27 #[.agg #[.int .i64 a, .string c]] w fun e w' => e = .returned (.string t) ∧ Below w.heap.size w w') (ht : (t.toList == []) = true) (PT : ∀ w, XT w → RT w → Calls Tryd.prog 28 #[.string t] w fun e w' => e = .returned (.tuple #[.agg #[.int .i64 0, .string ⟨#[]⟩], .int .i64 1]) ∧ Below w.heap.size w w') (hx : (x == 0) = false) (hx2 : (x != 0) = true) (KM : ∀ w, Calls Tryd.prog 16 #[.agg #[.int .i64 a, .string c]] w fun e w' => e = .returned (.int .i64 x) ∧ Below w.heap.size w w') (PS : ∀ w, XT w → RT w → Calls Tryd.prog 28 #[.string s] w fun e w' => e = .returned (.tuple #[.agg #[.int .i64 ra, .string rc], .int .i64 0]) ∧ Below w.heap.size w w') (KB : ∀ w, Calls Tryd.prog 16 #[.agg #[.int .i64 ra, .string rc]] w fun e w' => e = .returned (.int .i64 0) ∧ Below w.heap.size w w') (FB : ∀ w, XT w → TabP w → Calls Tryd.prog 27 #[.agg #[.int .i64 ra, .string rc]] w fun e w' => e = .returned (.string s) ∧ Below w.heap.size w w') :
    Calls Tryd.prog 8 #[.agg #[.int .i64 a, .string c], .string s] w fun e w' => e = .returned (.bool true) ∧ Below w.heap.size w w' := by
  have AW : Hid (∀ w, XT w → TabP w → _) := Lib.hid awake_any
  have HX := Lib.hid hX
  have HP := Lib.hid hP
  have HR := Lib.hid hR
  replace FM := Lib.hid FM
  replace PT := Lib.hid PT
  replace KM := Lib.hid KM
  replace PS := Lib.hid PS
  replace KB := Lib.hid KB
  replace FB := Lib.hid FB
  clear hX hP hR
  go_enter Tryd.func8, Tryd.ntmps8
  go_wp2_with fail
  have KA := Lib.hid (Blk.new w 23 #[.int .i64 a, .string c])
  refine (FM.out _ (HX.out.call (al (Below.refl w.heap.size w))) (HP.out.call (al (Below.refl w.heap.size w)))).mono ?_
  rintro e v1 ⟨rfl, hb⟩
  replace KA := Lib.hid (KA.out.call hb)
  have HB1 := Lib.hid (bre2 (al (Below.refl w.heap.size w)) (Nat.le_refl _) hb)
  clear hb
  have KAc0 := (KA.out.cell 0).trans (show _ = some (Value.int .i64 a) from rfl)
  have KAc1 := (KA.out.cell 1).trans (show _ = some (Value.string c) from rfl)
  have KAl := KA.out.lt
  have KAf := KA.out.frozen
  go_wp2_with fail
  clear KAc0 KAc1 KAl KAf
  refine (PT.out _ (HX.out.call HB1.out) (HR.out.call HB1.out)).mono ?_
  rintro e v2 ⟨rfl, hb⟩
  replace KA := Lib.hid (KA.out.call hb)
  have HB2 := Lib.hid (bre2 HB1.out (Nat.le_refl _) hb)
  clear hb
  have KAc0 := (KA.out.cell 0).trans (show _ = some (Value.int .i64 a) from rfl)
  have KAc1 := (KA.out.cell 1).trans (show _ = some (Value.string c) from rfl)
  have KAl := KA.out.lt
  have KAf := KA.out.frozen
  go_wp2_with fail
  clear KAc0 KAc1 KAl KAf
  have R1 := Lib.hid (Blk.new v2 23 #[.int .i64 0, .string ⟨#[]⟩])
  replace KA := Lib.hid (KA.out.alloc (.cells #[.int .i64 0, .string ⟨#[]⟩] 23))
  refine (KM.out _).mono ?_
  rintro e v3 ⟨rfl, hb⟩
  replace KA := Lib.hid (KA.out.call hb)
  replace R1 := Lib.hid (R1.out.call hb)
  have HB3 := Lib.hid (bre2 (al HB2.out) (Nat.le_refl _) hb)
  clear hb
  have KAc0 := (KA.out.cell 0).trans (show _ = some (Value.int .i64 a) from rfl)
  have KAc1 := (KA.out.cell 1).trans (show _ = some (Value.string c) from rfl)
  have KAl := KA.out.lt
  have KAf := KA.out.frozen
  have R1c0 := (R1.out.cell 0).trans (show _ = some (Value.int .i64 0) from rfl)
  have R1c1 := (R1.out.cell 1).trans (show _ = some (Value.string ⟨#[]⟩) from rfl)
  have R1l := R1.out.lt
  have R1f := R1.out.frozen
  go_wp2_with fail
  clear KAc0 KAc1 KAl KAf R1c0 R1c1 R1l R1f
  refine (PS.out _ (HX.out.call HB3.out) (HR.out.call HB3.out)).mono ?_
  rintro e v4 ⟨rfl, hb⟩
  replace KA := Lib.hid (KA.out.call hb)
  replace R1 := Lib.hid (R1.out.call hb)
  have HB4 := Lib.hid (bre2 HB3.out (Nat.le_refl _) hb)
  clear hb
  have KAc0 := (KA.out.cell 0).trans (show _ = some (Value.int .i64 a) from rfl)
  have KAc1 := (KA.out.cell 1).trans (show _ = some (Value.string c) from rfl)
  have KAl := KA.out.lt
  have KAf := KA.out.frozen
  have R1c0 := (R1.out.cell 0).trans (show _ = some (Value.int .i64 0) from rfl)
  have R1c1 := (R1.out.cell 1).trans (show _ = some (Value.string ⟨#[]⟩) from rfl)
  have R1l := R1.out.lt
  have R1f := R1.out.frozen
  go_wp2_with fail
  clear KAc0 KAc1 KAl KAf R1c0 R1c1 R1l R1f
  have R2 := Lib.hid (Blk.new v4 23 #[.int .i64 ra, .string rc])
  replace KA := Lib.hid (KA.out.alloc (.cells #[.int .i64 ra, .string rc] 23))
  replace R1 := Lib.hid (R1.out.alloc (.cells #[.int .i64 ra, .string rc] 23))
  refine (KB.out _).mono ?_
  rintro e v5 ⟨rfl, hb⟩
  replace KA := Lib.hid (KA.out.call hb)
  replace R1 := Lib.hid (R1.out.call hb)
  replace R2 := Lib.hid (R2.out.call hb)
  have HB5 := Lib.hid (bre2 (al HB4.out) (Nat.le_refl _) hb)
  clear hb
  have KAc0 := (KA.out.cell 0).trans (show _ = some (Value.int .i64 a) from rfl)
  have KAc1 := (KA.out.cell 1).trans (show _ = some (Value.string c) from rfl)
  have KAl := KA.out.lt
  have KAf := KA.out.frozen
  have R1c0 := (R1.out.cell 0).trans (show _ = some (Value.int .i64 0) from rfl)
  have R1c1 := (R1.out.cell 1).trans (show _ = some (Value.string ⟨#[]⟩) from rfl)
  have R1l := R1.out.lt
  have R1f := R1.out.frozen
  have R2c0 := (R2.out.cell 0).trans (show _ = some (Value.int .i64 ra) from rfl)
  have R2c1 := (R2.out.cell 1).trans (show _ = some (Value.string rc) from rfl)
  have R2l := R2.out.lt
  have R2f := R2.out.frozen
  go_wp2_with fail
  clear KAc0 KAc1 KAl KAf R1c0 R1c1 R1l R1f R2c0 R2c1 R2l R2f
  refine (FB.out _ (HX.out.call HB5.out) (HP.out.call HB5.out)).mono ?_
  rintro e v6 ⟨rfl, hb⟩
  replace KA := Lib.hid (KA.out.call hb)
  replace R1 := Lib.hid (R1.out.call hb)
  replace R2 := Lib.hid (R2.out.call hb)
  have HB6 := Lib.hid (bre2 HB5.out (Nat.le_refl _) hb)
  clear hb
  have KAc0 := (KA.out.cell 0).trans (show _ = some (Value.int .i64 a) from rfl)
  have KAc1 := (KA.out.cell 1).trans (show _ = some (Value.string c) from rfl)
  have KAl := KA.out.lt
  have KAf := KA.out.frozen
  have R1c0 := (R1.out.cell 0).trans (show _ = some (Value.int .i64 0) from rfl)
  have R1c1 := (R1.out.cell 1).trans (show _ = some (Value.string ⟨#[]⟩) from rfl)
  have R1l := R1.out.lt
  have R1f := R1.out.frozen
  have R2c0 := (R2.out.cell 0).trans (show _ = some (Value.int .i64 ra) from rfl)
  have R2c1 := (R2.out.cell 1).trans (show _ = some (Value.string rc) from rfl)
  have R2l := R2.out.lt
  have R2f := R2.out.frozen
  go_wp2_with fail
  clear KAc0 KAc1 KAl KAf R1c0 R1c1 R1l R1f R2c0 R2c1 R2l R2f
  refine (AW.out _ (HX.out.call HB6.out) (HP.out.call HB6.out)).mono ?_
  rintro e v7 ⟨rfl, hb⟩
  replace KA := Lib.hid (KA.out.call hb)
  replace R1 := Lib.hid (R1.out.call hb)
  replace R2 := Lib.hid (R2.out.call hb)
  have HB7 := Lib.hid (bre2 HB6.out (Nat.le_refl _) hb)
  clear hb
  have KAc0 := (KA.out.cell 0).trans (show _ = some (Value.int .i64 a) from rfl)
  have KAc1 := (KA.out.cell 1).trans (show _ = some (Value.string c) from rfl)
  have KAl := KA.out.lt
  have KAf := KA.out.frozen
  have R1c0 := (R1.out.cell 0).trans (show _ = some (Value.int .i64 0) from rfl)
  have R1c1 := (R1.out.cell 1).trans (show _ = some (Value.string ⟨#[]⟩) from rfl)
  have R1l := R1.out.lt
  have R1f := R1.out.frozen
  have R2c0 := (R2.out.cell 0).trans (show _ = some (Value.int .i64 ra) from rfl)
  have R2c1 := (R2.out.cell 1).trans (show _ = some (Value.string rc) from rfl)
  have R2l := R2.out.lt
  have R2f := R2.out.frozen
  go_wp2_with fail
  go_ret
  exact ⟨rfl, HB7.out⟩
set_option maxHeartbeats 4000000 in
set_option maxRecDepth 20000 in
theorem w10 (a : Int) (c s t : ByteArray) (x : Int) (ra : Int) (rc : ByteArray) (re : Int) (w : World) (hX : XT w) (hP : TabP w) (hR : RT w) (hs : decide ((100 : Int) < (s.size : Int)) = false) (FM : ∀ w, XT w → TabP w → Calls Tryd.prog 27 #[.agg #[.int .i64 a, .string c]] w fun e w' => e = .returned (.string t) ∧ Below w.heap.size w w') (PT : ∀ w, XT w → RT w → Calls Tryd.prog 28 #[.string t] w fun e w' => e = .returned (.tuple #[.agg #[.int .i64 a, .string c], .int .i64 0]) ∧ Below w.heap.size w w') (KM : ∀ w, Calls Tryd.prog 16 #[.agg #[.int .i64 a, .string c]] w fun e w' => e = .returned (.int .i64 0) ∧ Below w.heap.size w w') (PS : ∀ w, XT w → RT w → Calls Tryd.prog 28 #[.string s] w fun e w' => e = .returned (.tuple #[.agg #[.int .i64 0, .string ⟨#[]⟩], .int .i64 re]) ∧ Below w.heap.size w w') (hre : (re == 0) = false) (hre2 : (re != 0) = true) :
    Calls Tryd.prog 8 #[.agg #[.int .i64 a, .string c], .string s] w fun e w' => e = .returned (.bool true) ∧ Below w.heap.size w w' := by
  have AW : Hid (∀ w, XT w → TabP w → _) := Lib.hid awake_any
  have HX := Lib.hid hX
  have HP := Lib.hid hP
  have HR := Lib.hid hR
  replace FM := Lib.hid FM
  replace PT := Lib.hid PT
  replace KM := Lib.hid KM
  replace PS := Lib.hid PS
  clear hX hP hR
  go_enter Tryd.func8, Tryd.ntmps8
  go_wp2_with fail
  have KA := Lib.hid (Blk.new w 23 #[.int .i64 a, .string c])
  refine (FM.out _ (HX.out.call (al (Below.refl w.heap.size w))) (HP.out.call (al (Below.refl w.heap.size w)))).mono ?_
  rintro e v1 ⟨rfl, hb⟩
  replace KA := Lib.hid (KA.out.call hb)
  have HB1 := Lib.hid (bre2 (al (Below.refl w.heap.size w)) (Nat.le_refl _) hb)
  clear hb
  have KAc0 := (KA.out.cell 0).trans (show _ = some (Value.int .i64 a) from rfl)
  have KAc1 := (KA.out.cell 1).trans (show _ = some (Value.string c) from rfl)
  have KAl := KA.out.lt
  have KAf := KA.out.frozen
  go_wp2_with fail
  clear KAc0 KAc1 KAl KAf
  refine (PT.out _ (HX.out.call HB1.out) (HR.out.call HB1.out)).mono ?_
  rintro e v2 ⟨rfl, hb⟩
  replace KA := Lib.hid (KA.out.call hb)
  have HB2 := Lib.hid (bre2 HB1.out (Nat.le_refl _) hb)
  clear hb
  have KAc0 := (KA.out.cell 0).trans (show _ = some (Value.int .i64 a) from rfl)
  have KAc1 := (KA.out.cell 1).trans (show _ = some (Value.string c) from rfl)
  have KAl := KA.out.lt
  have KAf := KA.out.frozen
  go_wp2_with fail
  clear KAc0 KAc1 KAl KAf
  have R1 := Lib.hid (Blk.new v2 23 #[.int .i64 a, .string c])
  replace KA := Lib.hid (KA.out.alloc (.cells #[.int .i64 a, .string c] 23))
  refine (KM.out _).mono ?_
  rintro e v3 ⟨rfl, hb⟩
  replace KA := Lib.hid (KA.out.call hb)
  replace R1 := Lib.hid (R1.out.call hb)
  have HB3 := Lib.hid (bre2 (al HB2.out) (Nat.le_refl _) hb)
  clear hb
  have KAc0 := (KA.out.cell 0).trans (show _ = some (Value.int .i64 a) from rfl)
  have KAc1 := (KA.out.cell 1).trans (show _ = some (Value.string c) from rfl)
  have KAl := KA.out.lt
  have KAf := KA.out.frozen
  have R1c0 := (R1.out.cell 0).trans (show _ = some (Value.int .i64 a) from rfl)
  have R1c1 := (R1.out.cell 1).trans (show _ = some (Value.string c) from rfl)
  have R1l := R1.out.lt
  have R1f := R1.out.frozen
  go_wp2_with fail
  clear KAc0 KAc1 KAl KAf R1c0 R1c1 R1l R1f
  refine (PS.out _ (HX.out.call HB3.out) (HR.out.call HB3.out)).mono ?_
  rintro e v4 ⟨rfl, hb⟩
  replace KA := Lib.hid (KA.out.call hb)
  replace R1 := Lib.hid (R1.out.call hb)
  have HB4 := Lib.hid (bre2 HB3.out (Nat.le_refl _) hb)
  clear hb
  have KAc0 := (KA.out.cell 0).trans (show _ = some (Value.int .i64 a) from rfl)
  have KAc1 := (KA.out.cell 1).trans (show _ = some (Value.string c) from rfl)
  have KAl := KA.out.lt
  have KAf := KA.out.frozen
  have R1c0 := (R1.out.cell 0).trans (show _ = some (Value.int .i64 a) from rfl)
  have R1c1 := (R1.out.cell 1).trans (show _ = some (Value.string c) from rfl)
  have R1l := R1.out.lt
  have R1f := R1.out.frozen
  go_wp2_with fail
  clear KAc0 KAc1 KAl KAf R1c0 R1c1 R1l R1f
  have R2 := Lib.hid (Blk.new v4 23 #[.int .i64 0, .string ⟨#[]⟩])
  replace KA := Lib.hid (KA.out.alloc (.cells #[.int .i64 0, .string ⟨#[]⟩] 23))
  replace R1 := Lib.hid (R1.out.alloc (.cells #[.int .i64 0, .string ⟨#[]⟩] 23))
  refine (AW.out _ (HX.out.call (al HB4.out)) (HP.out.call (al HB4.out))).mono ?_
  rintro e v5 ⟨rfl, hb⟩
  replace KA := Lib.hid (KA.out.call hb)
  replace R1 := Lib.hid (R1.out.call hb)
  replace R2 := Lib.hid (R2.out.call hb)
  have HB5 := Lib.hid (bre2 (al HB4.out) (Nat.le_refl _) hb)
  clear hb
  have KAc0 := (KA.out.cell 0).trans (show _ = some (Value.int .i64 a) from rfl)
  have KAc1 := (KA.out.cell 1).trans (show _ = some (Value.string c) from rfl)
  have KAl := KA.out.lt
  have KAf := KA.out.frozen
  have R1c0 := (R1.out.cell 0).trans (show _ = some (Value.int .i64 a) from rfl)
  have R1c1 := (R1.out.cell 1).trans (show _ = some (Value.string c) from rfl)
  have R1l := R1.out.lt
  have R1f := R1.out.frozen
  have R2c0 := (R2.out.cell 0).trans (show _ = some (Value.int .i64 0) from rfl)
  have R2c1 := (R2.out.cell 1).trans (show _ = some (Value.string ⟨#[]⟩) from rfl)
  have R2l := R2.out.lt
  have R2f := R2.out.frozen
  go_wp2_with fail
  go_ret
  exact ⟨rfl, HB5.out⟩
set_option maxHeartbeats 4000000 in
set_option maxRecDepth 20000 in
theorem w11 (a : Int) (c s t : ByteArray) (x : Int) (ra : Int) (rc : ByteArray) (re : Int) (w : World) (hX : XT w) (hP : TabP w) (hR : RT w) (hs : decide ((100 : Int) < (s.size : Int)) = false) (FM : ∀ w, XT w → TabP w → Calls Tryd.prog 27 #[.agg #[.int .i64 a, .string c]] w fun e w' => e = .returned (.string t) ∧ Below w.heap.size w w') (PT : ∀ w, XT w → RT w → Calls Tryd.prog 28 #[.string t] w fun e w' => e = .returned (.tuple #[.agg #[.int .i64 a, .string c], .int .i64 0]) ∧ Below w.heap.size w w') (KM : ∀ w, Calls Tryd.prog 16 #[.agg #[.int .i64 a, .string c]] w fun e w' => e = .returned (.int .i64 0) ∧ Below w.heap.size w w') (PS : ∀ w, XT w → RT w → Calls Tryd.prog 28 #[.string s] w fun e w' => e = .returned (.tuple #[.agg #[.int .i64 ra, .string rc], .int .i64 0]) ∧ Below w.heap.size w w') (KB : ∀ w, Calls Tryd.prog 16 #[.agg #[.int .i64 ra, .string rc]] w fun e w' => e = .returned (.int .i64 0) ∧ Below w.heap.size w w') (FB : ∀ w, XT w → TabP w → Calls Tryd.prog 27 #[.agg #[.int .i64 ra, .string rc]] w fun e w' => e = .returned (.string s) ∧ Below w.heap.size w w') :
    Calls Tryd.prog 8 #[.agg #[.int .i64 a, .string c], .string s] w fun e w' => e = .returned (.bool true) ∧ Below w.heap.size w w' := by
  have AW : Hid (∀ w, XT w → TabP w → _) := Lib.hid awake_any
  have HX := Lib.hid hX
  have HP := Lib.hid hP
  have HR := Lib.hid hR
  replace FM := Lib.hid FM
  replace PT := Lib.hid PT
  replace KM := Lib.hid KM
  replace PS := Lib.hid PS
  replace KB := Lib.hid KB
  replace FB := Lib.hid FB
  clear hX hP hR
  go_enter Tryd.func8, Tryd.ntmps8
  go_wp2_with fail
  have KA := Lib.hid (Blk.new w 23 #[.int .i64 a, .string c])
  refine (FM.out _ (HX.out.call (al (Below.refl w.heap.size w))) (HP.out.call (al (Below.refl w.heap.size w)))).mono ?_
  rintro e v1 ⟨rfl, hb⟩
  replace KA := Lib.hid (KA.out.call hb)
  have HB1 := Lib.hid (bre2 (al (Below.refl w.heap.size w)) (Nat.le_refl _) hb)
  clear hb
  have KAc0 := (KA.out.cell 0).trans (show _ = some (Value.int .i64 a) from rfl)
  have KAc1 := (KA.out.cell 1).trans (show _ = some (Value.string c) from rfl)
  have KAl := KA.out.lt
  have KAf := KA.out.frozen
  go_wp2_with fail
  clear KAc0 KAc1 KAl KAf
  refine (PT.out _ (HX.out.call HB1.out) (HR.out.call HB1.out)).mono ?_
  rintro e v2 ⟨rfl, hb⟩
  replace KA := Lib.hid (KA.out.call hb)
  have HB2 := Lib.hid (bre2 HB1.out (Nat.le_refl _) hb)
  clear hb
  have KAc0 := (KA.out.cell 0).trans (show _ = some (Value.int .i64 a) from rfl)
  have KAc1 := (KA.out.cell 1).trans (show _ = some (Value.string c) from rfl)
  have KAl := KA.out.lt
  have KAf := KA.out.frozen
  go_wp2_with fail
  clear KAc0 KAc1 KAl KAf
  have R1 := Lib.hid (Blk.new v2 23 #[.int .i64 a, .string c])
  replace KA := Lib.hid (KA.out.alloc (.cells #[.int .i64 a, .string c] 23))
  refine (KM.out _).mono ?_
  rintro e v3 ⟨rfl, hb⟩
  replace KA := Lib.hid (KA.out.call hb)
  replace R1 := Lib.hid (R1.out.call hb)
  have HB3 := Lib.hid (bre2 (al HB2.out) (Nat.le_refl _) hb)
  clear hb
  have KAc0 := (KA.out.cell 0).trans (show _ = some (Value.int .i64 a) from rfl)
  have KAc1 := (KA.out.cell 1).trans (show _ = some (Value.string c) from rfl)
  have KAl := KA.out.lt
  have KAf := KA.out.frozen
  have R1c0 := (R1.out.cell 0).trans (show _ = some (Value.int .i64 a) from rfl)
  have R1c1 := (R1.out.cell 1).trans (show _ = some (Value.string c) from rfl)
  have R1l := R1.out.lt
  have R1f := R1.out.frozen
  go_wp2_with fail
  clear KAc0 KAc1 KAl KAf R1c0 R1c1 R1l R1f
  refine (PS.out _ (HX.out.call HB3.out) (HR.out.call HB3.out)).mono ?_
  rintro e v4 ⟨rfl, hb⟩
  replace KA := Lib.hid (KA.out.call hb)
  replace R1 := Lib.hid (R1.out.call hb)
  have HB4 := Lib.hid (bre2 HB3.out (Nat.le_refl _) hb)
  clear hb
  have KAc0 := (KA.out.cell 0).trans (show _ = some (Value.int .i64 a) from rfl)
  have KAc1 := (KA.out.cell 1).trans (show _ = some (Value.string c) from rfl)
  have KAl := KA.out.lt
  have KAf := KA.out.frozen
  have R1c0 := (R1.out.cell 0).trans (show _ = some (Value.int .i64 a) from rfl)
  have R1c1 := (R1.out.cell 1).trans (show _ = some (Value.string c) from rfl)
  have R1l := R1.out.lt
  have R1f := R1.out.frozen
  go_wp2_with fail
  clear KAc0 KAc1 KAl KAf R1c0 R1c1 R1l R1f
  have R2 := Lib.hid (Blk.new v4 23 #[.int .i64 ra, .string rc])
  replace KA := Lib.hid (KA.out.alloc (.cells #[.int .i64 ra, .string rc] 23))
  replace R1 := Lib.hid (R1.out.alloc (.cells #[.int .i64 ra, .string rc] 23))
  refine (KB.out _).mono ?_
  rintro e v5 ⟨rfl, hb⟩
  replace KA := Lib.hid (KA.out.call hb)
  replace R1 := Lib.hid (R1.out.call hb)
  replace R2 := Lib.hid (R2.out.call hb)
  have HB5 := Lib.hid (bre2 (al HB4.out) (Nat.le_refl _) hb)
  clear hb
  have KAc0 := (KA.out.cell 0).trans (show _ = some (Value.int .i64 a) from rfl)
  have KAc1 := (KA.out.cell 1).trans (show _ = some (Value.string c) from rfl)
  have KAl := KA.out.lt
  have KAf := KA.out.frozen
  have R1c0 := (R1.out.cell 0).trans (show _ = some (Value.int .i64 a) from rfl)
  have R1c1 := (R1.out.cell 1).trans (show _ = some (Value.string c) from rfl)
  have R1l := R1.out.lt
  have R1f := R1.out.frozen
  have R2c0 := (R2.out.cell 0).trans (show _ = some (Value.int .i64 ra) from rfl)
  have R2c1 := (R2.out.cell 1).trans (show _ = some (Value.string rc) from rfl)
  have R2l := R2.out.lt
  have R2f := R2.out.frozen
  go_wp2_with fail
  clear KAc0 KAc1 KAl KAf R1c0 R1c1 R1l R1f R2c0 R2c1 R2l R2f
  refine (FB.out _ (HX.out.call HB5.out) (HP.out.call HB5.out)).mono ?_
  rintro e v6 ⟨rfl, hb⟩
  replace KA := Lib.hid (KA.out.call hb)
  replace R1 := Lib.hid (R1.out.call hb)
  replace R2 := Lib.hid (R2.out.call hb)
  have HB6 := Lib.hid (bre2 HB5.out (Nat.le_refl _) hb)
  clear hb
  have KAc0 := (KA.out.cell 0).trans (show _ = some (Value.int .i64 a) from rfl)
  have KAc1 := (KA.out.cell 1).trans (show _ = some (Value.string c) from rfl)
  have KAl := KA.out.lt
  have KAf := KA.out.frozen
  have R1c0 := (R1.out.cell 0).trans (show _ = some (Value.int .i64 a) from rfl)
  have R1c1 := (R1.out.cell 1).trans (show _ = some (Value.string c) from rfl)
  have R1l := R1.out.lt
  have R1f := R1.out.frozen
  have R2c0 := (R2.out.cell 0).trans (show _ = some (Value.int .i64 ra) from rfl)
  have R2c1 := (R2.out.cell 1).trans (show _ = some (Value.string rc) from rfl)
  have R2l := R2.out.lt
  have R2f := R2.out.frozen
  go_wp2_with fail
  clear KAc0 KAc1 KAl KAf R1c0 R1c1 R1l R1f R2c0 R2c1 R2l R2f
  refine (AW.out _ (HX.out.call HB6.out) (HP.out.call HB6.out)).mono ?_
  rintro e v7 ⟨rfl, hb⟩
  replace KA := Lib.hid (KA.out.call hb)
  replace R1 := Lib.hid (R1.out.call hb)
  replace R2 := Lib.hid (R2.out.call hb)
  have HB7 := Lib.hid (bre2 HB6.out (Nat.le_refl _) hb)
  clear hb
  have KAc0 := (KA.out.cell 0).trans (show _ = some (Value.int .i64 a) from rfl)
  have KAc1 := (KA.out.cell 1).trans (show _ = some (Value.string c) from rfl)
  have KAl := KA.out.lt
  have KAf := KA.out.frozen
  have R1c0 := (R1.out.cell 0).trans (show _ = some (Value.int .i64 a) from rfl)
  have R1c1 := (R1.out.cell 1).trans (show _ = some (Value.string c) from rfl)
  have R1l := R1.out.lt
  have R1f := R1.out.frozen
  have R2c0 := (R2.out.cell 0).trans (show _ = some (Value.int .i64 ra) from rfl)
  have R2c1 := (R2.out.cell 1).trans (show _ = some (Value.string rc) from rfl)
  have R2l := R2.out.lt
  have R2f := R2.out.frozen
  go_wp2_with fail
  go_ret
  exact ⟨rfl, HB7.out⟩
set_option maxHeartbeats 4000000 in
set_option maxRecDepth 20000 in
theorem walk (a : Int) (c s : ByteArray) (w : World) (ha : (Lit.int .i64 a).wf = true) (hc : c.size ≤ maxLen) (hs : s.size ≤ maxLen) (hX : XT w) (hP : TabP w) (hR : RT w) :
    Calls Tryd.prog 8 #[.agg #[.int .i64 a, .string c], .string s] w fun e w' => e = .returned (.bool true) ∧ Below w.heap.size w w' := by
  by_cases h0 : 100 < s.size
  · have c0' : decide ((100 : Int) < (s.size : Int)) = true := decide_eq_true (by omega)
    have AW : Hid (∀ w, XT w → TabP w → _) := Lib.hid awake_any
    have HX := Lib.hid hX
    have HP := Lib.hid hP
    unfold maxLen at hs
    clear hX hP hR ha hc h0
    go_enter Tryd.func8, Tryd.ntmps8
    go_wp2_with fail
    have HB0 := Lib.hid (al (o := .cells #[.int .i64 a, .string c] 23) (Below.refl w.heap.size w))
    refine (AW.out _ (HX.out.call HB0.out) (HP.out.call HB0.out)).mono ?_
    rintro e w1 ⟨rfl, hb⟩
    have HB := Lib.hid (bre2 HB0.out (by simp) hb)
    clear hb
    go_wp2_with fail
    go_ret
    exact ⟨rfl, HB.out⟩
  · have c0' : decide ((100 : Int) < (s.size : Int)) = false := decide_eq_false (by omega)
    obtain ⟨t, t1, FM, ht⟩ := fmt_all a c hc
    have PT := parse_any t t1
    have KM := fun w => mcheck_any a c hc w
    obtain ⟨r, PS, hr⟩ := read_all s (by omega)
    obtain ⟨ra, rc, re⟩ := r
    unfold mo at *
    dsimp only at *
    cases hx : (mchk a c == 0)
    · rw [hx, if_neg (by simp)] at ht
      rw [ht.2] at PT
      have hx2 : (mchk a c != 0) = true := by rw [bne, hx]; rfl
      cases hre : (re == 0)
      · rw [hre, if_neg (by simp)] at hr
        obtain ⟨rfl, rfl⟩ := hr
        have hre2 : (re != 0) = true := by rw [bne, hre]; rfl
        exact w00 a c s t (mchk a c) 0 ⟨#[]⟩ re w hX hP hR c0' FM ht.1 PT hx hx2 KM PS hre hre2
      · rw [hre, if_pos rfl] at hr
        obtain rfl : re = 0 := by simpa using hre
        exact w01 a c s t (mchk a c) ra rc 0 w hX hP hR c0' FM ht.1 PT hx hx2 KM PS hr.1 hr.2
    · rw [hx, if_pos rfl] at ht
      rw [ht.2] at PT
      have hz : mchk a c = 0 := by simpa using hx
      rw [hz] at KM
      cases hre : (re == 0)
      · rw [hre, if_neg (by simp)] at hr
        obtain ⟨rfl, rfl⟩ := hr
        have hre2 : (re != 0) = true := by rw [bne, hre]; rfl
        exact w10 a c s t 0 0 ⟨#[]⟩ re w hX hP hR c0' FM PT KM PS hre hre2
      · rw [hre, if_pos rfl] at hr
        obtain rfl : re = 0 := by simpa using hre
        exact w11 a c s t 0 ra rc 0 w hX hP hR c0' FM PT KM PS hr.1 hr.2
end moneyReads
end Go.Proofs.YtompeealmgdfhaaDoor
