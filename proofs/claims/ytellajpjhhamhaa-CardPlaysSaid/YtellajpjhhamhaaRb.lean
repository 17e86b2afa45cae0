/- The reference: Use and Undo; Undo of both. -/
import Derived.Test.YtellajpjhhamhaaRa
set_option linter.unusedVariables false
set_option linter.unusedSimpArgs false
namespace Go.Proofs.Ytellajpjhhamhaa
open Go.ChangeShapes Go.WideShapes Go.ChangeAt Go.RowKit
theorem ruse_bad (nm : ByteArray) (ex st la lc : Int) (k : Bool) (d a c : Int) (g : Nat) (day am E : Int) (w : World) (h : Blk w g 60 (rc nm ex st la lc k d a c)) (hE : usE st ex day = E) (h0 : E ≠ 0) :
    Calls Try.prog 33 #[.pointer (some ⟨g, 0, none⟩), .int .i64 day, .int .i64 am] w fun e w' => e = .returned (.int .i64 E) ∧ Below w.heap.size w w' := by
  have hu := rusable_any nm ex st la lc k d a c g day w h
  rw [hE] at hu
  have HU := Lib.hid hu
  clear hu hE
  have hb : (E == 0) = false := beq_eq_false_iff_ne.2 h0
  have hb2 : (E != 0) = true := by rw [bne, hb]; rfl
  clear h
  go_enter Try.func33, Try.ntmps33
  go_wp2_with fail
  refine HU.out.mono ?_
  rintro e w1 ⟨rfl, rfl⟩
  go_wp2_with fail
  go_ret
  exact ⟨rfl, Below.refl _ _⟩
theorem ruse_range (nm : ByteArray) (ex st la lc : Int) (k : Bool) (d a c : Int) (g : Nat) (day am : Int) (w : World) (h : Blk w g 60 (rc nm ex st la lc k d a c)) (hE : usE st ex day = 0) (h1 : ¬ (0 ≤ am ∧ am ≤ 999999999999)) :
    Calls Try.prog 33 #[.pointer (some ⟨g, 0, none⟩), .int .i64 day, .int .i64 am] w fun e w' => e = .returned (.int .i64 4) ∧ Below w.heap.size w w' := by
  have hu := rusable_any nm ex st la lc k d a c g day w h
  rw [hE] at hu
  have HU := Lib.hid hu
  clear hu hE
  have ha := ramount_any am w
  rw [decide_eq_false h1] at ha
  have HA := Lib.hid ha
  clear ha
  clear h h1
  go_enter Try.func33, Try.ntmps33
  go_wp2_with fail
  refine HU.out.mono ?_
  rintro e w1 ⟨rfl, rfl⟩
  go_wp2_with fail
  refine HA.out.mono ?_
  rintro e w1 ⟨rfl, rfl⟩
  go_wp2_with fail
  go_ret
  exact ⟨rfl, Below.refl _ _⟩
theorem ruse_past (nm : ByteArray) (ex st la lc : Int)  (d a c : Int) (g : Nat) (day am : Int) (w : World) (h : Blk w g 60 (rc nm ex st la lc true d a c)) (hE : usE st ex day = 0) (h1 : 0 ≤ am ∧ am ≤ 999999999999) (hp : day < d) :
    Calls Try.prog 33 #[.pointer (some ⟨g, 0, none⟩), .int .i64 day, .int .i64 am] w fun e w' => e = .returned (.int .i64 14) ∧ Below w.heap.size w w' := by
  have hu := rusable_any nm ex st la lc true d a c g day w h
  rw [hE] at hu
  have HU := Lib.hid hu
  clear hu hE
  have ha := ramount_any am w
  rw [decide_eq_true h1] at ha
  have HA := Lib.hid ha
  clear ha
  obtain ⟨hc, hf, hl⟩ := h.rules
  have c7 : w.cell? ⟨g, 7, none⟩ = some (.int .i64 d) := hc 7
  have c8 : w.cell? ⟨g, 8, none⟩ = some (.bool true) := hc 8
  clear hc hf
  have hq : decide (day < d) = true := decide_eq_true hp
  clear h h1
  go_enter Try.func33, Try.ntmps33
  go_wp2_with fail
  refine HU.out.mono ?_
  rintro e w1 ⟨rfl, rfl⟩
  go_wp2_with fail
  refine HA.out.mono ?_
  rintro e w1 ⟨rfl, rfl⟩
  go_wp2_with fail
  go_ret
  exact ⟨rfl, Below.refl _ _⟩
set_option maxHeartbeats 1000000 in
theorem ruse_l1_true (nm : ByteArray) (ex st la lc : Int)  (d a c : Int) (g : Nat) (day am : Int) (w : World) (h : Blk w g 60 (rc nm ex st la lc true d a c)) (hE : usE st ex day = 0) (h1 : 0 ≤ am ∧ am ≤ 999999999999) (hp : d ≤ day)
    (hA0 : 0 ≤ dayA true d day a ∧ dayA true d day a ≤ 999999999999) (hC0 : 0 ≤ dayA true d day c ∧ dayA true d day c ≤ 1000) (h2 : la < dayA true d day a + am) :
    Calls Try.prog 33 #[.pointer (some ⟨g, 0, none⟩), .int .i64 day, .int .i64 am] w fun e w' => e = .returned (.int .i64 10) ∧ Below w.heap.size w w' := by
  have hu := rusable_any nm ex st la lc true d a c g day w h
  rw [hE] at hu
  have HU := Lib.hid hu
  clear hu hE
  have ha := ramount_any am w
  rw [decide_eq_true h1] at ha
  have HA := Lib.hid ha
  clear ha
  have HD := Lib.hid (rused_any nm ex st la lc true d a c g day w h)
  have HB := Lib.hid h
  obtain ⟨hc, hf, hl⟩ := h.rules
  have c7 : w.cell? ⟨g, 7, none⟩ = some (.int .i64 d) := hc 7
  have c8 : w.cell? ⟨g, 8, none⟩ = some (.bool true) := hc 8
  clear hc hf
  have hq : decide (day < d) = false := decide_eq_false (by omega)
  generalize dayA true d day a = A at *
  generalize dayA true d day c = C at *
  have g1 : decide (la < A + am) = true := decide_eq_true h2
  clear h
  go_enter Try.func33, Try.ntmps33
  go_wp2_with fail
  refine HU.out.mono ?_
  rintro e w1 ⟨rfl, rfl⟩
  go_wp2_with fail
  refine HA.out.mono ?_
  rintro e w1 ⟨rfl, rfl⟩
  go_wp2_with fail
  refine HD.out.mono ?_
  rintro e w1 ⟨rfl, hb⟩
  have HW := Lib.hid hb
  have HKB := Lib.hid (HB.out.call hb)
  clear c7 c8 hl
  obtain ⟨hc, hf, hl⟩ := HKB.out.rules
  have c2 : w1.cell? ⟨g, 2, none⟩ = some (.int .i64 la) := hc 2
  have c4 : w1.cell? ⟨g, 4, none⟩ = some (.int .i64 lc) := hc 4
  clear hc hf
  clear hb
  go_wp2_with fail
  go_ret
  exact ⟨rfl, HW.out⟩
set_option maxHeartbeats 1000000 in
theorem ruse_l2_true (nm : ByteArray) (ex st la lc : Int)  (d a c : Int) (g : Nat) (day am : Int) (w : World) (h : Blk w g 60 (rc nm ex st la lc true d a c)) (hE : usE st ex day = 0) (h1 : 0 ≤ am ∧ am ≤ 999999999999) (hp : d ≤ day)
    (hA0 : 0 ≤ dayA true d day a ∧ dayA true d day a ≤ 999999999999) (hC0 : 0 ≤ dayA true d day c ∧ dayA true d day c ≤ 1000) (h2 : dayA true d day a + am ≤ la) (h3 : lc < dayA true d day c + 1) :
    Calls Try.prog 33 #[.pointer (some ⟨g, 0, none⟩), .int .i64 day, .int .i64 am] w fun e w' => e = .returned (.int .i64 10) ∧ Below w.heap.size w w' := by
  have hu := rusable_any nm ex st la lc true d a c g day w h
  rw [hE] at hu
  have HU := Lib.hid hu
  clear hu hE
  have ha := ramount_any am w
  rw [decide_eq_true h1] at ha
  have HA := Lib.hid ha
  clear ha
  have HD := Lib.hid (rused_any nm ex st la lc true d a c g day w h)
  have HB := Lib.hid h
  obtain ⟨hc, hf, hl⟩ := h.rules
  have c7 : w.cell? ⟨g, 7, none⟩ = some (.int .i64 d) := hc 7
  have c8 : w.cell? ⟨g, 8, none⟩ = some (.bool true) := hc 8
  clear hc hf
  have hq : decide (day < d) = false := decide_eq_false (by omega)
  generalize dayA true d day a = A at *
  generalize dayA true d day c = C at *
  have g1 : decide (la < A + am) = false := decide_eq_false (by omega)
  have g2 : decide (lc < C + 1) = true := decide_eq_true h3
  clear h
  go_enter Try.func33, Try.ntmps33
  go_wp2_with fail
  refine HU.out.mono ?_
  rintro e w1 ⟨rfl, rfl⟩
  go_wp2_with fail
  refine HA.out.mono ?_
  rintro e w1 ⟨rfl, rfl⟩
  go_wp2_with fail
  refine HD.out.mono ?_
  rintro e w1 ⟨rfl, hb⟩
  have HW := Lib.hid hb
  have HKB := Lib.hid (HB.out.call hb)
  clear c7 c8 hl
  obtain ⟨hc, hf, hl⟩ := HKB.out.rules
  have c2 : w1.cell? ⟨g, 2, none⟩ = some (.int .i64 la) := hc 2
  have c4 : w1.cell? ⟨g, 4, none⟩ = some (.int .i64 lc) := hc 4
  clear hc hf
  clear hb
  go_wp2_with fail
  go_ret
  exact ⟨rfl, HW.out⟩
set_option maxHeartbeats 1000000 in
theorem ruse_ok_true (nm : ByteArray) (ex st la lc : Int)  (d a c : Int) (g : Nat) (day am : Int) (w : World) (h : Blk w g 60 (rc nm ex st la lc true d a c)) (hE : usE st ex day = 0) (h1 : 0 ≤ am ∧ am ≤ 999999999999) (hp : d ≤ day)
    (hA0 : 0 ≤ dayA true d day a ∧ dayA true d day a ≤ 999999999999) (hC0 : 0 ≤ dayA true d day c ∧ dayA true d day c ≤ 1000) (h2 : dayA true d day a + am ≤ la) (h3 : dayA true d day c + 1 ≤ lc) :
    Calls Try.prog 33 #[.pointer (some ⟨g, 0, none⟩), .int .i64 day, .int .i64 am] w fun e w' => e = .returned (.int .i64 0) ∧ Blk w' g 60 (rc nm ex st la lc true day (dayA true d day a + am) (dayA true d day c + 1)) ∧ (∀ B, B ≤ g → B ≤ w.heap.size → Below B w w') ∧ Kp g w w' := by
  have hu := rusable_any nm ex st la lc true d a c g day w h
  rw [hE] at hu
  have HU := Lib.hid hu
  clear hu hE
  have ha := ramount_any am w
  rw [decide_eq_true h1] at ha
  have HA := Lib.hid ha
  clear ha
  have HD := Lib.hid (rused_any nm ex st la lc true d a c g day w h)
  have HB := Lib.hid h
  obtain ⟨hc, hf, hl⟩ := h.rules
  have c7 : w.cell? ⟨g, 7, none⟩ = some (.int .i64 d) := hc 7
  have c8 : w.cell? ⟨g, 8, none⟩ = some (.bool true) := hc 8
  clear hc hf
  have hq : decide (day < d) = false := decide_eq_false (by omega)
  generalize dayA true d day a = A at *
  generalize dayA true d day c = C at *
  have g1 : decide (la < A + am) = false := decide_eq_false (by omega)
  have g2 : decide (lc < C + 1) = false := decide_eq_false (by omega)
  clear h
  go_enter Try.func33, Try.ntmps33
  go_wp2_with fail
  refine HU.out.mono ?_
  rintro e w1 ⟨rfl, rfl⟩
  go_wp2_with fail
  refine HA.out.mono ?_
  rintro e w1 ⟨rfl, rfl⟩
  go_wp2_with fail
  refine HD.out.mono ?_
  rintro e w1 ⟨rfl, hb⟩
  have HW := Lib.hid hb
  have HKB := Lib.hid (HB.out.call hb)
  clear c7 c8 hl
  obtain ⟨hc, hf, hl⟩ := HKB.out.rules
  have c2 : w1.cell? ⟨g, 2, none⟩ = some (.int .i64 la) := hc 2
  have c3 : w1.cell? ⟨g, 3, none⟩ = some (.int .i64 a) := hc 3
  have c4 : w1.cell? ⟨g, 4, none⟩ = some (.int .i64 lc) := hc 4
  have c5 : w1.cell? ⟨g, 5, none⟩ = some (.int .i64 c) := hc 5
  have c7 : w1.cell? ⟨g, 7, none⟩ = some (.int .i64 d) := hc 7
  have c8 : w1.cell? ⟨g, 8, none⟩ = some (.bool true) := hc 8
  have f3 : w1.frozen? ⟨g, 3, none⟩ = false := hf 3
  have f5 : w1.frozen? ⟨g, 5, none⟩ = false := hf 5
  have f7 : w1.frozen? ⟨g, 7, none⟩ = false := hf 7
  have f8 : w1.frozen? ⟨g, 8, none⟩ = false := hf 8
  clear hc hf
  clear hb
  go_wp2_with fail
  go_ret
  refine ⟨rfl, ?_, fun B q1 q2 => ?_, ?_⟩
  · have k4 := (((HKB.out.set_ 8 (.bool true)).set_ 7 (.int .i64 day)).set_ 3 (.int .i64 (A + am))).set_ 5 (.int .i64 (C + 1))
    have e : ((((rc nm ex st la lc true d a c).setIfInBounds 8 (.bool true)).setIfInBounds 7 (.int .i64 day)).setIfInBounds 3 (.int .i64 (A + am))).setIfInBounds 5 (.int .i64 (C + 1)) = rc nm ex st la lc true day (A + am) (C + 1) := by simp [rc]
    rw [e] at k4
    exact k4
  · exact ((((HW.out.mono q2).setCell (p := ⟨g, 8, none⟩) q1 (.bool true)).setCell (p := ⟨g, 7, none⟩) q1 (.int .i64 day)).setCell (p := ⟨g, 3, none⟩) q1 (.int .i64 (A + am))).setCell (p := ⟨g, 5, none⟩) q1 (.int .i64 (C + 1))
  · exact ((((Kp.call (g := g) HW.out).set (p := ⟨g, 8, none⟩) rfl (.bool true)).set (p := ⟨g, 7, none⟩) rfl (.int .i64 day)).set (p := ⟨g, 3, none⟩) rfl (.int .i64 (A + am))).set (p := ⟨g, 5, none⟩) rfl (.int .i64 (C + 1))
set_option maxHeartbeats 1000000 in
theorem ruse_l1_false (nm : ByteArray) (ex st la lc : Int)  (d a c : Int) (g : Nat) (day am : Int) (w : World) (h : Blk w g 60 (rc nm ex st la lc false d a c)) (hE : usE st ex day = 0) (h1 : 0 ≤ am ∧ am ≤ 999999999999) 
    (hA0 : 0 ≤ dayA false d day a ∧ dayA false d day a ≤ 999999999999) (hC0 : 0 ≤ dayA false d day c ∧ dayA false d day c ≤ 1000) (h2 : la < dayA false d day a + am) :
    Calls Try.prog 33 #[.pointer (some ⟨g, 0, none⟩), .int .i64 day, .int .i64 am] w fun e w' => e = .returned (.int .i64 10) ∧ Below w.heap.size w w' := by
  have hu := rusable_any nm ex st la lc false d a c g day w h
  rw [hE] at hu
  have HU := Lib.hid hu
  clear hu hE
  have ha := ramount_any am w
  rw [decide_eq_true h1] at ha
  have HA := Lib.hid ha
  clear ha
  have HD := Lib.hid (rused_any nm ex st la lc false d a c g day w h)
  have HB := Lib.hid h
  obtain ⟨hc, hf, hl⟩ := h.rules
  have c7 : w.cell? ⟨g, 7, none⟩ = some (.int .i64 d) := hc 7
  have c8 : w.cell? ⟨g, 8, none⟩ = some (.bool false) := hc 8
  clear hc hf
  generalize dayA false d day a = A at *
  generalize dayA false d day c = C at *
  have g1 : decide (la < A + am) = true := decide_eq_true h2
  clear h
  go_enter Try.func33, Try.ntmps33
  go_wp2_with fail
  refine HU.out.mono ?_
  rintro e w1 ⟨rfl, rfl⟩
  go_wp2_with fail
  refine HA.out.mono ?_
  rintro e w1 ⟨rfl, rfl⟩
  go_wp2_with fail
  refine HD.out.mono ?_
  rintro e w1 ⟨rfl, hb⟩
  have HW := Lib.hid hb
  have HKB := Lib.hid (HB.out.call hb)
  clear c7 c8 hl
  obtain ⟨hc, hf, hl⟩ := HKB.out.rules
  have c2 : w1.cell? ⟨g, 2, none⟩ = some (.int .i64 la) := hc 2
  have c4 : w1.cell? ⟨g, 4, none⟩ = some (.int .i64 lc) := hc 4
  clear hc hf
  clear hb
  go_wp2_with fail
  go_ret
  exact ⟨rfl, HW.out⟩
set_option maxHeartbeats 1000000 in
theorem ruse_l2_false (nm : ByteArray) (ex st la lc : Int)  (d a c : Int) (g : Nat) (day am : Int) (w : World) (h : Blk w g 60 (rc nm ex st la lc false d a c)) (hE : usE st ex day = 0) (h1 : 0 ≤ am ∧ am ≤ 999999999999) 
    (hA0 : 0 ≤ dayA false d day a ∧ dayA false d day a ≤ 999999999999) (hC0 : 0 ≤ dayA false d day c ∧ dayA false d day c ≤ 1000) (h2 : dayA false d day a + am ≤ la) (h3 : lc < dayA false d day c + 1) :
    Calls Try.prog 33 #[.pointer (some ⟨g, 0, none⟩), .int .i64 day, .int .i64 am] w fun e w' => e = .returned (.int .i64 10) ∧ Below w.heap.size w w' := by
  have hu := rusable_any nm ex st la lc false d a c g day w h
  rw [hE] at hu
  have HU := Lib.hid hu
  clear hu hE
  have ha := ramount_any am w
  rw [decide_eq_true h1] at ha
  have HA := Lib.hid ha
  clear ha
  have HD := Lib.hid (rused_any nm ex st la lc false d a c g day w h)
  have HB := Lib.hid h
  obtain ⟨hc, hf, hl⟩ := h.rules
  have c7 : w.cell? ⟨g, 7, none⟩ = some (.int .i64 d) := hc 7
  have c8 : w.cell? ⟨g, 8, none⟩ = some (.bool false) := hc 8
  clear hc hf
  generalize dayA false d day a = A at *
  generalize dayA false d day c = C at *
  have g1 : decide (la < A + am) = false := decide_eq_false (by omega)
  have g2 : decide (lc < C + 1) = true := decide_eq_true h3
  clear h
  go_enter Try.func33, Try.ntmps33
  go_wp2_with fail
  refine HU.out.mono ?_
  rintro e w1 ⟨rfl, rfl⟩
  go_wp2_with fail
  refine HA.out.mono ?_
  rintro e w1 ⟨rfl, rfl⟩
  go_wp2_with fail
  refine HD.out.mono ?_
  rintro e w1 ⟨rfl, hb⟩
  have HW := Lib.hid hb
  have HKB := Lib.hid (HB.out.call hb)
  clear c7 c8 hl
  obtain ⟨hc, hf, hl⟩ := HKB.out.rules
  have c2 : w1.cell? ⟨g, 2, none⟩ = some (.int .i64 la) := hc 2
  have c4 : w1.cell? ⟨g, 4, none⟩ = some (.int .i64 lc) := hc 4
  clear hc hf
  clear hb
  go_wp2_with fail
  go_ret
  exact ⟨rfl, HW.out⟩
set_option maxHeartbeats 1000000 in
theorem ruse_ok_false (nm : ByteArray) (ex st la lc : Int)  (d a c : Int) (g : Nat) (day am : Int) (w : World) (h : Blk w g 60 (rc nm ex st la lc false d a c)) (hE : usE st ex day = 0) (h1 : 0 ≤ am ∧ am ≤ 999999999999) 
    (hA0 : 0 ≤ dayA false d day a ∧ dayA false d day a ≤ 999999999999) (hC0 : 0 ≤ dayA false d day c ∧ dayA false d day c ≤ 1000) (h2 : dayA false d day a + am ≤ la) (h3 : dayA false d day c + 1 ≤ lc) :
    Calls Try.prog 33 #[.pointer (some ⟨g, 0, none⟩), .int .i64 day, .int .i64 am] w fun e w' => e = .returned (.int .i64 0) ∧ Blk w' g 60 (rc nm ex st la lc true day (dayA false d day a + am) (dayA false d day c + 1)) ∧ (∀ B, B ≤ g → B ≤ w.heap.size → Below B w w') ∧ Kp g w w' := by
  have hu := rusable_any nm ex st la lc false d a c g day w h
  rw [hE] at hu
  have HU := Lib.hid hu
  clear hu hE
  have ha := ramount_any am w
  rw [decide_eq_true h1] at ha
  have HA := Lib.hid ha
  clear ha
  have HD := Lib.hid (rused_any nm ex st la lc false d a c g day w h)
  have HB := Lib.hid h
  obtain ⟨hc, hf, hl⟩ := h.rules
  have c7 : w.cell? ⟨g, 7, none⟩ = some (.int .i64 d) := hc 7
  have c8 : w.cell? ⟨g, 8, none⟩ = some (.bool false) := hc 8
  clear hc hf
  generalize dayA false d day a = A at *
  generalize dayA false d day c = C at *
  have g1 : decide (la < A + am) = false := decide_eq_false (by omega)
  have g2 : decide (lc < C + 1) = false := decide_eq_false (by omega)
  clear h
  go_enter Try.func33, Try.ntmps33
  go_wp2_with fail
  refine HU.out.mono ?_
  rintro e w1 ⟨rfl, rfl⟩
  go_wp2_with fail
  refine HA.out.mono ?_
  rintro e w1 ⟨rfl, rfl⟩
  go_wp2_with fail
  refine HD.out.mono ?_
  rintro e w1 ⟨rfl, hb⟩
  have HW := Lib.hid hb
  have HKB := Lib.hid (HB.out.call hb)
  clear c7 c8 hl
  obtain ⟨hc, hf, hl⟩ := HKB.out.rules
  have c2 : w1.cell? ⟨g, 2, none⟩ = some (.int .i64 la) := hc 2
  have c3 : w1.cell? ⟨g, 3, none⟩ = some (.int .i64 a) := hc 3
  have c4 : w1.cell? ⟨g, 4, none⟩ = some (.int .i64 lc) := hc 4
  have c5 : w1.cell? ⟨g, 5, none⟩ = some (.int .i64 c) := hc 5
  have c7 : w1.cell? ⟨g, 7, none⟩ = some (.int .i64 d) := hc 7
  have c8 : w1.cell? ⟨g, 8, none⟩ = some (.bool false) := hc 8
  have f3 : w1.frozen? ⟨g, 3, none⟩ = false := hf 3
  have f5 : w1.frozen? ⟨g, 5, none⟩ = false := hf 5
  have f7 : w1.frozen? ⟨g, 7, none⟩ = false := hf 7
  have f8 : w1.frozen? ⟨g, 8, none⟩ = false := hf 8
  clear hc hf
  clear hb
  go_wp2_with fail
  go_ret
  refine ⟨rfl, ?_, fun B q1 q2 => ?_, ?_⟩
  · have k4 := (((HKB.out.set_ 8 (.bool true)).set_ 7 (.int .i64 day)).set_ 3 (.int .i64 (A + am))).set_ 5 (.int .i64 (C + 1))
    have e : ((((rc nm ex st la lc false d a c).setIfInBounds 8 (.bool true)).setIfInBounds 7 (.int .i64 day)).setIfInBounds 3 (.int .i64 (A + am))).setIfInBounds 5 (.int .i64 (C + 1)) = rc nm ex st la lc true day (A + am) (C + 1) := by simp [rc]
    rw [e] at k4
    exact k4
  · exact ((((HW.out.mono q2).setCell (p := ⟨g, 8, none⟩) q1 (.bool true)).setCell (p := ⟨g, 7, none⟩) q1 (.int .i64 day)).setCell (p := ⟨g, 3, none⟩) q1 (.int .i64 (A + am))).setCell (p := ⟨g, 5, none⟩) q1 (.int .i64 (C + 1))
  · exact ((((Kp.call (g := g) HW.out).set (p := ⟨g, 8, none⟩) rfl (.bool true)).set (p := ⟨g, 7, none⟩) rfl (.int .i64 day)).set (p := ⟨g, 3, none⟩) rfl (.int .i64 (A + am))).set (p := ⟨g, 5, none⟩) rfl (.int .i64 (C + 1))
set_option maxHeartbeats 1000000 in
theorem rundo_range (nm : ByteArray) (ex st la lc : Int) (k : Bool) (d a c : Int) (g : Nat) (day am : Int) (w : World) (h : Blk w g 60 (rc nm ex st la lc k d a c)) (h1 : ¬ (0 ≤ am ∧ am ≤ 999999999999)) :
    Calls Try.prog 34 #[.pointer (some ⟨g, 0, none⟩), .int .i64 day, .int .i64 am] w fun e w' => e = .returned (.int .i64 4) ∧ Below w.heap.size w w' := by
  have ha := ramount_any am w
  rw [decide_eq_false h1] at ha
  have HA := Lib.hid ha
  clear ha
  obtain ⟨hc, hf, hl⟩ := h.rules
  have c8 : w.cell? ⟨g, 8, none⟩ = some (.bool k) := hc 8
  clear hc hf
  clear h
  go_enter Try.func34, Try.ntmps34
  go_wp2_with fail
  refine HA.out.mono ?_
  rintro e w1 ⟨rfl, rfl⟩
  go_wp2_with fail
  go_ret
  exact ⟨rfl, Below.refl _ _⟩
set_option maxHeartbeats 1000000 in
theorem rundo_past (nm : ByteArray) (ex st la lc : Int)  (d a c : Int) (g : Nat) (day am : Int) (w : World) (h : Blk w g 60 (rc nm ex st la lc true d a c)) (h1 : 0 ≤ am ∧ am ≤ 999999999999) (hp : day < d) :
    Calls Try.prog 34 #[.pointer (some ⟨g, 0, none⟩), .int .i64 day, .int .i64 am] w fun e w' => e = .returned (.int .i64 14) ∧ Below w.heap.size w w' := by
  have ha := ramount_any am w
  rw [decide_eq_true h1] at ha
  have HA := Lib.hid ha
  clear ha
  obtain ⟨hc, hf, hl⟩ := h.rules
  have c7 : w.cell? ⟨g, 7, none⟩ = some (.int .i64 d) := hc 7
  have c8 : w.cell? ⟨g, 8, none⟩ = some (.bool true) := hc 8
  clear hc hf
  have hq : decide (day < d) = true := decide_eq_true hp
  clear h
  go_enter Try.func34, Try.ntmps34
  go_wp2_with fail
  refine HA.out.mono ?_
  rintro e w1 ⟨rfl, rfl⟩
  go_wp2_with fail
  go_ret
  exact ⟨rfl, Below.refl _ _⟩
set_option maxHeartbeats 1000000 in
theorem rundo_new (nm : ByteArray) (ex st la lc : Int)  (d a c : Int) (g : Nat) (day am : Int) (w : World) (h : Blk w g 60 (rc nm ex st la lc false d a c)) (h1 : 0 ≤ am ∧ am ≤ 999999999999) :
    Calls Try.prog 34 #[.pointer (some ⟨g, 0, none⟩), .int .i64 day, .int .i64 am] w fun e w' => e = .returned (.int .i64 6) ∧ Below w.heap.size w w' := by
  have ha := ramount_any am w
  rw [decide_eq_true h1] at ha
  have HA := Lib.hid ha
  clear ha
  obtain ⟨hc, hf, hl⟩ := h.rules
  have c7 : w.cell? ⟨g, 7, none⟩ = some (.int .i64 d) := hc 7
  have c8 : w.cell? ⟨g, 8, none⟩ = some (.bool false) := hc 8
  clear hc hf
  clear h
  go_enter Try.func34, Try.ntmps34
  go_wp2_with fail
  refine HA.out.mono ?_
  rintro e w1 ⟨rfl, rfl⟩
  go_wp2_with fail
  go_ret
  exact ⟨rfl, Below.refl _ _⟩
set_option maxHeartbeats 1000000 in
theorem rundo_later (nm : ByteArray) (ex st la lc : Int)  (d a c : Int) (g : Nat) (day am : Int) (w : World) (h : Blk w g 60 (rc nm ex st la lc true d a c)) (h1 : 0 ≤ am ∧ am ≤ 999999999999) (hp : d < day) :
    Calls Try.prog 34 #[.pointer (some ⟨g, 0, none⟩), .int .i64 day, .int .i64 am] w fun e w' => e = .returned (.int .i64 6) ∧ Below w.heap.size w w' := by
  have ha := ramount_any am w
  rw [decide_eq_true h1] at ha
  have HA := Lib.hid ha
  clear ha
  obtain ⟨hc, hf, hl⟩ := h.rules
  have c7 : w.cell? ⟨g, 7, none⟩ = some (.int .i64 d) := hc 7
  have c8 : w.cell? ⟨g, 8, none⟩ = some (.bool true) := hc 8
  clear hc hf
  have hq : decide (day < d) = false := decide_eq_false (by omega)
  have hq2 : decide (d < day) = true := decide_eq_true hp
  clear h
  go_enter Try.func34, Try.ntmps34
  go_wp2_with fail
  refine HA.out.mono ?_
  rintro e w1 ⟨rfl, rfl⟩
  go_wp2_with fail
  go_ret
  exact ⟨rfl, Below.refl _ _⟩
set_option maxHeartbeats 1000000 in
theorem rundo_zero (nm : ByteArray) (ex st la lc : Int)  (d a c : Int) (g : Nat) (day am : Int) (w : World) (h : Blk w g 60 (rc nm ex st la lc true d a c)) (h1 : 0 ≤ am ∧ am ≤ 999999999999) (hd : day = d) (hc0 : c = 0) :
    Calls Try.prog 34 #[.pointer (some ⟨g, 0, none⟩), .int .i64 day, .int .i64 am] w fun e w' => e = .returned (.int .i64 6) ∧ Below w.heap.size w w' := by
  have ha := ramount_any am w
  rw [decide_eq_true h1] at ha
  have HA := Lib.hid ha
  clear ha
  obtain ⟨hc, hf, hl⟩ := h.rules
  have c3 : w.cell? ⟨g, 3, none⟩ = some (.int .i64 a) := hc 3
  have c5 : w.cell? ⟨g, 5, none⟩ = some (.int .i64 c) := hc 5
  have c7 : w.cell? ⟨g, 7, none⟩ = some (.int .i64 d) := hc 7
  have c8 : w.cell? ⟨g, 8, none⟩ = some (.bool true) := hc 8
  clear hc hf
  subst hd hc0
  have hq : decide (day < day) = false := decide_eq_false (by omega)
  clear h
  go_enter Try.func34, Try.ntmps34
  go_wp2_with fail
  refine HA.out.mono ?_
  rintro e w1 ⟨rfl, rfl⟩
  go_wp2_with fail
  go_ret
  exact ⟨rfl, Below.refl _ _⟩
set_option maxHeartbeats 1000000 in
theorem rundo_less (nm : ByteArray) (ex st la lc : Int)  (d a c : Int) (g : Nat) (day am : Int) (w : World) (h : Blk w g 60 (rc nm ex st la lc true d a c)) (h1 : 0 ≤ am ∧ am ≤ 999999999999) (hd : day = d) (hc0 : c ≠ 0) (hl0 : a < am) :
    Calls Try.prog 34 #[.pointer (some ⟨g, 0, none⟩), .int .i64 day, .int .i64 am] w fun e w' => e = .returned (.int .i64 6) ∧ Below w.heap.size w w' := by
  have ha := ramount_any am w
  rw [decide_eq_true h1] at ha
  have HA := Lib.hid ha
  clear ha
  obtain ⟨hc, hf, hl⟩ := h.rules
  have c3 : w.cell? ⟨g, 3, none⟩ = some (.int .i64 a) := hc 3
  have c5 : w.cell? ⟨g, 5, none⟩ = some (.int .i64 c) := hc 5
  have c7 : w.cell? ⟨g, 7, none⟩ = some (.int .i64 d) := hc 7
  have c8 : w.cell? ⟨g, 8, none⟩ = some (.bool true) := hc 8
  clear hc hf
  subst hd
  have hq : decide (day < day) = false := decide_eq_false (by omega)
  have hx : (c == 0) = false := beq_eq_false_iff_ne.2 hc0
  have hy : decide (a < am) = true := decide_eq_true hl0
  clear h
  go_enter Try.func34, Try.ntmps34
  go_wp2_with fail
  refine HA.out.mono ?_
  rintro e w1 ⟨rfl, rfl⟩
  go_wp2_with fail
  go_ret
  exact ⟨rfl, Below.refl _ _⟩
set_option maxHeartbeats 1000000 in
theorem rundo_ok (nm : ByteArray) (ex st la lc : Int)  (d a c : Int) (g : Nat) (am : Int) (w : World) (h : Blk w g 60 (rc nm ex st la lc true d a c)) (h1 : 0 ≤ am ∧ am ≤ 999999999999) (hA : am ≤ a ∧ a ≤ 999999999999) (hC : 0 < c ∧ c ≤ 1000) :
    Calls Try.prog 34 #[.pointer (some ⟨g, 0, none⟩), .int .i64 d, .int .i64 am] w fun e w' => e = .returned (.int .i64 0) ∧ Blk w' g 60 (rc nm ex st la lc true d (a - am) (c - 1)) ∧ (∀ B, B ≤ g → B ≤ w.heap.size → Below B w w') ∧ Kp g w w' := by
  have ha := ramount_any am w
  rw [decide_eq_true h1] at ha
  have HA := Lib.hid ha
  clear ha
  have HB := Lib.hid h
  obtain ⟨hc, hf, hl⟩ := h.rules
  have c3 : w.cell? ⟨g, 3, none⟩ = some (.int .i64 a) := hc 3
  have c5 : w.cell? ⟨g, 5, none⟩ = some (.int .i64 c) := hc 5
  have c7 : w.cell? ⟨g, 7, none⟩ = some (.int .i64 d) := hc 7
  have c8 : w.cell? ⟨g, 8, none⟩ = some (.bool true) := hc 8
  have f3 : w.frozen? ⟨g, 3, none⟩ = false := hf 3
  have f5 : w.frozen? ⟨g, 5, none⟩ = false := hf 5
  clear hc hf
  have hq : decide (d < d) = false := decide_eq_false (by omega)
  have hx : (c == 0) = false := beq_eq_false_iff_ne.2 (by omega)
  have hy : decide (a < am) = false := decide_eq_false (by omega)
  clear h
  go_enter Try.func34, Try.ntmps34
  go_wp2_with fail
  refine HA.out.mono ?_
  rintro e w1 ⟨rfl, rfl⟩
  go_wp2_with fail
  go_ret
  refine ⟨rfl, ?_, fun B q1 q2 => ?_, ?_⟩
  · have k4 := (HB.out.set_ 3 (.int .i64 (a - am))).set_ 5 (.int .i64 (c - 1))
    have e : (((rc nm ex st la lc true d a c).setIfInBounds 3 (.int .i64 (a - am))).setIfInBounds 5 (.int .i64 (c - 1))) = rc nm ex st la lc true d (a - am) (c - 1) := by simp [rc]
    rw [e] at k4
    exact k4
  · exact ((Below.refl B w).setCell (p := ⟨g, 3, none⟩) q1 (.int .i64 (a - am))).setCell (p := ⟨g, 5, none⟩) q1 (.int .i64 (c - 1))
  · exact ((Kp.refl g w).set (p := ⟨g, 3, none⟩) rfl (.int .i64 (a - am))).set (p := ⟨g, 5, none⟩) rfl (.int .i64 (c - 1))
end Go.Proofs.Ytellajpjhhamhaa
