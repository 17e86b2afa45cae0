/- Use of a card that lies in a block: the way on which it is counted. -/
import Derived.Test.YtellajpjhhamhaaE
set_option linter.unusedVariables false
set_option linter.unusedSimpArgs false
namespace Go.Proofs.Ytellajpjhhamhaa
open Go.ChangeShapes Go.WideShapes Go.ChangeAt Go.RowKit
theorem use_bad (nm : ByteArray) (ex st la lc : Int) (k : Bool) (d a c : Int) (g : Nat) (day am E : Int) (w : World) (h : Blk w g 57 (cc nm ex st la lc k d a c)) (hE : usE st ex day = E) (h0 : E ≠ 0) :
    Calls Try.prog 21 #[.pointer (some ⟨g, 0, none⟩), .int .i64 day, .int .i64 am] w fun e w' => e = .returned (.int .i64 E) ∧ w = w' := by
  have hu := usable_any nm ex st la lc k d a c g day w h
  rw [hE] at hu
  have HU := Lib.hid hu
  have hb : (E == 0) = false := beq_eq_false_iff_ne.2 h0
  clear hu h hE
  go_enter Try.func21, Try.ntmps21
  go_wp2_with fail
  refine HU.out.mono ?_
  rintro e w1 ⟨rfl, rfl⟩
  go_wp2_with fail
  go_ret
  exact ⟨rfl, rfl⟩
set_option maxHeartbeats 1000000 in
theorem use_ok (nm : ByteArray) (ex st la lc : Int) (k : Bool) (d a c : Int) (g : Nat) (day am : Int) (w : World) (h : Blk w g 57 (cc nm ex st la lc k d a c)) (hE : usE st ex day = 0) (h1 : 0 ≤ am ∧ am ≤ 999999999999) (hp : (k && decide (day < d)) = false)
    (hA : 0 ≤ dayA k d day a ∧ dayA k d day a ≤ 999999999999) (hC : 0 ≤ dayA k d day c ∧ dayA k d day c ≤ 1000) (h2 : dayA k d day a + am ≤ la) (h3 : dayA k d day c + 1 ≤ lc) :
    Calls Try.prog 21 #[.pointer (some ⟨g, 0, none⟩), .int .i64 day, .int .i64 am] w fun e w' => e = .returned (.int .i64 0) ∧ Blk w' g 57 (cc nm ex st la lc true day (dayA k d day a + am) (dayA k d day c + 1)) ∧ (∀ B, B ≤ g → B ≤ w.heap.size → Below B w w') ∧ Kp g w w' := by
  have hu := usable_any nm ex st la lc k d a c g day w h
  rw [hE] at hu
  have HU := Lib.hid hu
  have ha := amount_any am 0 w
  rw [decide_eq_true h1] at ha
  have HA := Lib.hid ha
  have hq := past_any nm ex st la lc k d a c g day w h
  rw [hp] at hq
  have HQ := Lib.hid hq
  have HD := Lib.hid (day_any nm ex st la lc k d a c g day w h)
  have HB := Lib.hid h
  generalize hga : dayA k d day a = A at *
  generalize hgc : dayA k d day c = C at *
  clear hu h hE ha hq hp hga hgc
  go_enter Try.func21, Try.ntmps21
  go_wp2_with fail
  refine HU.out.mono ?_
  rintro e w1 ⟨rfl, rfl⟩
  go_wp2_with fail
  refine HA.out.mono ?_
  rintro e w1 ⟨rfl, rfl⟩
  go_wp2_with fail
  refine HQ.out.mono ?_
  rintro e w1 ⟨rfl, rfl⟩
  go_wp2_with fail
  refine HD.out.mono ?_
  rintro e w1 ⟨rfl, hb⟩
  have HK := HB.out.call hb
  have HW := Lib.hid hb
  obtain ⟨hc, hf, hl⟩ := HK.rules
  have c5 : w1.cell? ⟨g, 5, none⟩ = some (.int .i64 la) := hc 5
  have c6 : w1.cell? ⟨g, 6, none⟩ = some (.int .i64 lc) := hc 6
  have c7 : w1.cell? ⟨g, 7, none⟩ = some (.bool k) := hc 7
  have c8 : w1.cell? ⟨g, 8, none⟩ = some (.int .i64 d) := hc 8
  have c9 : w1.cell? ⟨g, 9, none⟩ = some (.int .i64 a) := hc 9
  have c10 : w1.cell? ⟨g, 10, none⟩ = some (.int .i64 c) := hc 10
  have f7 : w1.frozen? ⟨g, 7, none⟩ = false := hf 7
  have f8 : w1.frozen? ⟨g, 8, none⟩ = false := hf 8
  have f9 : w1.frozen? ⟨g, 9, none⟩ = false := hf 9
  have f10 : w1.frozen? ⟨g, 10, none⟩ = false := hf 10
  have HKB := Lib.hid HK
  clear hc hf HK hb
  go_wp2_with fail
  have hg1 : decide (la < A + am) = false := decide_eq_false (by omega)
  have hg2 : decide (lc < C + 1) = false := decide_eq_false (by omega)
  go_region
  go_wp2_with fail
  go_ret
  refine ⟨rfl, ?_, fun B q1 q2 => ?_, ?_⟩
  · have k4 := (((HKB.out.set_ 7 (.bool true)).set_ 8 (.int .i64 day)).set_ 9 (.int .i64 (A + am))).set_ 10 (.int .i64 (C + 1))
    have e : ((((cc nm ex st la lc k d a c).setIfInBounds 7 (.bool true)).setIfInBounds 8 (.int .i64 day)).setIfInBounds 9 (.int .i64 (A + am))).setIfInBounds 10 (.int .i64 (C + 1)) = cc nm ex st la lc true day (A + am) (C + 1) := by simp [cc]
    rw [e] at k4
    exact k4.alloc _
  · have b4 := ((((HW.out.mono q2).setCell (p := ⟨g, 7, none⟩) q1 (.bool true)).setCell (p := ⟨g, 8, none⟩) q1 (.int .i64 day)).setCell (p := ⟨g, 9, none⟩) q1 (.int .i64 (A + am))).setCell (p := ⟨g, 10, none⟩) q1 (.int .i64 (C + 1))
    exact (b4.alloc (Nat.le_trans q2 b4.size) _).drew
  · have k1 := ((((Kp.call (g := g) HW.out).set (p := ⟨g, 7, none⟩) rfl (.bool true)).set (p := ⟨g, 8, none⟩) rfl (.int .i64 day)).set (p := ⟨g, 9, none⟩) rfl (.int .i64 (A + am))).set (p := ⟨g, 10, none⟩) rfl (.int .i64 (C + 1))
    exact (k1.alloc (by simp; exact HW.out.size) _).drew
end Go.Proofs.Ytellajpjhhamhaa
