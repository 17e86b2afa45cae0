/- Undo of a card that lies in a block. -/
import Derived.Test.YtellajpjhhamhaaG
set_option linter.unusedVariables false
set_option linter.unusedSimpArgs false
namespace Go.Proofs.Ytellajpjhhamhaa
open Go.ChangeShapes Go.WideShapes Go.ChangeAt Go.RowKit
theorem undo_range (nm : ByteArray) (ex st la lc : Int) (k : Bool) (d a c : Int) (g : Nat) (day am : Int) (w : World) (h : Blk w g 57 (cc nm ex st la lc k d a c)) (h1 : ¬ (0 ≤ am ∧ am ≤ 999999999999)) :
    Calls Try.prog 23 #[.pointer (some ⟨g, 0, none⟩), .int .i64 day, .int .i64 am] w fun e w' => e = .returned (.int .i64 4) ∧ w = w' := by
  have ha := amount_any am 0 w
  rw [decide_eq_false h1] at ha
  have HA := Lib.hid ha
  clear h ha h1
  go_enter Try.func23, Try.ntmps23
  go_wp2_with fail
  refine HA.out.mono ?_
  rintro e w1 ⟨rfl, rfl⟩
  go_wp2_with fail
  go_ret
  exact ⟨rfl, rfl⟩
theorem undo_past (nm : ByteArray) (ex st la lc : Int) (k : Bool) (d a c : Int) (g : Nat) (day am : Int) (w : World) (h : Blk w g 57 (cc nm ex st la lc k d a c)) (h1 : 0 ≤ am ∧ am ≤ 999999999999) (hp : (k && decide (day < d)) = true) :
    Calls Try.prog 23 #[.pointer (some ⟨g, 0, none⟩), .int .i64 day, .int .i64 am] w fun e w' => e = .returned (.int .i64 14) ∧ w = w' := by
  have ha := amount_any am 0 w
  rw [decide_eq_true h1] at ha
  have HA := Lib.hid ha
  have hq := past_any nm ex st la lc k d a c g day w h
  rw [hp] at hq
  have HQ := Lib.hid hq
  clear h ha h1 hq hp
  go_enter Try.func23, Try.ntmps23
  go_wp2_with fail
  refine HA.out.mono ?_
  rintro e w1 ⟨rfl, rfl⟩
  go_wp2_with fail
  refine HQ.out.mono ?_
  rintro e w1 ⟨rfl, rfl⟩
  go_wp2_with fail
  go_ret
  exact ⟨rfl, rfl⟩
set_option maxHeartbeats 1000000 in
theorem undo_none (nm : ByteArray) (ex st la lc : Int) (k : Bool) (d a c : Int) (g : Nat) (day am : Int) (w : World) (h : Blk w g 57 (cc nm ex st la lc k d a c)) (h1 : 0 ≤ am ∧ am ≤ 999999999999) (hp : (k && decide (day < d)) = false)
    (h2 : dayA k d day c = 0 ∨ dayA k d day a < am) :
    Calls Try.prog 23 #[.pointer (some ⟨g, 0, none⟩), .int .i64 day, .int .i64 am] w fun e w' => e = .returned (.int .i64 6) ∧ Below w.heap.size w w' := by
  have ha := amount_any am 0 w
  rw [decide_eq_true h1] at ha
  have HA := Lib.hid ha
  have hq := past_any nm ex st la lc k d a c g day w h
  rw [hp] at hq
  have HQ := Lib.hid hq
  have HD := Lib.hid (day_any nm ex st la lc k d a c g day w h)
  generalize hga : dayA k d day a = A at *
  generalize hgc : dayA k d day c = C at *
  clear h ha hq hp hga hgc
  go_enter Try.func23, Try.ntmps23
  go_wp2_with fail
  refine HA.out.mono ?_
  rintro e w1 ⟨rfl, rfl⟩
  go_wp2_with fail
  refine HQ.out.mono ?_
  rintro e w1 ⟨rfl, rfl⟩
  go_wp2_with fail
  refine HD.out.mono ?_
  rintro e w1 ⟨rfl, hb⟩
  have HW := Lib.hid hb
  clear hb
  by_cases g1 : C = 0
  · have hg1 : (C == 0) = true := beq_iff_eq.2 g1
    clear h2 g1
    go_wp2_with fail
    first
      | (go_ret; exact ⟨rfl, HW.out.alloc HW.out.size _⟩)
      | (go_region; go_wp2_with fail; go_ret; exact ⟨rfl, (HW.out.alloc HW.out.size _).drew⟩)
  · have hg1 : (C == 0) = false := beq_eq_false_iff_ne.2 g1
    have hg2 : decide (A < am) = true := decide_eq_true (by omega)
    clear h2 g1
    go_wp2_with fail
    first
      | (go_ret; exact ⟨rfl, HW.out.alloc HW.out.size _⟩)
      | (go_region; go_wp2_with fail; go_ret; exact ⟨rfl, (HW.out.alloc HW.out.size _).drew⟩)
set_option maxHeartbeats 1000000 in
theorem undo_ok (nm : ByteArray) (ex st la lc : Int) (d a c : Int) (g : Nat) (am : Int) (w : World) (h : Blk w g 57 (cc nm ex st la lc true d a c)) (h1 : 0 ≤ am ∧ am ≤ 999999999999)
    (hA : am ≤ a ∧ a ≤ 999999999999) (hC : 0 < c ∧ c ≤ 1000) :
    Calls Try.prog 23 #[.pointer (some ⟨g, 0, none⟩), .int .i64 d, .int .i64 am] w fun e w' => e = .returned (.int .i64 0) ∧ Blk w' g 57 (cc nm ex st la lc true d (a - am) (c - 1)) ∧ (∀ B, B ≤ g → B ≤ w.heap.size → Below B w w') ∧ Kp g w w' := by
  have ha := amount_any am 0 w
  rw [decide_eq_true h1] at ha
  have HA := Lib.hid ha
  have hq := past_any nm ex st la lc true d a c g d w h
  rw [show (true && decide (d < d)) = false from by simp] at hq
  have HQ := Lib.hid hq
  have hd := day_any nm ex st la lc true d a c g d w h
  rw [show dayA true d d a = a from by simp [dayA], show dayA true d d c = c from by simp [dayA]] at hd
  have HD := Lib.hid hd
  have HB := Lib.hid h
  clear h ha hq hd
  go_enter Try.func23, Try.ntmps23
  go_wp2_with fail
  refine HA.out.mono ?_
  rintro e w1 ⟨rfl, rfl⟩
  go_wp2_with fail
  refine HQ.out.mono ?_
  rintro e w1 ⟨rfl, rfl⟩
  go_wp2_with fail
  refine HD.out.mono ?_
  rintro e w1 ⟨rfl, hb⟩
  have HK := HB.out.call hb
  have HW := Lib.hid hb
  obtain ⟨hc, hf, hl⟩ := HK.rules
  have c9 : w1.cell? ⟨g, 9, none⟩ = some (.int .i64 a) := hc 9
  have c10 : w1.cell? ⟨g, 10, none⟩ = some (.int .i64 c) := hc 10
  have f9 : w1.frozen? ⟨g, 9, none⟩ = false := hf 9
  have f10 : w1.frozen? ⟨g, 10, none⟩ = false := hf 10
  have HKB := Lib.hid HK
  clear hc hf HK hb
  have hg1 : (c == 0) = false := beq_eq_false_iff_ne.2 (by omega)
  have hg2 : decide (a < am) = false := decide_eq_false (by omega)
  go_wp2_with fail
  try (go_region; go_wp2_with fail)
  go_ret
  refine ⟨rfl, ?_, fun B q1 q2 => ?_, ?_⟩
  · have k4 := (HKB.out.set_ 9 (.int .i64 (a - am))).set_ 10 (.int .i64 (c - 1))
    have e : (((cc nm ex st la lc true d a c).setIfInBounds 9 (.int .i64 (a - am))).setIfInBounds 10 (.int .i64 (c - 1))) = cc nm ex st la lc true d (a - am) (c - 1) := by simp [cc]
    rw [e] at k4
    first | exact k4.alloc _
  · have b4 := ((HW.out.mono q2).setCell (p := ⟨g, 9, none⟩) q1 (.int .i64 (a - am))).setCell (p := ⟨g, 10, none⟩) q1 (.int .i64 (c - 1))
    first | exact (b4.alloc (Nat.le_trans q2 b4.size) _) | exact (b4.alloc (Nat.le_trans q2 b4.size) _).drew
  · have k1 := ((Kp.call (g := g) HW.out).set (p := ⟨g, 9, none⟩) rfl (.int .i64 (a - am))).set (p := ⟨g, 10, none⟩) rfl (.int .i64 (c - 1))
    first | exact (k1.alloc (by simp; exact HW.out.size) _) | exact (k1.alloc (by simp; exact HW.out.size) _).drew
end Go.Proofs.Ytellajpjhhamhaa
