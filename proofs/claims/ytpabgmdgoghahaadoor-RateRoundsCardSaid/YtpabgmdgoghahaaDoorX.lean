/- RateRounds: the walk where the amount is converted. -/
import Derived.Test.YtpabgmdgoghahaaDoorW
import Derived.BigQuiet
import Derived.Deep.QuietTactic
set_option linter.unusedVariables false
set_option linter.unusedSimpArgs false
namespace Go.Proofs.YtpabgmdgoghahaaDoor.rateRounds
open Go.Sort Go.ChangeShapes Go.WideShapes Go.ChangeAt Go.RowKit
theorem drews {w : World} {g t : Nat} {cs : Array Value} (h : Blk w g t cs) (k : Nat) : Blk (w.drewN k) g t cs := h
theorem below_draws {B : Nat} {a w : World} (h : Below B a w) (n : Nat) : Below B a (w.drewN n) := h.trans ⟨rfl, rfl, rfl, Nat.le_refl _, fun _ _ => rfl⟩
set_option maxRecDepth 100000 in
set_option maxHeartbeats 2000000 in
theorem down_neg (a : Int) (c f t : ByteArray) (n d : Int) (w : World) (g1 : -1048576 ≤ a) (g2 : a ≤ 1048576) (g3 : n ≤ 1048576) (g4 : d ≤ 1048576) (hs : ∀ w, Calls Tryd.prog 9 #[rt f t n d] w fun e w' => e = .returned (.bool true) ∧ Below w.heap.size w w') (h : c.size ≤ 20)
    (n1 : 1 ≤ n) (d1 : 1 ≤ d) (x X Y : Int) (hX : a * n = X) (hY : x * d = Y) (x0 : -2199023255552 ≤ x) (x1 : x ≤ 2199023255552) (X0 : -1099511627776 ≤ X) (X1 : X ≤ 1099511627776) (Y0 : -4398046511104 ≤ Y) (Y1 : Y ≤ 4398046511104)
    (hv : ∀ w, Calls Tryd.prog 17 #[mo a c, rt f t n d, .int .i64 1] w fun e w' => e = .returned (.tuple #[mo x t, .int .i64 0]) ∧ Below w.heap.size w w')
    (hsg : Y < X) (hd : ¬ d ≤ X - Y) (habs : Y.natAbs ≤ X.natAbs) :
    Calls Tryd.prog 7 #[.agg #[.int .i64 a, .string c], .agg #[.string f, .string t, .int .i64 n, .int .i64 d], .int .i64 1] w fun e w' => e = .returned (.bool true) ∧ Below w.heap.size w w' := by
  have HA := Lib.hid awake_any
  have HS := Lib.hid hs
  have HV := Lib.hid hv
  have hc0 : decide ((20 : Int) < (c.size : Int)) = false := decide_eq_false (by omega)
  have hc1 : (c.size : Int) ≤ 20 := by omega
  have wX : IntKind.i64.wrap (a * n) = X := by rw [hX]; exact IntWalk.i64_in _ (by omega)
  have wY : IntKind.i64.wrap (x * d) = Y := by rw [hY]; exact IntWalk.i64_in _ (by omega)
  have heq : (t.toList == t.toList) = true := beq_self_eq_true _
  unfold mo rt at *
  have dg1 : decide (a < -1048576) = false := decide_eq_false (by omega)
  have dg2 : decide (1048576 < a) = false := decide_eq_false (by omega)
  have dg3 : decide (1048576 < n) = false := decide_eq_false (by omega)
  have dg4 : decide (1048576 < d) = false := decide_eq_false (by omega)
  have dg5 : decide (x < -2199023255552) = false := decide_eq_false (by omega)
  have dg6 : decide (2199023255552 < x) = false := decide_eq_false (by omega)
  have dg7 : decide (n < 1) = false := decide_eq_false (by omega)
  have dg8 : decide (d < 1) = false := decide_eq_false (by omega)
  have esz : (w.alloc (.cells #[.int .i64 a, .string c] 33)).heap.size = w.heap.size + 1 := by simp [go_sem]
  have AX := Lib.hid (abs_any X (by omega) (by omega))
  have AY := Lib.hid (abs_any Y (by omega) (by omega))
  generalize X.natAbs = ux at *
  generalize Y.natAbs = uy at *
  have hab : (uy : Int) ≤ (ux : Int) := by omega
  have hne : (-(Y - X) != 0) = true := by rw [bne_iff_ne]; omega
  clear hs h hv hX hY habs
  go_enter Tryd.func7, Tryd.ntmps7
  go_wp2_with fail
  refine (HS.out _).mono ?_
  rintro e w1 ⟨rfl, hb⟩
  obtain ⟨q1, o1, rfl⟩ := regrow_of hb
  clear hb
  go_wp2_with fail
  refine (HV.out _).mono ?_
  rintro e w2 ⟨rfl, hb⟩
  have HB2 := Lib.hid (below_call (bre (al (o := .cells #[.string f, .string t, .int .i64 n, .int .i64 d] 23) (al (o := .cells #[.int .i64 a, .string c] 33) (Below.refl _ w))) q1 o1) hb)
  have HM2 := Lib.hid ((((Blk.new w 33 #[.int .i64 a, .string c]).alloc (.cells #[.string f, .string t, .int .i64 n, .int .i64 d] 23)).call (below_regrown _ q1 o1)).call hb)
  have HR2 := Lib.hid (((Blk.new (w.alloc (.cells #[.int .i64 a, .string c] 33)) 23 #[.string f, .string t, .int .i64 n, .int .i64 d]).call (below_regrown _ q1 o1)).call hb)
  rw [esz] at HR2
  clear hb esz
  obtain ⟨m0, m1, -, -, m2⟩ := cell2 HM2.out
  obtain ⟨r0, r1, r2, r3, r4⟩ := cellf HR2.out
  go_wp2_with fail
  have HB3 := Lib.hid (al (o := .cells #[.int .i64 x, .string t] 33) HB2.out)
  have HM3 := Lib.hid (HM2.out.alloc (.cells #[.int .i64 x, .string t] 33))
  have HR3 := Lib.hid (HR2.out.alloc (.cells #[.int .i64 x, .string t] 33))
  have HX3 := Lib.hid (Blk.new w2 33 #[.int .i64 x, .string t])
  clear m0 m1 m2 r0 r1 r2 r3 r4 HB2 HM2 HR2 HS HV
  generalize w2.alloc (.cells #[.int .i64 x, .string t] 33) = W at *
  generalize w2.heap.size = gx at *
  obtain ⟨m0, m1, -, -, m2⟩ := cell2 HM3.out
  obtain ⟨r0, r1, r2, r3, r4⟩ := cellf HR3.out
  obtain ⟨y0, y1, -, -, y2⟩ := cell2 HX3.out
  go_quiet (fail)
  replace HB3 := Lib.hid (below_draws HB3.out nq)
  replace HM3 := Lib.hid (drews HM3.out nq)
  replace HR3 := Lib.hid (drews HR3.out nq)
  replace HX3 := Lib.hid (drews HX3.out nq)
  clear m0 m1 m2 r0 r1 r2 r3 r4 y0 y1 y2
  generalize W.drewN nq = V at *
  obtain ⟨m0, m1, -, -, m2⟩ := cell2 HM3.out
  obtain ⟨r0, r1, r2, r3, r4⟩ := cellf HR3.out
  obtain ⟨y0, y1, -, -, y2⟩ := cell2 HX3.out
  go_wp2_with fail
  refine (AY.out _).mono ?_
  rintro e v0 ⟨rfl, rfl⟩
  go_wp2_with fail
  refine (AX.out _).mono ?_
  rintro e v0 ⟨rfl, rfl⟩
  go_wp2_with fail
  refine (HA.out _).mono ?_
  rintro e v1 ⟨rfl, hb⟩
  have HB4 := Lib.hid (below_call HB3.out hb)
  clear hb
  go_wp2_with fail
  go_ret
  exact ⟨rfl, HB4.out⟩
set_option maxRecDepth 100000 in
set_option maxHeartbeats 2000000 in
theorem down_pos (a : Int) (c f t : ByteArray) (n d : Int) (w : World) (g1 : -1048576 ≤ a) (g2 : a ≤ 1048576) (g3 : n ≤ 1048576) (g4 : d ≤ 1048576) (hs : ∀ w, Calls Tryd.prog 9 #[rt f t n d] w fun e w' => e = .returned (.bool true) ∧ Below w.heap.size w w') (h : c.size ≤ 20)
    (n1 : 1 ≤ n) (d1 : 1 ≤ d) (x X Y : Int) (hX : a * n = X) (hY : x * d = Y) (x0 : -2199023255552 ≤ x) (x1 : x ≤ 2199023255552) (X0 : -1099511627776 ≤ X) (X1 : X ≤ 1099511627776) (Y0 : -4398046511104 ≤ Y) (Y1 : Y ≤ 4398046511104)
    (hv : ∀ w, Calls Tryd.prog 17 #[mo a c, rt f t n d, .int .i64 1] w fun e w' => e = .returned (.tuple #[mo x t, .int .i64 0]) ∧ Below w.heap.size w w')
    (hsg : X < Y) (hd : ¬ d ≤ Y - X) (habs : Y.natAbs ≤ X.natAbs) :
    Calls Tryd.prog 7 #[.agg #[.int .i64 a, .string c], .agg #[.string f, .string t, .int .i64 n, .int .i64 d], .int .i64 1] w fun e w' => e = .returned (.bool true) ∧ Below w.heap.size w w' := by
  have HA := Lib.hid awake_any
  have HS := Lib.hid hs
  have HV := Lib.hid hv
  have hc0 : decide ((20 : Int) < (c.size : Int)) = false := decide_eq_false (by omega)
  have hc1 : (c.size : Int) ≤ 20 := by omega
  have wX : IntKind.i64.wrap (a * n) = X := by rw [hX]; exact IntWalk.i64_in _ (by omega)
  have wY : IntKind.i64.wrap (x * d) = Y := by rw [hY]; exact IntWalk.i64_in _ (by omega)
  have heq : (t.toList == t.toList) = true := beq_self_eq_true _
  unfold mo rt at *
  have dg1 : decide (a < -1048576) = false := decide_eq_false (by omega)
  have dg2 : decide (1048576 < a) = false := decide_eq_false (by omega)
  have dg3 : decide (1048576 < n) = false := decide_eq_false (by omega)
  have dg4 : decide (1048576 < d) = false := decide_eq_false (by omega)
  have dg5 : decide (x < -2199023255552) = false := decide_eq_false (by omega)
  have dg6 : decide (2199023255552 < x) = false := decide_eq_false (by omega)
  have dg7 : decide (n < 1) = false := decide_eq_false (by omega)
  have dg8 : decide (d < 1) = false := decide_eq_false (by omega)
  have esz : (w.alloc (.cells #[.int .i64 a, .string c] 33)).heap.size = w.heap.size + 1 := by simp [go_sem]
  have AX := Lib.hid (abs_any X (by omega) (by omega))
  have AY := Lib.hid (abs_any Y (by omega) (by omega))
  generalize X.natAbs = ux at *
  generalize Y.natAbs = uy at *
  have hab : (uy : Int) ≤ (ux : Int) := by omega
  have hne : (Y - X != 0) = true := by rw [bne_iff_ne]; omega
  clear hs h hv hX hY habs
  go_enter Tryd.func7, Tryd.ntmps7
  go_wp2_with fail
  refine (HS.out _).mono ?_
  rintro e w1 ⟨rfl, hb⟩
  obtain ⟨q1, o1, rfl⟩ := regrow_of hb
  clear hb
  go_wp2_with fail
  refine (HV.out _).mono ?_
  rintro e w2 ⟨rfl, hb⟩
  have HB2 := Lib.hid (below_call (bre (al (o := .cells #[.string f, .string t, .int .i64 n, .int .i64 d] 23) (al (o := .cells #[.int .i64 a, .string c] 33) (Below.refl _ w))) q1 o1) hb)
  have HM2 := Lib.hid ((((Blk.new w 33 #[.int .i64 a, .string c]).alloc (.cells #[.string f, .string t, .int .i64 n, .int .i64 d] 23)).call (below_regrown _ q1 o1)).call hb)
  have HR2 := Lib.hid (((Blk.new (w.alloc (.cells #[.int .i64 a, .string c] 33)) 23 #[.string f, .string t, .int .i64 n, .int .i64 d]).call (below_regrown _ q1 o1)).call hb)
  rw [esz] at HR2
  clear hb esz
  obtain ⟨m0, m1, -, -, m2⟩ := cell2 HM2.out
  obtain ⟨r0, r1, r2, r3, r4⟩ := cellf HR2.out
  go_wp2_with fail
  have HB3 := Lib.hid (al (o := .cells #[.int .i64 x, .string t] 33) HB2.out)
  have HM3 := Lib.hid (HM2.out.alloc (.cells #[.int .i64 x, .string t] 33))
  have HR3 := Lib.hid (HR2.out.alloc (.cells #[.int .i64 x, .string t] 33))
  have HX3 := Lib.hid (Blk.new w2 33 #[.int .i64 x, .string t])
  clear m0 m1 m2 r0 r1 r2 r3 r4 HB2 HM2 HR2 HS HV
  generalize w2.alloc (.cells #[.int .i64 x, .string t] 33) = W at *
  generalize w2.heap.size = gx at *
  obtain ⟨m0, m1, -, -, m2⟩ := cell2 HM3.out
  obtain ⟨r0, r1, r2, r3, r4⟩ := cellf HR3.out
  obtain ⟨y0, y1, -, -, y2⟩ := cell2 HX3.out
  go_quiet (fail)
  replace HB3 := Lib.hid (below_draws HB3.out nq)
  replace HM3 := Lib.hid (drews HM3.out nq)
  replace HR3 := Lib.hid (drews HR3.out nq)
  replace HX3 := Lib.hid (drews HX3.out nq)
  clear m0 m1 m2 r0 r1 r2 r3 r4 y0 y1 y2
  generalize W.drewN nq = V at *
  obtain ⟨m0, m1, -, -, m2⟩ := cell2 HM3.out
  obtain ⟨r0, r1, r2, r3, r4⟩ := cellf HR3.out
  obtain ⟨y0, y1, -, -, y2⟩ := cell2 HX3.out
  go_wp2_with fail
  refine (AY.out _).mono ?_
  rintro e v0 ⟨rfl, rfl⟩
  go_wp2_with fail
  refine (AX.out _).mono ?_
  rintro e v0 ⟨rfl, rfl⟩
  go_wp2_with fail
  refine (HA.out _).mono ?_
  rintro e v1 ⟨rfl, hb⟩
  have HB4 := Lib.hid (below_call HB3.out hb)
  clear hb
  go_wp2_with fail
  go_ret
  exact ⟨rfl, HB4.out⟩
set_option maxRecDepth 100000 in
set_option maxHeartbeats 2000000 in
theorem down_zero (a : Int) (c f t : ByteArray) (n d : Int) (w : World) (g1 : -1048576 ≤ a) (g2 : a ≤ 1048576) (g3 : n ≤ 1048576) (g4 : d ≤ 1048576) (hs : ∀ w, Calls Tryd.prog 9 #[rt f t n d] w fun e w' => e = .returned (.bool true) ∧ Below w.heap.size w w') (h : c.size ≤ 20)
    (n1 : 1 ≤ n) (d1 : 1 ≤ d) (x X : Int) (hX : a * n = X) (hY : x * d = X) (x0 : -2199023255552 ≤ x) (x1 : x ≤ 2199023255552) (X0 : -1099511627776 ≤ X) (X1 : X ≤ 1099511627776) 
    (hv : ∀ w, Calls Tryd.prog 17 #[mo a c, rt f t n d, .int .i64 1] w fun e w' => e = .returned (.tuple #[mo x t, .int .i64 0]) ∧ Below w.heap.size w w')
    (n' d' : Int) (hi : ∀ w, Calls Tryd.prog 19 #[rt f t n d] w fun e w' => e = .returned (.tuple #[rt t f n' d', .int .i64 0]) ∧ Below w.heap.size w w') (hv2 : ∀ w, Calls Tryd.prog 17 #[mo x t, rt t f n' d', .int .i64 1] w fun e w' => e = .returned (.tuple #[mo a f, .int .i64 0]) ∧ Below w.heap.size w w') (hfc : (f.toList == c.toList) = true) :
    Calls Tryd.prog 7 #[.agg #[.int .i64 a, .string c], .agg #[.string f, .string t, .int .i64 n, .int .i64 d], .int .i64 1] w fun e w' => e = .returned (.bool true) ∧ Below w.heap.size w w' := by
  have HA := Lib.hid awake_any
  have HS := Lib.hid hs
  have HV := Lib.hid hv
  have hc0 : decide ((20 : Int) < (c.size : Int)) = false := decide_eq_false (by omega)
  have hc1 : (c.size : Int) ≤ 20 := by omega
  have wX : IntKind.i64.wrap (a * n) = X := by rw [hX]; exact IntWalk.i64_in _ (by omega)
  have wY : IntKind.i64.wrap (x * d) = X := by rw [hY]; exact IntWalk.i64_in _ (by omega)
  have heq : (t.toList == t.toList) = true := beq_self_eq_true _
  have dg1 : decide (a < -1048576) = false := decide_eq_false (by omega)
  have dg2 : decide (1048576 < a) = false := decide_eq_false (by omega)
  have dg3 : decide (1048576 < n) = false := decide_eq_false (by omega)
  have dg4 : decide (1048576 < d) = false := decide_eq_false (by omega)
  have dg5 : decide (x < -2199023255552) = false := decide_eq_false (by omega)
  have dg6 : decide (2199023255552 < x) = false := decide_eq_false (by omega)
  have dg7 : decide (n < 1) = false := decide_eq_false (by omega)
  have dg8 : decide (d < 1) = false := decide_eq_false (by omega)
  have esz : (w.alloc (.cells #[.int .i64 a, .string c] 33)).heap.size = w.heap.size + 1 := by simp [go_sem]
  unfold mo rt at *
  have HI := Lib.hid hi
  have HV2 := Lib.hid hv2
  have z0 : IntKind.i64.wrap 0 = 0 := by decide
  have AX := Lib.hid (abs_any X (by omega) (by omega))
  generalize X.natAbs = ux at *
  clear hs h hv hX hY hi hv2
  go_enter Tryd.func7, Tryd.ntmps7
  go_wp2_with fail
  refine (HS.out _).mono ?_
  rintro e w1 ⟨rfl, hb⟩
  obtain ⟨q1, o1, rfl⟩ := regrow_of hb
  clear hb
  go_wp2_with fail
  refine (HV.out _).mono ?_
  rintro e w2 ⟨rfl, hb⟩
  have HB2 := Lib.hid (below_call (bre (al (o := .cells #[.string f, .string t, .int .i64 n, .int .i64 d] 23) (al (o := .cells #[.int .i64 a, .string c] 33) (Below.refl _ w))) q1 o1) hb)
  have HM2 := Lib.hid ((((Blk.new w 33 #[.int .i64 a, .string c]).alloc (.cells #[.string f, .string t, .int .i64 n, .int .i64 d] 23)).call (below_regrown _ q1 o1)).call hb)
  have HR2 := Lib.hid (((Blk.new (w.alloc (.cells #[.int .i64 a, .string c] 33)) 23 #[.string f, .string t, .int .i64 n, .int .i64 d]).call (below_regrown _ q1 o1)).call hb)
  rw [esz] at HR2
  clear hb esz
  obtain ⟨m0, m1, -, -, m2⟩ := cell2 HM2.out
  obtain ⟨r0, r1, r2, r3, r4⟩ := cellf HR2.out
  go_wp2_with fail
  have HB3 := Lib.hid (al (o := .cells #[.int .i64 x, .string t] 33) HB2.out)
  have HM3 := Lib.hid (HM2.out.alloc (.cells #[.int .i64 x, .string t] 33))
  have HR3 := Lib.hid (HR2.out.alloc (.cells #[.int .i64 x, .string t] 33))
  have HX3 := Lib.hid (Blk.new w2 33 #[.int .i64 x, .string t])
  clear m0 m1 m2 r0 r1 r2 r3 r4 HB2 HM2 HR2 HS HV
  generalize w2.alloc (.cells #[.int .i64 x, .string t] 33) = W at *
  generalize w2.heap.size = gx at *
  obtain ⟨m0, m1, -, -, m2⟩ := cell2 HM3.out
  obtain ⟨r0, r1, r2, r3, r4⟩ := cellf HR3.out
  obtain ⟨y0, y1, -, -, y2⟩ := cell2 HX3.out
  go_quiet (fail)
  replace HB3 := Lib.hid (below_draws HB3.out nq)
  replace HM3 := Lib.hid (drews HM3.out nq)
  replace HR3 := Lib.hid (drews HR3.out nq)
  replace HX3 := Lib.hid (drews HX3.out nq)
  clear m0 m1 m2 r0 r1 r2 r3 r4 y0 y1 y2
  generalize W.drewN nq = V at *
  obtain ⟨m0, m1, -, -, m2⟩ := cell2 HM3.out
  obtain ⟨r0, r1, r2, r3, r4⟩ := cellf HR3.out
  obtain ⟨y0, y1, -, -, y2⟩ := cell2 HX3.out
  go_wp2_with fail
  refine (AX.out _).mono ?_
  rintro e v0 ⟨rfl, rfl⟩
  go_wp2_with fail
  refine (AX.out _).mono ?_
  rintro e v0 ⟨rfl, rfl⟩
  go_wp2_with fail
  refine (HI.out _).mono ?_
  rintro e v1 ⟨rfl, hb⟩
  have HB4 := Lib.hid (below_call HB3.out hb)
  have HM4 := Lib.hid (HM3.out.call hb)
  have HX4 := Lib.hid (HX3.out.call hb)
  clear hb m0 m1 m2 r0 r1 r2 r3 r4 y0 y1 y2
  obtain ⟨y0, y1, -, -, y2⟩ := cell2 HX4.out
  go_wp2_with fail
  refine (HV2.out _).mono ?_
  rintro e v2 ⟨rfl, hb⟩
  have HB5 := Lib.hid (below_call (al HB4.out) hb)
  have HM5 := Lib.hid ((HM4.out.alloc _).call hb)
  clear hb y0 y1 y2
  obtain ⟨m0, m1, -, -, m2⟩ := cell2 HM5.out
  go_wp2_with fail
  refine (HA.out _).mono ?_
  rintro e v3 ⟨rfl, hb⟩
  have HB6 := Lib.hid (below_call (al HB5.out) hb)
  clear hb
  go_wp2_with fail
  go_ret
  exact ⟨rfl, HB6.out⟩
end Go.Proofs.YtpabgmdgoghahaaDoor.rateRounds
