/- RateRounds: what the walk calls, and where it ends early. -/
import Derived.Test.YtpabgmdgoghahaaDoorV
import Derived.StillTailTactics
import Derived.IntWalk
set_option linter.unusedVariables false
set_option linter.unusedSimpArgs false
namespace Go.Proofs.YtpabgmdgoghahaaDoor
open Go.Sort Go.ChangeShapes Go.WideShapes Go.ChangeAt Go.RowKit
theorem cell2 {w : World} {g t : Nat} {x y : Value} (h : Blk w g t #[x, y]) : w.cell? ⟨g, 0, none⟩ = some x ∧ w.cell? ⟨g, 1, none⟩ = some y ∧ w.frozen? ⟨g, 0, none⟩ = false ∧ w.frozen? ⟨g, 1, none⟩ = false ∧ g < w.heap.size :=
  ⟨h.cell 0, h.cell 1, h.frozen 0, h.frozen 1, h.lt⟩
theorem cellf {w : World} {g t : Nat} {x y z u : Value} (h : Blk w g t #[x, y, z, u]) : w.cell? ⟨g, 0, none⟩ = some x ∧ w.cell? ⟨g, 1, none⟩ = some y ∧ w.cell? ⟨g, 2, none⟩ = some z ∧ w.cell? ⟨g, 3, none⟩ = some u ∧ g < w.heap.size :=
  ⟨h.cell 0, h.cell 1, h.cell 2, h.cell 3, h.lt⟩
theorem abs_any (n : Int) (h0 : -4398046511104 ≤ n) (h1 : n ≤ 4398046511104) (w : World) : Calls Tryd.prog 27 #[.int .i64 n] w fun e w' => e = .returned (.int .i64 (n.natAbs : Nat)) ∧ w = w' := by
  by_cases hs : n < 0
  · have e1 : ((n.natAbs : Nat) : Int) = -n := by omega
    rw [e1]; clear e1
    go_enter Tryd.func27, Tryd.ntmps27
    go_wp2_with fail
    go_ret
    exact ⟨rfl, rfl⟩
  · have e1 : ((n.natAbs : Nat) : Int) = n := by omega
    rw [e1]; clear e1
    go_enter Tryd.func27, Tryd.ntmps27
    go_wp2_with fail
    go_ret
    exact ⟨rfl, rfl⟩
namespace rateRounds
set_option maxRecDepth 100000 in
set_option maxHeartbeats 2000000 in
theorem out1 (a : Int) (c f t : ByteArray) (n d mode : Int) (w : World) (h : a < -1048576) :
    Calls Tryd.prog 7 #[.agg #[.int .i64 a, .string c], .agg #[.string f, .string t, .int .i64 n, .int .i64 d], .int .i64 mode] w fun e w' => e = .returned (.bool true) ∧ Below w.heap.size w w' := by
  have HA := Lib.hid awake_any
  go_enter Tryd.func7, Tryd.ntmps7
  go_wp2_with fail
  refine (HA.out _).mono ?_
  rintro e w1 ⟨rfl, hb⟩
  obtain ⟨q9, o9, rfl⟩ := regrow_of hb
  clear hb
  go_wp2_with fail
  go_ret
  exact ⟨rfl, bre (al (al (Below.refl _ _))) _ _⟩
set_option maxRecDepth 100000 in
set_option maxHeartbeats 2000000 in
theorem out2 (a : Int) (c f t : ByteArray) (n d mode : Int) (w : World) (g1 : -1048576 ≤ a) (h : 1048576 < a) :
    Calls Tryd.prog 7 #[.agg #[.int .i64 a, .string c], .agg #[.string f, .string t, .int .i64 n, .int .i64 d], .int .i64 mode] w fun e w' => e = .returned (.bool true) ∧ Below w.heap.size w w' := by
  have HA := Lib.hid awake_any
  go_enter Tryd.func7, Tryd.ntmps7
  go_wp2_with fail
  refine (HA.out _).mono ?_
  rintro e w1 ⟨rfl, hb⟩
  obtain ⟨q9, o9, rfl⟩ := regrow_of hb
  clear hb
  go_wp2_with fail
  go_ret
  exact ⟨rfl, bre (al (al (Below.refl _ _))) _ _⟩
set_option maxRecDepth 100000 in
set_option maxHeartbeats 2000000 in
theorem out3 (a : Int) (c f t : ByteArray) (n d mode : Int) (w : World) (g1 : -1048576 ≤ a) (g2 : a ≤ 1048576) (h : 1048576 < n) :
    Calls Tryd.prog 7 #[.agg #[.int .i64 a, .string c], .agg #[.string f, .string t, .int .i64 n, .int .i64 d], .int .i64 mode] w fun e w' => e = .returned (.bool true) ∧ Below w.heap.size w w' := by
  have HA := Lib.hid awake_any
  go_enter Tryd.func7, Tryd.ntmps7
  go_wp2_with fail
  refine (HA.out _).mono ?_
  rintro e w1 ⟨rfl, hb⟩
  obtain ⟨q9, o9, rfl⟩ := regrow_of hb
  clear hb
  go_wp2_with fail
  go_ret
  exact ⟨rfl, bre (al (al (Below.refl _ _))) _ _⟩
set_option maxRecDepth 100000 in
set_option maxHeartbeats 2000000 in
theorem out4 (a : Int) (c f t : ByteArray) (n d mode : Int) (w : World) (g1 : -1048576 ≤ a) (g2 : a ≤ 1048576) (g3 : n ≤ 1048576) (h : 1048576 < d) :
    Calls Tryd.prog 7 #[.agg #[.int .i64 a, .string c], .agg #[.string f, .string t, .int .i64 n, .int .i64 d], .int .i64 mode] w fun e w' => e = .returned (.bool true) ∧ Below w.heap.size w w' := by
  have HA := Lib.hid awake_any
  go_enter Tryd.func7, Tryd.ntmps7
  go_wp2_with fail
  refine (HA.out _).mono ?_
  rintro e w1 ⟨rfl, hb⟩
  obtain ⟨q9, o9, rfl⟩ := regrow_of hb
  clear hb
  go_wp2_with fail
  go_ret
  exact ⟨rfl, bre (al (al (Below.refl _ _))) _ _⟩
set_option maxRecDepth 100000 in
set_option maxHeartbeats 2000000 in
theorem out5 (a : Int) (c f t : ByteArray) (n d mode : Int) (w : World) (g1 : -1048576 ≤ a) (g2 : a ≤ 1048576) (g3 : n ≤ 1048576) (g4 : d ≤ 1048576) (hs : ∀ w, Calls Tryd.prog 9 #[rt f t n d] w fun e w' => e = .returned (.bool false) ∧ Below w.heap.size w w') :
    Calls Tryd.prog 7 #[.agg #[.int .i64 a, .string c], .agg #[.string f, .string t, .int .i64 n, .int .i64 d], .int .i64 mode] w fun e w' => e = .returned (.bool true) ∧ Below w.heap.size w w' := by
  have HA := Lib.hid awake_any
  have HS := Lib.hid hs
  unfold rt at HS
  clear hs
  go_enter Tryd.func7, Tryd.ntmps7
  go_wp2_with fail
  refine (HS.out _).mono ?_
  rintro e w1 ⟨rfl, hb⟩
  obtain ⟨q1, o1, rfl⟩ := regrow_of hb
  clear hb
  go_wp2_with fail
  refine (HA.out _).mono ?_
  rintro e w1 ⟨rfl, hb⟩
  obtain ⟨q9, o9, rfl⟩ := regrow_of hb
  clear hb
  go_wp2_with fail
  go_ret
  exact ⟨rfl, bre (al (al (Below.refl _ _))) _ _⟩
set_option maxRecDepth 100000 in
set_option maxHeartbeats 2000000 in
theorem out6 (a : Int) (c f t : ByteArray) (n d mode : Int) (w : World) (g1 : -1048576 ≤ a) (g2 : a ≤ 1048576) (g3 : n ≤ 1048576) (g4 : d ≤ 1048576) (hs : ∀ w, Calls Tryd.prog 9 #[rt f t n d] w fun e w' => e = .returned (.bool true) ∧ Below w.heap.size w w') (hc : c.size ≤ maxLen) (h : 20 < c.size) :
    Calls Tryd.prog 7 #[.agg #[.int .i64 a, .string c], .agg #[.string f, .string t, .int .i64 n, .int .i64 d], .int .i64 mode] w fun e w' => e = .returned (.bool true) ∧ Below w.heap.size w w' := by
  have HA := Lib.hid awake_any
  have HS := Lib.hid hs
  unfold rt at HS
  unfold maxLen at hc
  have h' : decide ((20 : Int) < (c.size : Int)) = true := decide_eq_true (by omega)
  clear hs h
  go_enter Tryd.func7, Tryd.ntmps7
  go_wp2_with fail
  refine (HS.out _).mono ?_
  rintro e w1 ⟨rfl, hb⟩
  obtain ⟨q1, o1, rfl⟩ := regrow_of hb
  clear hb
  go_wp2_with fail
  refine (HA.out _).mono ?_
  rintro e w1 ⟨rfl, hb⟩
  obtain ⟨q9, o9, rfl⟩ := regrow_of hb
  clear hb
  go_wp2_with fail
  go_ret
  exact ⟨rfl, bre (al (al (Below.refl _ _))) _ _⟩
set_option maxRecDepth 100000 in
set_option maxHeartbeats 2000000 in
theorem err (a : Int) (c f t : ByteArray) (n d mode : Int) (w : World) (g1 : -1048576 ≤ a) (g2 : a ≤ 1048576) (g3 : n ≤ 1048576) (g4 : d ≤ 1048576) (hs : ∀ w, Calls Tryd.prog 9 #[rt f t n d] w fun e w' => e = .returned (.bool true) ∧ Below w.heap.size w w') (h : c.size ≤ 20) (E : Int) (hE : E ≠ 0)
    (hv : ∀ w, Calls Tryd.prog 17 #[mo a c, rt f t n d, .int .i64 mode] w fun e w' => e = .returned (.tuple #[mo0, .int .i64 E]) ∧ Below w.heap.size w w') :
    Calls Tryd.prog 7 #[.agg #[.int .i64 a, .string c], .agg #[.string f, .string t, .int .i64 n, .int .i64 d], .int .i64 mode] w fun e w' => e = .returned (.bool true) ∧ Below w.heap.size w w' := by
  have HA := Lib.hid awake_any
  have HS := Lib.hid hs
  have HV := Lib.hid hv
  have hE' : (E != 0) = true := by rw [bne_iff_ne]; exact hE
  have h' : decide ((20 : Int) < (c.size : Int)) = false := decide_eq_false (by omega)
  have hc1 : (c.size : Int) ≤ 20 := by omega
  unfold mo0 at HV
  unfold mo rt at *
  clear hs h hv hE
  go_enter Tryd.func7, Tryd.ntmps7
  go_wp2_with fail
  refine (HS.out _).mono ?_
  rintro e w1 ⟨rfl, hb⟩
  obtain ⟨q1, o1, rfl⟩ := regrow_of hb
  clear hb
  go_wp2_with fail
  refine (HV.out _).mono ?_
  rintro e w1 ⟨rfl, hb⟩
  obtain ⟨q2, o2, rfl⟩ := regrow_of hb
  clear hb
  go_wp2_with fail
  refine (HA.out _).mono ?_
  rintro e w1 ⟨rfl, hb⟩
  obtain ⟨q9, o9, rfl⟩ := regrow_of hb
  clear hb
  go_wp2_with fail
  go_ret
  exact ⟨rfl, bre (al (bre (al (al (Below.refl _ _))) _ _)) _ _⟩
end rateRounds
end Go.Proofs.YtpabgmdgoghahaaDoor
