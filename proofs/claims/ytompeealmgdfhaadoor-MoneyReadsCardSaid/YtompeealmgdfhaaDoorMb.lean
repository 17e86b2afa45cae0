/- Parse of the program: its ways. -/
import Derived.Test.YtompeealmgdfhaaDoorMa
set_option linter.unusedVariables false
set_option linter.unusedSimpArgs false
namespace Go.Proofs.YtompeealmgdfhaaDoor
open Go.Sort Go.ChangeShapes Go.WideShapes Go.ChangeAt Go.RowKit
open div
def RT (w : World) : Prop := ∃ ev, w.cell? ⟨5, 0, none⟩ = some ev ∧ (ev = .nilIface ∨ ∃ te pe, ev = .iface te pe)
theorem RT.call {w w1 : World} (h : RT w) (hb : Below w.heap.size w w1) : RT w1 := by
  obtain ⟨ev, h1, h2⟩ := h
  exact ⟨ev, (hb.cell (p := ⟨5, 0, none⟩) (block_lt_of_cell h1)).trans h1, h2⟩
abbrev CutC (s : ByteArray) (c : UInt8) (N C : ByteArray) (f : Bool) : Prop := ∀ w, Calls Tryd.prog 49 #[.string s, .string ⟨#[c]⟩] w fun e w' => e = .returned (.tuple #[.string N, .string C, .bool f]) ∧ Below w.heap.size w w'
abbrev ExpC (C : ByteArray) (p : Int) : Prop := ∀ w, XT w → Calls Tryd.prog 47 #[.string C] w fun e w' => e = .returned (.tuple #[.int .i64 p, .bool true]) ∧ Below w.heap.size w w'
abbrev PreC (N N1 : ByteArray) (g : Bool) : Prop := ∀ w, Calls Tryd.prog 50 #[.string N, .string ⟨#[45]⟩] w fun e w' => e = .returned (.tuple #[.string N1, .bool g]) ∧ w' = w
abbrev DigC (s : ByteArray) (g : Bool) : Prop := ∀ w, Calls Tryd.prog 51 #[.string s] w fun e w' => e = .returned (.bool g) ∧ w' = w
abbrev WhoC (s : ByteArray) (g : Bool) : Prop := ∀ w, Calls Tryd.prog 52 #[.string s] w fun e w' => e = .returned (.bool g) ∧ w' = w
abbrev IntC (s : ByteArray) (v : Int) : Prop := ∀ w, Calls Tryd.prog 53 #[.string s, .int .i64 10, .int .i64 64] w fun e w' => e = .returned (.tuple #[.int .i64 v, .nilIface]) ∧ Below w.heap.size w w'
abbrev RngC (s : ByteArray) (v : Int) : Prop := ∀ w, RT w → Calls Tryd.prog 53 #[.string s, .int .i64 10, .int .i64 64] w fun e w' => ∃ N, e = .returned (.tuple #[.int .i64 v, .iface 96 (.pointer (some ⟨N, 0, none⟩))]) ∧ Below w.heap.size w w'
set_option maxHeartbeats 2000000 in
set_option maxRecDepth 20000 in
theorem pw_empty (s : ByteArray) (w : World) (hs : (s.toList == []) = true) :
    Calls Tryd.prog 28 #[.string s] w fun e w' => e = .returned (.tuple #[.agg #[.int .i64 0, .string ⟨#[]⟩], .int .i64 1]) ∧ Below w.heap.size w w' := by
  go_enter Tryd.func28, Tryd.ntmps28
  go_wp2_with fail
  exact bodyPost_ret (v := .tuple #[.agg #[.int .i64 0, .string ⟨#[]⟩], .int .i64 1]) (by simp [results, Tryd.results28, go_sem]) rfl ⟨rfl, by repeat (first | exact Below.refl _ _ | refine al ?_ | refine bre ?_ _ _ | refine Below.drew ?_)⟩
set_option maxHeartbeats 2000000 in
set_option maxRecDepth 20000 in
theorem pw_cur (s N C : ByteArray) (fc : Bool) (w : World) (hs : (s.toList == []) = false) (hX : XT w) (hR : RT w) (C1 : CutC s 32 N C fc) (X0 : ∀ w, Calls Tryd.prog 47 #[.string C] w fun e w' => e = .returned (.tuple #[.int .i64 0, .bool false]) ∧ Below w.heap.size w w') :
    Calls Tryd.prog 28 #[.string s] w fun e w' => e = .returned (.tuple #[.agg #[.int .i64 0, .string ⟨#[]⟩], .int .i64 2]) ∧ Below w.heap.size w w' := by
  replace C1 := Lib.hid C1
  replace X0 := Lib.hid X0
  clear hX hR
  go_enter Tryd.func28, Tryd.ntmps28
  go_wp2_with fail
  refine (C1.out _).mono ?_
  rintro e w1 ⟨rfl, hb⟩
  obtain ⟨d1, o1, rfl⟩ := regrow_of hb
  clear hb
  go_wp2_with fail
  refine (X0.out _).mono ?_
  rintro e w2 ⟨rfl, hb⟩
  obtain ⟨d2, o2, rfl⟩ := regrow_of hb
  clear hb
  go_wp2_with fail
  exact bodyPost_ret (v := .tuple #[.agg #[.int .i64 0, .string ⟨#[]⟩], .int .i64 2]) (by simp [results, Tryd.results28, go_sem]) rfl ⟨rfl, by repeat (first | exact Below.refl _ _ | refine al ?_ | refine bre ?_ _ _ | refine Below.drew ?_)⟩
set_option maxHeartbeats 2000000 in
set_option maxRecDepth 20000 in
theorem pf_nf (s N C : ByteArray) (fc : Bool) (w : World) (hs : (s.toList == []) = false) (hX : XT w) (hR : RT w) (C1 : CutC s 32 N C fc) (p : Int) (X1 : ExpC C p) (N1 : ByteArray) (g : Bool) (P1 : PreC N N1 g) (hp : decide (0 < p) = true) (Wh Fr : ByteArray) (fd : Bool) (C2 : CutC N1 46 Wh Fr fd) (hf : fd = false) :
    Calls Tryd.prog 28 #[.string s] w fun e w' => e = .returned (.tuple #[.agg #[.int .i64 0, .string ⟨#[]⟩], .int .i64 2]) ∧ Below w.heap.size w w' := by
  replace C1 := Lib.hid C1
  replace X1 := Lib.hid X1
  replace P1 := Lib.hid P1
  replace hX := Lib.hid hX
  replace hR := Lib.hid hR
  replace C2 := Lib.hid C2
  subst hf
  go_enter Tryd.func28, Tryd.ntmps28
  go_wp2_with fail
  refine (C1.out _).mono ?_
  rintro e w1 ⟨rfl, hb⟩
  obtain ⟨d1, o1, rfl⟩ := regrow_of hb
  clear hb
  go_wp2_with fail
  refine (X1.out _ (hX.out.call (by repeat (first | exact Below.refl _ _ | refine al ?_ | refine bre ?_ _ _ | refine Below.drew ?_)))).mono ?_
  rintro e w2 ⟨rfl, hb⟩
  obtain ⟨d2, o2, rfl⟩ := regrow_of hb
  clear hb
  go_wp2_with fail
  refine (P1.out _).mono ?_
  rintro e q3 ⟨rfl, rfl⟩
  go_wp2_with fail
  refine (C2.out _).mono ?_
  rintro e w4 ⟨rfl, hb⟩
  obtain ⟨d4, o4, rfl⟩ := regrow_of hb
  clear hb
  go_wp2_with fail
  exact bodyPost_ret (v := .tuple #[.agg #[.int .i64 0, .string ⟨#[]⟩], .int .i64 2]) (by simp [results, Tryd.results28, go_sem]) rfl ⟨rfl, by repeat (first | exact Below.refl _ _ | refine al ?_ | refine bre ?_ _ _ | refine Below.drew ?_)⟩
set_option maxHeartbeats 2000000 in
set_option maxRecDepth 20000 in
theorem pf_nl (s N C : ByteArray) (fc : Bool) (w : World) (hs : (s.toList == []) = false) (hX : XT w) (hR : RT w) (C1 : CutC s 32 N C fc) (p : Int) (X1 : ExpC C p) (N1 : ByteArray) (g : Bool) (P1 : PreC N N1 g) (hp : decide (0 < p) = true) (Wh Fr : ByteArray) (fd : Bool) (C2 : CutC N1 46 Wh Fr fd) (hf : fd = true) (hl : ((Fr.size : Int) != p) = true) :
    Calls Tryd.prog 28 #[.string s] w fun e w' => e = .returned (.tuple #[.agg #[.int .i64 0, .string ⟨#[]⟩], .int .i64 2]) ∧ Below w.heap.size w w' := by
  replace C1 := Lib.hid C1
  replace X1 := Lib.hid X1
  replace P1 := Lib.hid P1
  replace hX := Lib.hid hX
  replace hR := Lib.hid hR
  replace C2 := Lib.hid C2
  subst hf
  go_enter Tryd.func28, Tryd.ntmps28
  go_wp2_with fail
  refine (C1.out _).mono ?_
  rintro e w1 ⟨rfl, hb⟩
  obtain ⟨d1, o1, rfl⟩ := regrow_of hb
  clear hb
  go_wp2_with fail
  refine (X1.out _ (hX.out.call (by repeat (first | exact Below.refl _ _ | refine al ?_ | refine bre ?_ _ _ | refine Below.drew ?_)))).mono ?_
  rintro e w2 ⟨rfl, hb⟩
  obtain ⟨d2, o2, rfl⟩ := regrow_of hb
  clear hb
  go_wp2_with fail
  refine (P1.out _).mono ?_
  rintro e q3 ⟨rfl, rfl⟩
  go_wp2_with fail
  refine (C2.out _).mono ?_
  rintro e w4 ⟨rfl, hb⟩
  obtain ⟨d4, o4, rfl⟩ := regrow_of hb
  clear hb
  go_wp2_with fail
  exact bodyPost_ret (v := .tuple #[.agg #[.int .i64 0, .string ⟨#[]⟩], .int .i64 2]) (by simp [results, Tryd.results28, go_sem]) rfl ⟨rfl, by repeat (first | exact Below.refl _ _ | refine al ?_ | refine bre ?_ _ _ | refine Below.drew ?_)⟩
set_option maxHeartbeats 2000000 in
set_option maxRecDepth 20000 in
theorem pf_nd (s N C : ByteArray) (fc : Bool) (w : World) (hs : (s.toList == []) = false) (hX : XT w) (hR : RT w) (C1 : CutC s 32 N C fc) (p : Int) (X1 : ExpC C p) (N1 : ByteArray) (g : Bool) (P1 : PreC N N1 g) (hp : decide (0 < p) = true) (Wh Fr : ByteArray) (fd : Bool) (C2 : CutC N1 46 Wh Fr fd) (hf : fd = true) (hl : ((Fr.size : Int) != p) = false) (D1 : DigC Fr false) :
    Calls Tryd.prog 28 #[.string s] w fun e w' => e = .returned (.tuple #[.agg #[.int .i64 0, .string ⟨#[]⟩], .int .i64 2]) ∧ Below w.heap.size w w' := by
  replace C1 := Lib.hid C1
  replace X1 := Lib.hid X1
  replace P1 := Lib.hid P1
  replace hX := Lib.hid hX
  replace hR := Lib.hid hR
  replace C2 := Lib.hid C2
  subst hf
  replace D1 := Lib.hid D1
  go_enter Tryd.func28, Tryd.ntmps28
  go_wp2_with fail
  refine (C1.out _).mono ?_
  rintro e w1 ⟨rfl, hb⟩
  obtain ⟨d1, o1, rfl⟩ := regrow_of hb
  clear hb
  go_wp2_with fail
  refine (X1.out _ (hX.out.call (by repeat (first | exact Below.refl _ _ | refine al ?_ | refine bre ?_ _ _ | refine Below.drew ?_)))).mono ?_
  rintro e w2 ⟨rfl, hb⟩
  obtain ⟨d2, o2, rfl⟩ := regrow_of hb
  clear hb
  go_wp2_with fail
  refine (P1.out _).mono ?_
  rintro e q3 ⟨rfl, rfl⟩
  go_wp2_with fail
  refine (C2.out _).mono ?_
  rintro e w4 ⟨rfl, hb⟩
  obtain ⟨d4, o4, rfl⟩ := regrow_of hb
  clear hb
  go_wp2_with (first | (go_at_call 51; refine (D1.out _).mono ?_; rintro e q1 ⟨rfl, rfl⟩))
  exact bodyPost_ret (v := .tuple #[.agg #[.int .i64 0, .string ⟨#[]⟩], .int .i64 2]) (by simp [results, Tryd.results28, go_sem]) rfl ⟨rfl, by repeat (first | exact Below.refl _ _ | refine al ?_ | refine bre ?_ _ _ | refine Below.drew ?_)⟩
set_option maxHeartbeats 2000000 in
set_option maxRecDepth 20000 in
theorem pf_nw (s N C : ByteArray) (fc : Bool) (w : World) (hs : (s.toList == []) = false) (hX : XT w) (hR : RT w) (C1 : CutC s 32 N C fc) (p : Int) (X1 : ExpC C p) (N1 : ByteArray) (g : Bool) (P1 : PreC N N1 g) (hp : decide (0 < p) = true) (Wh Fr : ByteArray) (fd : Bool) (C2 : CutC N1 46 Wh Fr fd) (hf : fd = true) (hl : ((Fr.size : Int) != p) = false) (D1 : DigC Fr true) (W1 : WhoC Wh false) :
    Calls Tryd.prog 28 #[.string s] w fun e w' => e = .returned (.tuple #[.agg #[.int .i64 0, .string ⟨#[]⟩], .int .i64 2]) ∧ Below w.heap.size w w' := by
  replace C1 := Lib.hid C1
  replace X1 := Lib.hid X1
  replace P1 := Lib.hid P1
  replace hX := Lib.hid hX
  replace hR := Lib.hid hR
  replace C2 := Lib.hid C2
  subst hf
  replace D1 := Lib.hid D1
  replace W1 := Lib.hid W1
  go_enter Tryd.func28, Tryd.ntmps28
  go_wp2_with fail
  refine (C1.out _).mono ?_
  rintro e w1 ⟨rfl, hb⟩
  obtain ⟨d1, o1, rfl⟩ := regrow_of hb
  clear hb
  go_wp2_with fail
  refine (X1.out _ (hX.out.call (by repeat (first | exact Below.refl _ _ | refine al ?_ | refine bre ?_ _ _ | refine Below.drew ?_)))).mono ?_
  rintro e w2 ⟨rfl, hb⟩
  obtain ⟨d2, o2, rfl⟩ := regrow_of hb
  clear hb
  go_wp2_with fail
  refine (P1.out _).mono ?_
  rintro e q3 ⟨rfl, rfl⟩
  go_wp2_with fail
  refine (C2.out _).mono ?_
  rintro e w4 ⟨rfl, hb⟩
  obtain ⟨d4, o4, rfl⟩ := regrow_of hb
  clear hb
  go_wp2_with (first | (go_at_call 51; refine (D1.out _).mono ?_; rintro e q1 ⟨rfl, rfl⟩) | (go_at_call 52; refine (W1.out _).mono ?_; rintro e q1 ⟨rfl, rfl⟩))
  exact bodyPost_ret (v := .tuple #[.agg #[.int .i64 0, .string ⟨#[]⟩], .int .i64 2]) (by simp [results, Tryd.results28, go_sem]) rfl ⟨rfl, by repeat (first | exact Below.refl _ _ | refine al ?_ | refine bre ?_ _ _ | refine Below.drew ?_)⟩
set_option maxHeartbeats 2000000 in
set_option maxRecDepth 20000 in
theorem pz_nw (s N C : ByteArray) (fc : Bool) (w : World) (hs : (s.toList == []) = false) (hX : XT w) (hR : RT w) (C1 : CutC s 32 N C fc) (p : Int) (X1 : ExpC C p) (N1 : ByteArray) (g : Bool) (P1 : PreC N N1 g) (hp : decide (0 < p) = false) (W1 : WhoC N1 false) :
    Calls Tryd.prog 28 #[.string s] w fun e w' => e = .returned (.tuple #[.agg #[.int .i64 0, .string ⟨#[]⟩], .int .i64 2]) ∧ Below w.heap.size w w' := by
  replace C1 := Lib.hid C1
  replace X1 := Lib.hid X1
  replace P1 := Lib.hid P1
  replace hX := Lib.hid hX
  replace hR := Lib.hid hR
  replace W1 := Lib.hid W1
  go_enter Tryd.func28, Tryd.ntmps28
  go_wp2_with fail
  refine (C1.out _).mono ?_
  rintro e w1 ⟨rfl, hb⟩
  obtain ⟨d1, o1, rfl⟩ := regrow_of hb
  clear hb
  go_wp2_with fail
  refine (X1.out _ (hX.out.call (by repeat (first | exact Below.refl _ _ | refine al ?_ | refine bre ?_ _ _ | refine Below.drew ?_)))).mono ?_
  rintro e w2 ⟨rfl, hb⟩
  obtain ⟨d2, o2, rfl⟩ := regrow_of hb
  clear hb
  go_wp2_with fail
  refine (P1.out _).mono ?_
  rintro e q3 ⟨rfl, rfl⟩
  go_wp2_with (go_at_call 52; refine (W1.out _).mono ?_; rintro e q1 ⟨rfl, rfl⟩)
  exact bodyPost_ret (v := .tuple #[.agg #[.int .i64 0, .string ⟨#[]⟩], .int .i64 2]) (by simp [results, Tryd.results28, go_sem]) rfl ⟨rfl, by repeat (first | exact Below.refl _ _ | refine al ?_ | refine bre ?_ _ _ | refine Below.drew ?_)⟩
set_option maxHeartbeats 2000000 in
set_option maxRecDepth 20000 in
theorem pf_rng (s N C : ByteArray) (fc : Bool) (w : World) (hs : (s.toList == []) = false) (hX : XT w) (hR : RT w) (C1 : CutC s 32 N C fc) (p : Int) (X1 : ExpC C p) (N1 : ByteArray) (g : Bool) (P1 : PreC N N1 g) (hp : decide (0 < p) = true) (Wh Fr : ByteArray) (fd : Bool) (C2 : CutC N1 46 Wh Fr fd) (hf : fd = true) (hl : ((Fr.size : Int) != p) = false) (D1 : DigC Fr true) (W1 : WhoC Wh true) (z1 : Wh.size ≤ 100) (z2 : Fr.size ≤ 100) (v : Int) (I1 : RngC (Wh ++ Fr) v) :
    Calls Tryd.prog 28 #[.string s] w fun e w' => e = .returned (.tuple #[.agg #[.int .i64 0, .string ⟨#[]⟩], .int .i64 4]) ∧ Below w.heap.size w w' := by
  replace C1 := Lib.hid C1
  replace X1 := Lib.hid X1
  replace P1 := Lib.hid P1
  replace hX := Lib.hid hX
  replace hR := Lib.hid hR
  replace C2 := Lib.hid C2
  subst hf
  replace D1 := Lib.hid D1
  replace W1 := Lib.hid W1
  replace I1 := Lib.hid I1
  go_enter Tryd.func28, Tryd.ntmps28
  go_wp2_with fail
  refine (C1.out _).mono ?_
  rintro e w1 ⟨rfl, hb⟩
  obtain ⟨d1, o1, rfl⟩ := regrow_of hb
  clear hb
  go_wp2_with fail
  refine (X1.out _ (hX.out.call (by repeat (first | exact Below.refl _ _ | refine al ?_ | refine bre ?_ _ _ | refine Below.drew ?_)))).mono ?_
  rintro e w2 ⟨rfl, hb⟩
  obtain ⟨d2, o2, rfl⟩ := regrow_of hb
  clear hb
  go_wp2_with fail
  refine (P1.out _).mono ?_
  rintro e q3 ⟨rfl, rfl⟩
  go_wp2_with fail
  refine (C2.out _).mono ?_
  rintro e w4 ⟨rfl, hb⟩
  obtain ⟨d4, o4, rfl⟩ := regrow_of hb
  clear hb
  go_wp2_with (first | (go_at_call 51; refine (D1.out _).mono ?_; rintro e q1 ⟨rfl, rfl⟩) | (go_at_call 52; refine (W1.out _).mono ?_; rintro e q1 ⟨rfl, rfl⟩) | (go_at_call 53; refine (I1.out _ (hR.out.call (by repeat (first | exact Below.refl _ _ | refine al ?_ | refine bre ?_ _ _ | refine Below.drew ?_)))).mono ?_; rintro e q2 ⟨NN, rfl, hb⟩; obtain ⟨d5, o5, rfl⟩ := regrow_of hb; clear hb))
  exact bodyPost_ret (v := .tuple #[.agg #[.int .i64 0, .string ⟨#[]⟩], .int .i64 4]) (by simp [results, Tryd.results28, go_sem]) rfl ⟨rfl, by repeat (first | exact Below.refl _ _ | refine al ?_ | refine bre ?_ _ _ | refine Below.drew ?_)⟩
set_option maxHeartbeats 2000000 in
set_option maxRecDepth 20000 in
theorem pz_rng (s N C : ByteArray) (fc : Bool) (w : World) (hs : (s.toList == []) = false) (hX : XT w) (hR : RT w) (C1 : CutC s 32 N C fc) (p : Int) (X1 : ExpC C p) (N1 : ByteArray) (g : Bool) (P1 : PreC N N1 g) (hp : decide (0 < p) = false) (W1 : WhoC N1 true) (v : Int) (I1 : RngC N1 v) :
    Calls Tryd.prog 28 #[.string s] w fun e w' => e = .returned (.tuple #[.agg #[.int .i64 0, .string ⟨#[]⟩], .int .i64 4]) ∧ Below w.heap.size w w' := by
  replace C1 := Lib.hid C1
  replace X1 := Lib.hid X1
  replace P1 := Lib.hid P1
  replace hX := Lib.hid hX
  replace hR := Lib.hid hR
  replace W1 := Lib.hid W1
  replace I1 := Lib.hid I1
  go_enter Tryd.func28, Tryd.ntmps28
  go_wp2_with fail
  refine (C1.out _).mono ?_
  rintro e w1 ⟨rfl, hb⟩
  obtain ⟨d1, o1, rfl⟩ := regrow_of hb
  clear hb
  go_wp2_with fail
  refine (X1.out _ (hX.out.call (by repeat (first | exact Below.refl _ _ | refine al ?_ | refine bre ?_ _ _ | refine Below.drew ?_)))).mono ?_
  rintro e w2 ⟨rfl, hb⟩
  obtain ⟨d2, o2, rfl⟩ := regrow_of hb
  clear hb
  go_wp2_with fail
  refine (P1.out _).mono ?_
  rintro e q3 ⟨rfl, rfl⟩
  go_wp2_with (first | (go_at_call 52; refine (W1.out _).mono ?_; rintro e q1 ⟨rfl, rfl⟩) | (go_at_call 53; refine (I1.out _ (hR.out.call (by repeat (first | exact Below.refl _ _ | refine al ?_ | refine bre ?_ _ _ | refine Below.drew ?_)))).mono ?_; rintro e q2 ⟨NN, rfl, hb⟩; obtain ⟨d5, o5, rfl⟩ := regrow_of hb; clear hb))
  exact bodyPost_ret (v := .tuple #[.agg #[.int .i64 0, .string ⟨#[]⟩], .int .i64 4]) (by simp [results, Tryd.results28, go_sem]) rfl ⟨rfl, by repeat (first | exact Below.refl _ _ | refine al ?_ | refine bre ?_ _ _ | refine Below.drew ?_)⟩
set_option maxHeartbeats 2000000 in
set_option maxRecDepth 20000 in
theorem pf_big (s N C : ByteArray) (fc : Bool) (w : World) (hs : (s.toList == []) = false) (hX : XT w) (hR : RT w) (C1 : CutC s 32 N C fc) (p : Int) (X1 : ExpC C p) (N1 : ByteArray) (g : Bool) (P1 : PreC N N1 g) (hp : decide (0 < p) = true) (Wh Fr : ByteArray) (fd : Bool) (C2 : CutC N1 46 Wh Fr fd) (hf : fd = true) (hl : ((Fr.size : Int) != p) = false) (D1 : DigC Fr true) (W1 : WhoC Wh true) (z1 : Wh.size ≤ 100) (z2 : Fr.size ≤ 100) (v : Int) (I1 : IntC (Wh ++ Fr) v) (hb : decide (4503599627370496 < v) = true) :
    Calls Tryd.prog 28 #[.string s] w fun e w' => e = .returned (.tuple #[.agg #[.int .i64 0, .string ⟨#[]⟩], .int .i64 4]) ∧ Below w.heap.size w w' := by
  replace C1 := Lib.hid C1
  replace X1 := Lib.hid X1
  replace P1 := Lib.hid P1
  replace hX := Lib.hid hX
  replace hR := Lib.hid hR
  replace C2 := Lib.hid C2
  subst hf
  replace D1 := Lib.hid D1
  replace W1 := Lib.hid W1
  replace I1 := Lib.hid I1
  go_enter Tryd.func28, Tryd.ntmps28
  go_wp2_with fail
  refine (C1.out _).mono ?_
  rintro e w1 ⟨rfl, hb⟩
  obtain ⟨d1, o1, rfl⟩ := regrow_of hb
  clear hb
  go_wp2_with fail
  refine (X1.out _ (hX.out.call (by repeat (first | exact Below.refl _ _ | refine al ?_ | refine bre ?_ _ _ | refine Below.drew ?_)))).mono ?_
  rintro e w2 ⟨rfl, hb⟩
  obtain ⟨d2, o2, rfl⟩ := regrow_of hb
  clear hb
  go_wp2_with fail
  refine (P1.out _).mono ?_
  rintro e q3 ⟨rfl, rfl⟩
  go_wp2_with fail
  refine (C2.out _).mono ?_
  rintro e w4 ⟨rfl, hb⟩
  obtain ⟨d4, o4, rfl⟩ := regrow_of hb
  clear hb
  go_wp2_with (first | (go_at_call 51; refine (D1.out _).mono ?_; rintro e q1 ⟨rfl, rfl⟩) | (go_at_call 52; refine (W1.out _).mono ?_; rintro e q1 ⟨rfl, rfl⟩) | (go_at_call 53; refine (I1.out _).mono ?_; rintro e q2 ⟨rfl, hb⟩; obtain ⟨d5, o5, rfl⟩ := regrow_of hb; clear hb))
  exact bodyPost_ret (v := .tuple #[.agg #[.int .i64 0, .string ⟨#[]⟩], .int .i64 4]) (by simp [results, Tryd.results28, go_sem]) rfl ⟨rfl, by repeat (first | exact Below.refl _ _ | refine al ?_ | refine bre ?_ _ _ | refine Below.drew ?_)⟩
set_option maxHeartbeats 2000000 in
set_option maxRecDepth 20000 in
theorem pz_big (s N C : ByteArray) (fc : Bool) (w : World) (hs : (s.toList == []) = false) (hX : XT w) (hR : RT w) (C1 : CutC s 32 N C fc) (p : Int) (X1 : ExpC C p) (N1 : ByteArray) (g : Bool) (P1 : PreC N N1 g) (hp : decide (0 < p) = false) (W1 : WhoC N1 true) (v : Int) (I1 : IntC N1 v) (hb : decide (4503599627370496 < v) = true) :
    Calls Tryd.prog 28 #[.string s] w fun e w' => e = .returned (.tuple #[.agg #[.int .i64 0, .string ⟨#[]⟩], .int .i64 4]) ∧ Below w.heap.size w w' := by
  replace C1 := Lib.hid C1
  replace X1 := Lib.hid X1
  replace P1 := Lib.hid P1
  replace hX := Lib.hid hX
  replace hR := Lib.hid hR
  replace W1 := Lib.hid W1
  replace I1 := Lib.hid I1
  go_enter Tryd.func28, Tryd.ntmps28
  go_wp2_with fail
  refine (C1.out _).mono ?_
  rintro e w1 ⟨rfl, hb⟩
  obtain ⟨d1, o1, rfl⟩ := regrow_of hb
  clear hb
  go_wp2_with fail
  refine (X1.out _ (hX.out.call (by repeat (first | exact Below.refl _ _ | refine al ?_ | refine bre ?_ _ _ | refine Below.drew ?_)))).mono ?_
  rintro e w2 ⟨rfl, hb⟩
  obtain ⟨d2, o2, rfl⟩ := regrow_of hb
  clear hb
  go_wp2_with fail
  refine (P1.out _).mono ?_
  rintro e q3 ⟨rfl, rfl⟩
  go_wp2_with (first | (go_at_call 52; refine (W1.out _).mono ?_; rintro e q1 ⟨rfl, rfl⟩) | (go_at_call 53; refine (I1.out _).mono ?_; rintro e q2 ⟨rfl, hb⟩; obtain ⟨d5, o5, rfl⟩ := regrow_of hb; clear hb))
  exact bodyPost_ret (v := .tuple #[.agg #[.int .i64 0, .string ⟨#[]⟩], .int .i64 4]) (by simp [results, Tryd.results28, go_sem]) rfl ⟨rfl, by repeat (first | exact Below.refl _ _ | refine al ?_ | refine bre ?_ _ _ | refine Below.drew ?_)⟩
set_option maxHeartbeats 2000000 in
set_option maxRecDepth 20000 in
theorem pf_nz (s N C : ByteArray) (fc : Bool) (w : World) (hs : (s.toList == []) = false) (hX : XT w) (hR : RT w) (C1 : CutC s 32 N C fc) (p : Int) (X1 : ExpC C p) (N1 : ByteArray) (g : Bool) (P1 : PreC N N1 g) (hp : decide (0 < p) = true) (Wh Fr : ByteArray) (fd : Bool) (C2 : CutC N1 46 Wh Fr fd) (hf : fd = true) (hl : ((Fr.size : Int) != p) = false) (D1 : DigC Fr true) (W1 : WhoC Wh true) (z1 : Wh.size ≤ 100) (z2 : Fr.size ≤ 100) (v : Int) (I1 : IntC (Wh ++ Fr) v) (hb : decide (4503599627370496 < v) = false) (hg : g = true) (hv : (v == 0) = true) :
    Calls Tryd.prog 28 #[.string s] w fun e w' => e = .returned (.tuple #[.agg #[.int .i64 0, .string ⟨#[]⟩], .int .i64 2]) ∧ Below w.heap.size w w' := by
  replace C1 := Lib.hid C1
  replace X1 := Lib.hid X1
  replace P1 := Lib.hid P1
  replace hX := Lib.hid hX
  replace hR := Lib.hid hR
  replace C2 := Lib.hid C2
  subst hf
  replace D1 := Lib.hid D1
  replace W1 := Lib.hid W1
  replace I1 := Lib.hid I1
  subst hg
  go_enter Tryd.func28, Tryd.ntmps28
  go_wp2_with fail
  refine (C1.out _).mono ?_
  rintro e w1 ⟨rfl, hb⟩
  obtain ⟨d1, o1, rfl⟩ := regrow_of hb
  clear hb
  go_wp2_with fail
  refine (X1.out _ (hX.out.call (by repeat (first | exact Below.refl _ _ | refine al ?_ | refine bre ?_ _ _ | refine Below.drew ?_)))).mono ?_
  rintro e w2 ⟨rfl, hb⟩
  obtain ⟨d2, o2, rfl⟩ := regrow_of hb
  clear hb
  go_wp2_with fail
  refine (P1.out _).mono ?_
  rintro e q3 ⟨rfl, rfl⟩
  go_wp2_with fail
  refine (C2.out _).mono ?_
  rintro e w4 ⟨rfl, hb⟩
  obtain ⟨d4, o4, rfl⟩ := regrow_of hb
  clear hb
  go_wp2_with (first | (go_at_call 51; refine (D1.out _).mono ?_; rintro e q1 ⟨rfl, rfl⟩) | (go_at_call 52; refine (W1.out _).mono ?_; rintro e q1 ⟨rfl, rfl⟩) | (go_at_call 53; refine (I1.out _).mono ?_; rintro e q2 ⟨rfl, hb⟩; obtain ⟨d5, o5, rfl⟩ := regrow_of hb; clear hb))
  exact bodyPost_ret (v := .tuple #[.agg #[.int .i64 0, .string ⟨#[]⟩], .int .i64 2]) (by simp [results, Tryd.results28, go_sem]) rfl ⟨rfl, by repeat (first | exact Below.refl _ _ | refine al ?_ | refine bre ?_ _ _ | refine Below.drew ?_)⟩
set_option maxHeartbeats 2000000 in
set_option maxRecDepth 20000 in
theorem pz_nz (s N C : ByteArray) (fc : Bool) (w : World) (hs : (s.toList == []) = false) (hX : XT w) (hR : RT w) (C1 : CutC s 32 N C fc) (p : Int) (X1 : ExpC C p) (N1 : ByteArray) (g : Bool) (P1 : PreC N N1 g) (hp : decide (0 < p) = false) (W1 : WhoC N1 true) (v : Int) (I1 : IntC N1 v) (hb : decide (4503599627370496 < v) = false) (hg : g = true) (hv : (v == 0) = true) :
    Calls Tryd.prog 28 #[.string s] w fun e w' => e = .returned (.tuple #[.agg #[.int .i64 0, .string ⟨#[]⟩], .int .i64 2]) ∧ Below w.heap.size w w' := by
  replace C1 := Lib.hid C1
  replace X1 := Lib.hid X1
  replace P1 := Lib.hid P1
  replace hX := Lib.hid hX
  replace hR := Lib.hid hR
  replace W1 := Lib.hid W1
  replace I1 := Lib.hid I1
  subst hg
  go_enter Tryd.func28, Tryd.ntmps28
  go_wp2_with fail
  refine (C1.out _).mono ?_
  rintro e w1 ⟨rfl, hb⟩
  obtain ⟨d1, o1, rfl⟩ := regrow_of hb
  clear hb
  go_wp2_with fail
  refine (X1.out _ (hX.out.call (by repeat (first | exact Below.refl _ _ | refine al ?_ | refine bre ?_ _ _ | refine Below.drew ?_)))).mono ?_
  rintro e w2 ⟨rfl, hb⟩
  obtain ⟨d2, o2, rfl⟩ := regrow_of hb
  clear hb
  go_wp2_with fail
  refine (P1.out _).mono ?_
  rintro e q3 ⟨rfl, rfl⟩
  go_wp2_with (first | (go_at_call 52; refine (W1.out _).mono ?_; rintro e q1 ⟨rfl, rfl⟩) | (go_at_call 53; refine (I1.out _).mono ?_; rintro e q2 ⟨rfl, hb⟩; obtain ⟨d5, o5, rfl⟩ := regrow_of hb; clear hb))
  exact bodyPost_ret (v := .tuple #[.agg #[.int .i64 0, .string ⟨#[]⟩], .int .i64 2]) (by simp [results, Tryd.results28, go_sem]) rfl ⟨rfl, by repeat (first | exact Below.refl _ _ | refine al ?_ | refine bre ?_ _ _ | refine Below.drew ?_)⟩
set_option maxHeartbeats 2000000 in
set_option maxRecDepth 20000 in
theorem pf_neg (s N C : ByteArray) (fc : Bool) (w : World) (hs : (s.toList == []) = false) (hX : XT w) (hR : RT w) (C1 : CutC s 32 N C fc) (p : Int) (X1 : ExpC C p) (N1 : ByteArray) (g : Bool) (P1 : PreC N N1 g) (hp : decide (0 < p) = true) (Wh Fr : ByteArray) (fd : Bool) (C2 : CutC N1 46 Wh Fr fd) (hf : fd = true) (hl : ((Fr.size : Int) != p) = false) (D1 : DigC Fr true) (W1 : WhoC Wh true) (z1 : Wh.size ≤ 100) (z2 : Fr.size ≤ 100) (v : Int) (I1 : IntC (Wh ++ Fr) v) (hb : decide (4503599627370496 < v) = false) (hg : g = true) (hv : (v == 0) = false) (hw : IntKind.i64.wrap (-v) = -v) :
    Calls Tryd.prog 28 #[.string s] w fun e w' => e = .returned (.tuple #[.agg #[.int .i64 (-v), .string C], .int .i64 0]) ∧ Below w.heap.size w w' := by
  replace C1 := Lib.hid C1
  replace X1 := Lib.hid X1
  replace P1 := Lib.hid P1
  replace hX := Lib.hid hX
  replace hR := Lib.hid hR
  replace C2 := Lib.hid C2
  subst hf
  replace D1 := Lib.hid D1
  replace W1 := Lib.hid W1
  replace I1 := Lib.hid I1
  subst hg
  go_enter Tryd.func28, Tryd.ntmps28
  go_wp2_with fail
  refine (C1.out _).mono ?_
  rintro e w1 ⟨rfl, hb⟩
  obtain ⟨d1, o1, rfl⟩ := regrow_of hb
  clear hb
  go_wp2_with fail
  refine (X1.out _ (hX.out.call (by repeat (first | exact Below.refl _ _ | refine al ?_ | refine bre ?_ _ _ | refine Below.drew ?_)))).mono ?_
  rintro e w2 ⟨rfl, hb⟩
  obtain ⟨d2, o2, rfl⟩ := regrow_of hb
  clear hb
  go_wp2_with fail
  refine (P1.out _).mono ?_
  rintro e q3 ⟨rfl, rfl⟩
  go_wp2_with fail
  refine (C2.out _).mono ?_
  rintro e w4 ⟨rfl, hb⟩
  obtain ⟨d4, o4, rfl⟩ := regrow_of hb
  clear hb
  go_wp2_with (first | (go_at_call 51; refine (D1.out _).mono ?_; rintro e q1 ⟨rfl, rfl⟩) | (go_at_call 52; refine (W1.out _).mono ?_; rintro e q1 ⟨rfl, rfl⟩) | (go_at_call 53; refine (I1.out _).mono ?_; rintro e q2 ⟨rfl, hb⟩; obtain ⟨d5, o5, rfl⟩ := regrow_of hb; clear hb))
  exact bodyPost_ret (v := .tuple #[.agg #[.int .i64 (-v), .string C], .int .i64 0]) (by simp [results, Tryd.results28, go_sem]) rfl ⟨rfl, by repeat (first | exact Below.refl _ _ | refine al ?_ | refine bre ?_ _ _ | refine Below.drew ?_)⟩
set_option maxHeartbeats 2000000 in
set_option maxRecDepth 20000 in
theorem pz_neg (s N C : ByteArray) (fc : Bool) (w : World) (hs : (s.toList == []) = false) (hX : XT w) (hR : RT w) (C1 : CutC s 32 N C fc) (p : Int) (X1 : ExpC C p) (N1 : ByteArray) (g : Bool) (P1 : PreC N N1 g) (hp : decide (0 < p) = false) (W1 : WhoC N1 true) (v : Int) (I1 : IntC N1 v) (hb : decide (4503599627370496 < v) = false) (hg : g = true) (hv : (v == 0) = false) (hw : IntKind.i64.wrap (-v) = -v) :
    Calls Tryd.prog 28 #[.string s] w fun e w' => e = .returned (.tuple #[.agg #[.int .i64 (-v), .string C], .int .i64 0]) ∧ Below w.heap.size w w' := by
  replace C1 := Lib.hid C1
  replace X1 := Lib.hid X1
  replace P1 := Lib.hid P1
  replace hX := Lib.hid hX
  replace hR := Lib.hid hR
  replace W1 := Lib.hid W1
  replace I1 := Lib.hid I1
  subst hg
  go_enter Tryd.func28, Tryd.ntmps28
  go_wp2_with fail
  refine (C1.out _).mono ?_
  rintro e w1 ⟨rfl, hb⟩
  obtain ⟨d1, o1, rfl⟩ := regrow_of hb
  clear hb
  go_wp2_with fail
  refine (X1.out _ (hX.out.call (by repeat (first | exact Below.refl _ _ | refine al ?_ | refine bre ?_ _ _ | refine Below.drew ?_)))).mono ?_
  rintro e w2 ⟨rfl, hb⟩
  obtain ⟨d2, o2, rfl⟩ := regrow_of hb
  clear hb
  go_wp2_with fail
  refine (P1.out _).mono ?_
  rintro e q3 ⟨rfl, rfl⟩
  go_wp2_with (first | (go_at_call 52; refine (W1.out _).mono ?_; rintro e q1 ⟨rfl, rfl⟩) | (go_at_call 53; refine (I1.out _).mono ?_; rintro e q2 ⟨rfl, hb⟩; obtain ⟨d5, o5, rfl⟩ := regrow_of hb; clear hb))
  exact bodyPost_ret (v := .tuple #[.agg #[.int .i64 (-v), .string C], .int .i64 0]) (by simp [results, Tryd.results28, go_sem]) rfl ⟨rfl, by repeat (first | exact Below.refl _ _ | refine al ?_ | refine bre ?_ _ _ | refine Below.drew ?_)⟩
set_option maxHeartbeats 2000000 in
set_option maxRecDepth 20000 in
theorem pf_pos (s N C : ByteArray) (fc : Bool) (w : World) (hs : (s.toList == []) = false) (hX : XT w) (hR : RT w) (C1 : CutC s 32 N C fc) (p : Int) (X1 : ExpC C p) (N1 : ByteArray) (g : Bool) (P1 : PreC N N1 g) (hp : decide (0 < p) = true) (Wh Fr : ByteArray) (fd : Bool) (C2 : CutC N1 46 Wh Fr fd) (hf : fd = true) (hl : ((Fr.size : Int) != p) = false) (D1 : DigC Fr true) (W1 : WhoC Wh true) (z1 : Wh.size ≤ 100) (z2 : Fr.size ≤ 100) (v : Int) (I1 : IntC (Wh ++ Fr) v) (hb : decide (4503599627370496 < v) = false) (hg : g = false) :
    Calls Tryd.prog 28 #[.string s] w fun e w' => e = .returned (.tuple #[.agg #[.int .i64 v, .string C], .int .i64 0]) ∧ Below w.heap.size w w' := by
  replace C1 := Lib.hid C1
  replace X1 := Lib.hid X1
  replace P1 := Lib.hid P1
  replace hX := Lib.hid hX
  replace hR := Lib.hid hR
  replace C2 := Lib.hid C2
  subst hf
  replace D1 := Lib.hid D1
  replace W1 := Lib.hid W1
  replace I1 := Lib.hid I1
  subst hg
  go_enter Tryd.func28, Tryd.ntmps28
  go_wp2_with fail
  refine (C1.out _).mono ?_
  rintro e w1 ⟨rfl, hb⟩
  obtain ⟨d1, o1, rfl⟩ := regrow_of hb
  clear hb
  go_wp2_with fail
  refine (X1.out _ (hX.out.call (by repeat (first | exact Below.refl _ _ | refine al ?_ | refine bre ?_ _ _ | refine Below.drew ?_)))).mono ?_
  rintro e w2 ⟨rfl, hb⟩
  obtain ⟨d2, o2, rfl⟩ := regrow_of hb
  clear hb
  go_wp2_with fail
  refine (P1.out _).mono ?_
  rintro e q3 ⟨rfl, rfl⟩
  go_wp2_with fail
  refine (C2.out _).mono ?_
  rintro e w4 ⟨rfl, hb⟩
  obtain ⟨d4, o4, rfl⟩ := regrow_of hb
  clear hb
  go_wp2_with (first | (go_at_call 51; refine (D1.out _).mono ?_; rintro e q1 ⟨rfl, rfl⟩) | (go_at_call 52; refine (W1.out _).mono ?_; rintro e q1 ⟨rfl, rfl⟩) | (go_at_call 53; refine (I1.out _).mono ?_; rintro e q2 ⟨rfl, hb⟩; obtain ⟨d5, o5, rfl⟩ := regrow_of hb; clear hb))
  exact bodyPost_ret (v := .tuple #[.agg #[.int .i64 v, .string C], .int .i64 0]) (by simp [results, Tryd.results28, go_sem]) rfl ⟨rfl, by repeat (first | exact Below.refl _ _ | refine al ?_ | refine bre ?_ _ _ | refine Below.drew ?_)⟩
set_option maxHeartbeats 2000000 in
set_option maxRecDepth 20000 in
theorem pz_pos (s N C : ByteArray) (fc : Bool) (w : World) (hs : (s.toList == []) = false) (hX : XT w) (hR : RT w) (C1 : CutC s 32 N C fc) (p : Int) (X1 : ExpC C p) (N1 : ByteArray) (g : Bool) (P1 : PreC N N1 g) (hp : decide (0 < p) = false) (W1 : WhoC N1 true) (v : Int) (I1 : IntC N1 v) (hb : decide (4503599627370496 < v) = false) (hg : g = false) :
    Calls Tryd.prog 28 #[.string s] w fun e w' => e = .returned (.tuple #[.agg #[.int .i64 v, .string C], .int .i64 0]) ∧ Below w.heap.size w w' := by
  replace C1 := Lib.hid C1
  replace X1 := Lib.hid X1
  replace P1 := Lib.hid P1
  replace hX := Lib.hid hX
  replace hR := Lib.hid hR
  replace W1 := Lib.hid W1
  replace I1 := Lib.hid I1
  subst hg
  go_enter Tryd.func28, Tryd.ntmps28
  go_wp2_with fail
  refine (C1.out _).mono ?_
  rintro e w1 ⟨rfl, hb⟩
  obtain ⟨d1, o1, rfl⟩ := regrow_of hb
  clear hb
  go_wp2_with fail
  refine (X1.out _ (hX.out.call (by repeat (first | exact Below.refl _ _ | refine al ?_ | refine bre ?_ _ _ | refine Below.drew ?_)))).mono ?_
  rintro e w2 ⟨rfl, hb⟩
  obtain ⟨d2, o2, rfl⟩ := regrow_of hb
  clear hb
  go_wp2_with fail
  refine (P1.out _).mono ?_
  rintro e q3 ⟨rfl, rfl⟩
  go_wp2_with (first | (go_at_call 52; refine (W1.out _).mono ?_; rintro e q1 ⟨rfl, rfl⟩) | (go_at_call 53; refine (I1.out _).mono ?_; rintro e q2 ⟨rfl, hb⟩; obtain ⟨d5, o5, rfl⟩ := regrow_of hb; clear hb))
  exact bodyPost_ret (v := .tuple #[.agg #[.int .i64 v, .string C], .int .i64 0]) (by simp [results, Tryd.results28, go_sem]) rfl ⟨rfl, by repeat (first | exact Below.refl _ _ | refine al ?_ | refine bre ?_ _ _ | refine Below.drew ?_)⟩
end Go.Proofs.YtompeealmgdfhaaDoor
