/- Parse of the program: its ways. -/
import Derived.Test.YtpabgmdgoghahaaDoorTc
import Derived.Deep.RegionHeld3
import Derived.Deep.RegionWith
import Derived.Deep.DeepCutAuto
set_option linter.unusedVariables false
set_option linter.unusedSimpArgs false
namespace Go.Proofs.YtpabgmdgoghahaaDoor
open Go.Sort Go.ChangeShapes Go.WideShapes Go.ChangeAt Go.RowKit
abbrev CutC (s : ByteArray) (c : UInt8) (N C : ByteArray) (f : Bool) : Prop := ∀ w, Calls Tryd.prog 42 #[.string s, .string ⟨#[c]⟩] w fun e w' => e = .returned (.tuple #[.string N, .string C, .bool f]) ∧ Below w.heap.size w w'
abbrev NumC (s : ByteArray) (v : Int) (b : Bool) : Prop := ∀ w, Tab w → EC 4 w → EC 5 w → Calls Tryd.prog 43 #[.string s] w fun e w' => e = .returned (.tuple #[.int .i64 v, .bool b]) ∧ Below w.heap.size w w'
abbrev ChkC (f t : ByteArray) (n d E : Int) : Prop := ∀ w, Calls Tryd.prog 13 #[.agg #[.string f, .string t, .int .i64 n, .int .i64 d]] w fun e w' => e = .returned (.int .i64 E) ∧ Below w.heap.size w w'
abbrev CloC (s : ByteArray) : Prop := ∀ w, Calls Tryd.prog 44 #[.string s] w fun e w' => e = .returned (.string s) ∧ Below w.heap.size w w'
set_option maxHeartbeats 2000000 in
set_option maxRecDepth 20000 in
theorem pw_empty (s : ByteArray) (w : World) (hs : (s.toList == []) = true) :
    Calls Tryd.prog 28 #[.string s] w fun e w' => e = .returned (.tuple #[.agg #[.string ⟨#[]⟩, .string ⟨#[]⟩, .int .i64 0, .int .i64 0], .int .i64 1]) ∧ Below w.heap.size w w' := by
  go_enter Tryd.func28, Tryd.ntmps28
  go_wp2_with fail
  exact bodyPost_ret (v := .tuple #[.agg #[.string ⟨#[]⟩, .string ⟨#[]⟩, .int .i64 0, .int .i64 0], .int .i64 1]) (by simp [results, Tryd.results28, go_sem]) rfl ⟨rfl, by repeat (first | exact Below.refl _ _ | refine al ?_ | refine bre ?_ _ _ | refine Below.drew ?_)⟩
set_option maxHeartbeats 2000000 in
set_option maxRecDepth 20000 in
theorem pw_short (s : ByteArray) (w : World) (hs : (s.toList == []) = false) (h8 : decide ((s.size : Int) < 8) = true) :
    Calls Tryd.prog 28 #[.string s] w fun e w' => e = .returned (.tuple #[.agg #[.string ⟨#[]⟩, .string ⟨#[]⟩, .int .i64 0, .int .i64 0], .int .i64 2]) ∧ Below w.heap.size w w' := by
  go_enter Tryd.func28, Tryd.ntmps28
  go_wp2_with fail
  exact bodyPost_ret (v := .tuple #[.agg #[.string ⟨#[]⟩, .string ⟨#[]⟩, .int .i64 0, .int .i64 0], .int .i64 2]) (by simp [results, Tryd.results28, go_sem]) rfl ⟨rfl, by repeat (first | exact Below.refl _ _ | refine al ?_ | refine bre ?_ _ _ | refine Below.drew ?_)⟩
set_option maxHeartbeats 2000000 in
set_option maxRecDepth 20000 in
theorem pw_c3 (s : ByteArray) (w : World) (hs : (s.toList == []) = false) (h8 : decide ((s.size : Int) < 8) = false) (h8n : 8 ≤ s.size) (hl : s.size ≤ 200) (k3 : ((((s[3]'(by omega)).toNat : Int) != 47)) = true) :
    Calls Tryd.prog 28 #[.string s] w fun e w' => e = .returned (.tuple #[.agg #[.string ⟨#[]⟩, .string ⟨#[]⟩, .int .i64 0, .int .i64 0], .int .i64 2]) ∧ Below w.heap.size w w' := by
  have hi3 : (3 : Int) < (s.size : Int) := by omega
  have hi7 : (7 : Int) < (s.size : Int) := by omega
  go_enter Tryd.func28, Tryd.ntmps28
  go_wp2_with fail
  exact bodyPost_ret (v := .tuple #[.agg #[.string ⟨#[]⟩, .string ⟨#[]⟩, .int .i64 0, .int .i64 0], .int .i64 2]) (by simp [results, Tryd.results28, go_sem]) rfl ⟨rfl, by repeat (first | exact Below.refl _ _ | refine al ?_ | refine bre ?_ _ _ | refine Below.drew ?_)⟩
set_option maxHeartbeats 2000000 in
set_option maxRecDepth 20000 in
theorem pw_c7 (s : ByteArray) (w : World) (hs : (s.toList == []) = false) (h8 : decide ((s.size : Int) < 8) = false) (h8n : 8 ≤ s.size) (hl : s.size ≤ 200) (k3 : ((((s[3]'(by omega)).toNat : Int) != 47)) = false) (k7 : ((((s[7]'(by omega)).toNat : Int) != 32)) = true) :
    Calls Tryd.prog 28 #[.string s] w fun e w' => e = .returned (.tuple #[.agg #[.string ⟨#[]⟩, .string ⟨#[]⟩, .int .i64 0, .int .i64 0], .int .i64 2]) ∧ Below w.heap.size w w' := by
  have hi3 : (3 : Int) < (s.size : Int) := by omega
  have hi7 : (7 : Int) < (s.size : Int) := by omega
  go_enter Tryd.func28, Tryd.ntmps28
  go_wp2_with fail
  exact bodyPost_ret (v := .tuple #[.agg #[.string ⟨#[]⟩, .string ⟨#[]⟩, .int .i64 0, .int .i64 0], .int .i64 2]) (by simp [results, Tryd.results28, go_sem]) rfl ⟨rfl, by repeat (first | exact Below.refl _ _ | refine al ?_ | refine bre ?_ _ _ | refine Below.drew ?_)⟩
set_option maxHeartbeats 2000000 in
set_option maxRecDepth 20000 in
theorem pw_n1 (s : ByteArray) (w : World) (hs : (s.toList == []) = false) (h8 : decide ((s.size : Int) < 8) = false) (h8n : 8 ≤ s.size) (hl : s.size ≤ 200) (k3 : ((((s[3]'(by omega)).toNat : Int) != 47)) = false) (k7 : ((((s[7]'(by omega)).toNat : Int) != 32)) = false) (hT : Tab w) (h4 : EC 4 w) (h5 : EC 5 w) (a b : ByteArray) (fc : Bool) (C1 : CutC (s.extract 8 s.size) 47 a b fc) (va vb : Int) (ba bb : Bool) (N1 : NumC a va ba) (N2 : NumC b vb bb) (hb : ba = false) :
    Calls Tryd.prog 28 #[.string s] w fun e w' => e = .returned (.tuple #[.agg #[.string ⟨#[]⟩, .string ⟨#[]⟩, .int .i64 0, .int .i64 0], .int .i64 2]) ∧ Below w.heap.size w w' := by
  replace C1 := Lib.hid C1
  replace N1 := Lib.hid N1
  replace N2 := Lib.hid N2
  replace hT := Lib.hid hT
  replace h4 := Lib.hid h4
  replace h5 := Lib.hid h5
  subst hb
  have hi3 : (3 : Int) < (s.size : Int) := by omega
  have hi7 : (7 : Int) < (s.size : Int) := by omega
  go_enter Tryd.func28, Tryd.ntmps28
  go_wp2_with fail
  refine (C1.out _).mono ?_
  rintro e w1 ⟨rfl, hb⟩
  obtain ⟨d1, o1, rfl⟩ := regrow_of hb
  clear hb
  go_wp2_with fail
  refine (N1.out _ (hT.out.call (by repeat (first | exact Below.refl _ _ | refine al ?_ | refine bre ?_ _ _ | refine Below.drew ?_))) (h4.out.call (by repeat (first | exact Below.refl _ _ | refine al ?_ | refine bre ?_ _ _ | refine Below.drew ?_))) (h5.out.call (by repeat (first | exact Below.refl _ _ | refine al ?_ | refine bre ?_ _ _ | refine Below.drew ?_)))).mono ?_
  rintro e w2 ⟨rfl, hb⟩
  obtain ⟨d2, o2, rfl⟩ := regrow_of hb
  clear hb
  go_wp2_with fail
  refine (N2.out _ (hT.out.call (by repeat (first | exact Below.refl _ _ | refine al ?_ | refine bre ?_ _ _ | refine Below.drew ?_))) (h4.out.call (by repeat (first | exact Below.refl _ _ | refine al ?_ | refine bre ?_ _ _ | refine Below.drew ?_))) (h5.out.call (by repeat (first | exact Below.refl _ _ | refine al ?_ | refine bre ?_ _ _ | refine Below.drew ?_)))).mono ?_
  rintro e w3 ⟨rfl, hb⟩
  obtain ⟨d3, o3, rfl⟩ := regrow_of hb
  clear hb
  go_wp2_with fail
  exact bodyPost_ret (v := .tuple #[.agg #[.string ⟨#[]⟩, .string ⟨#[]⟩, .int .i64 0, .int .i64 0], .int .i64 2]) (by simp [results, Tryd.results28, go_sem]) rfl ⟨rfl, by repeat (first | exact Below.refl _ _ | refine al ?_ | refine bre ?_ _ _ | refine Below.drew ?_)⟩
set_option maxHeartbeats 2000000 in
set_option maxRecDepth 20000 in
theorem pw_n2 (s : ByteArray) (w : World) (hs : (s.toList == []) = false) (h8 : decide ((s.size : Int) < 8) = false) (h8n : 8 ≤ s.size) (hl : s.size ≤ 200) (k3 : ((((s[3]'(by omega)).toNat : Int) != 47)) = false) (k7 : ((((s[7]'(by omega)).toNat : Int) != 32)) = false) (hT : Tab w) (h4 : EC 4 w) (h5 : EC 5 w) (a b : ByteArray) (fc : Bool) (C1 : CutC (s.extract 8 s.size) 47 a b fc) (va vb : Int) (ba bb : Bool) (N1 : NumC a va ba) (N2 : NumC b vb bb) (hb : ba = true) (hb2 : bb = false) :
    Calls Tryd.prog 28 #[.string s] w fun e w' => e = .returned (.tuple #[.agg #[.string ⟨#[]⟩, .string ⟨#[]⟩, .int .i64 0, .int .i64 0], .int .i64 2]) ∧ Below w.heap.size w w' := by
  replace C1 := Lib.hid C1
  replace N1 := Lib.hid N1
  replace N2 := Lib.hid N2
  replace hT := Lib.hid hT
  replace h4 := Lib.hid h4
  replace h5 := Lib.hid h5
  subst hb hb2
  have hi3 : (3 : Int) < (s.size : Int) := by omega
  have hi7 : (7 : Int) < (s.size : Int) := by omega
  go_enter Tryd.func28, Tryd.ntmps28
  go_wp2_with fail
  refine (C1.out _).mono ?_
  rintro e w1 ⟨rfl, hb⟩
  obtain ⟨d1, o1, rfl⟩ := regrow_of hb
  clear hb
  go_wp2_with fail
  refine (N1.out _ (hT.out.call (by repeat (first | exact Below.refl _ _ | refine al ?_ | refine bre ?_ _ _ | refine Below.drew ?_))) (h4.out.call (by repeat (first | exact Below.refl _ _ | refine al ?_ | refine bre ?_ _ _ | refine Below.drew ?_))) (h5.out.call (by repeat (first | exact Below.refl _ _ | refine al ?_ | refine bre ?_ _ _ | refine Below.drew ?_)))).mono ?_
  rintro e w2 ⟨rfl, hb⟩
  obtain ⟨d2, o2, rfl⟩ := regrow_of hb
  clear hb
  go_wp2_with fail
  refine (N2.out _ (hT.out.call (by repeat (first | exact Below.refl _ _ | refine al ?_ | refine bre ?_ _ _ | refine Below.drew ?_))) (h4.out.call (by repeat (first | exact Below.refl _ _ | refine al ?_ | refine bre ?_ _ _ | refine Below.drew ?_))) (h5.out.call (by repeat (first | exact Below.refl _ _ | refine al ?_ | refine bre ?_ _ _ | refine Below.drew ?_)))).mono ?_
  rintro e w3 ⟨rfl, hb⟩
  obtain ⟨d3, o3, rfl⟩ := regrow_of hb
  clear hb
  go_wp2_with fail
  exact bodyPost_ret (v := .tuple #[.agg #[.string ⟨#[]⟩, .string ⟨#[]⟩, .int .i64 0, .int .i64 0], .int .i64 2]) (by simp [results, Tryd.results28, go_sem]) rfl ⟨rfl, by repeat (first | exact Below.refl _ _ | refine al ?_ | refine bre ?_ _ _ | refine Below.drew ?_)⟩
theorem up4 {wr : World} {g t : Nat} {x y z u : Value} (a b c d : Value) (h : Blk wr g t #[x, y, z, u]) : Blk ((((wr.setCell ⟨g, 0, none⟩ a).setCell ⟨g, 1, none⟩ b).setCell ⟨g, 2, none⟩ c).setCell ⟨g, 3, none⟩ d) g t #[a, b, c, d] := by
  simpa using (((h.set_ 0 a).set_ 1 b).set_ 2 c).set_ 3 d
theorem bup4 {B : Nat} {w wr : World} {g : Nat} (a b c d : Value) (h : Below B w wr) (hg : B ≤ g) : Below B w ((((wr.setCell ⟨g, 0, none⟩ a).setCell ⟨g, 1, none⟩ b).setCell ⟨g, 2, none⟩ c).setCell ⟨g, 3, none⟩ d) :=
  (((h.setCell (p := ⟨g, 0, none⟩) hg a).setCell (p := ⟨g, 1, none⟩) hg b).setCell (p := ⟨g, 2, none⟩) hg c).setCell (p := ⟨g, 3, none⟩) hg d
theorem c4 {w : World} {g t : Nat} {x y z u : Value} (h : Blk w g t #[x, y, z, u]) : w.cell? ⟨g, 0, none⟩ = some x ∧ w.cell? ⟨g, 1, none⟩ = some y ∧ w.cell? ⟨g, 2, none⟩ = some z ∧ w.cell? ⟨g, 3, none⟩ = some u ∧
    w.frozen? ⟨g, 0, none⟩ = false ∧ w.frozen? ⟨g, 1, none⟩ = false ∧ w.frozen? ⟨g, 2, none⟩ = false ∧ w.frozen? ⟨g, 3, none⟩ = false ∧ g < w.heap.size :=
  ⟨h.cell 0, h.cell 1, h.cell 2, h.cell 3, h.frozen 0, h.frozen 1, h.frozen 2, h.frozen 3, h.lt⟩
abbrev SS (w : World) (g : Nat) (F T : ByteArray) (va vb : Int) (wx : World) : Prop := Below w.heap.size w wx ∧ Blk wx w.heap.size 23 #[.string ⟨#[]⟩, .string ⟨#[]⟩, .int .i64 0, .int .i64 0] ∧ Blk wx g 23 #[.string F, .string T, .int .i64 va, .int .i64 vb]
theorem SS.re {w W : World} {g : Nat} {F T : ByteArray} {va vb : Int} (h : SS w g F T va vb W) (d : Nat) (os : Array Obj) : SS w g F T va vb (grow (redrawn W d) os) := ⟨bre h.1 _ _, h.2.1.call (below_regrown _ _ _), h.2.2.call (below_regrown _ _ _)⟩
theorem SS.call {w W w1 : World} {g : Nat} {F T : ByteArray} {va vb : Int} (h : SS w g F T va vb W) (hb : Below W.heap.size W w1) : SS w g F T va vb w1 := ⟨below_call h.1 hb, h.2.1.call hb, h.2.2.call hb⟩
theorem SS.drew {w W : World} {g : Nat} {F T : ByteArray} {va vb : Int} (h : SS w g F T va vb W) : SS w g F T va vb W.drew := ⟨h.1.drew, h.2.1, h.2.2⟩
theorem SS.st0 {w W : World} {g : Nat} {F T : ByteArray} {va vb : Int} (h : SS w g F T va vb W) (hg : w.heap.size < g) : SS w g F T va vb (W.setCell ⟨g, 0, none⟩ (.string F)) := ⟨h.1.setCell (p := ⟨g, 0, none⟩) (Nat.le_of_lt hg) _, h.2.1.far (p := ⟨g, 0, none⟩) (Nat.ne_of_lt hg) _, by simpa using h.2.2.set_ 0 (.string F)⟩
theorem SS.st1 {w W : World} {g : Nat} {F T : ByteArray} {va vb : Int} (h : SS w g F T va vb W) (hg : w.heap.size < g) : SS w g F T va vb (W.setCell ⟨g, 1, none⟩ (.string T)) := ⟨h.1.setCell (p := ⟨g, 1, none⟩) (Nat.le_of_lt hg) _, h.2.1.far (p := ⟨g, 1, none⟩) (Nat.ne_of_lt hg) _, by simpa using h.2.2.set_ 1 (.string T)⟩
theorem fz_drew (x : World) (a : Addr) : x.drew.frozen? a = x.frozen? a := rfl
theorem cl_drew (x : World) (a : Addr) : x.drew.cell? a = x.cell? a := rfl
theorem sz_drew (x : World) : x.drew.heap.size = x.heap.size := rfl
attribute [local go_sem] fz_drew cl_drew sz_drew
theorem drB4 {w : World} {g t : Nat} {cs : Array Value} (h : Blk w g t cs) : Blk w.drew g t cs := h
set_option maxHeartbeats 2000000 in
set_option maxRecDepth 20000 in
theorem pw_chk (s : ByteArray) (w : World) (hs : (s.toList == []) = false) (h8 : decide ((s.size : Int) < 8) = false) (h8n : 8 ≤ s.size) (hl : s.size ≤ 200) (k3 : ((((s[3]'(by omega)).toNat : Int) != 47)) = false) (k7 : ((((s[7]'(by omega)).toNat : Int) != 32)) = false) (hT : Tab w) (h4 : EC 4 w) (h5 : EC 5 w) (a b : ByteArray) (fc : Bool) (C1 : CutC (s.extract 8 s.size) 47 a b fc) (va vb : Int) (ba bb : Bool) (N1 : NumC a va ba) (N2 : NumC b vb bb) (hb : ba = true) (hb2 : bb = true) (E : Int) (K1 : ChkC (s.extract 0 3) (s.extract 4 7) va vb E) (e0 : (E != 0) = true) :
    Calls Tryd.prog 28 #[.string s] w fun e w' => e = .returned (.tuple #[.agg #[.string ⟨#[]⟩, .string ⟨#[]⟩, .int .i64 0, .int .i64 0], .int .i64 E]) ∧ Below w.heap.size w w' := by
  replace C1 := Lib.hid C1
  replace N1 := Lib.hid N1
  replace N2 := Lib.hid N2
  replace hT := Lib.hid hT
  replace h4 := Lib.hid h4
  replace h5 := Lib.hid h5
  subst hb hb2
  replace K1 := Lib.hid K1
  have hi3 : (3 : Int) < (s.size : Int) := by omega
  have hi7 : (7 : Int) < (s.size : Int) := by omega
  go_enter Tryd.func28, Tryd.ntmps28
  go_wp2_with fail
  refine (C1.out _).mono ?_
  rintro e w1 ⟨rfl, hb⟩
  obtain ⟨d1, o1, rfl⟩ := regrow_of hb
  clear hb
  go_wp2_with fail
  refine (N1.out _ (hT.out.call (by repeat (first | exact Below.refl _ _ | refine al ?_ | refine bre ?_ _ _ | refine Below.drew ?_))) (h4.out.call (by repeat (first | exact Below.refl _ _ | refine al ?_ | refine bre ?_ _ _ | refine Below.drew ?_))) (h5.out.call (by repeat (first | exact Below.refl _ _ | refine al ?_ | refine bre ?_ _ _ | refine Below.drew ?_)))).mono ?_
  rintro e w2 ⟨rfl, hb⟩
  obtain ⟨d2, o2, rfl⟩ := regrow_of hb
  clear hb
  go_wp2_with fail
  refine (N2.out _ (hT.out.call (by repeat (first | exact Below.refl _ _ | refine al ?_ | refine bre ?_ _ _ | refine Below.drew ?_))) (h4.out.call (by repeat (first | exact Below.refl _ _ | refine al ?_ | refine bre ?_ _ _ | refine Below.drew ?_))) (h5.out.call (by repeat (first | exact Below.refl _ _ | refine al ?_ | refine bre ?_ _ _ | refine Below.drew ?_)))).mono ?_
  rintro e w3 ⟨rfl, hb⟩
  obtain ⟨d3, o3, rfl⟩ := regrow_of hb
  clear hb
  go_wp2_with fail
  have b3 : (3 : Int) ≤ (s.size : Int) := by omega
  have b7 : (7 : Int) ≤ (s.size : Int) := by omega
  have HB0 : Hid (Below w.heap.size w (grow (redrawn (w.alloc (.cells #[.string ⟨#[]⟩, .string ⟨#[]⟩, .int .i64 0, .int .i64 0] 23)) d3) (o1 ++ (o2 ++ o3)))) := Lib.hid (bre (al (Below.refl _ _)) _ _)
  have HR0 : Hid (Blk (grow (redrawn (w.alloc (.cells #[.string ⟨#[]⟩, .string ⟨#[]⟩, .int .i64 0, .int .i64 0] 23)) d3) (o1 ++ (o2 ++ o3))) w.heap.size 23 #[.string ⟨#[]⟩, .string ⟨#[]⟩, .int .i64 0, .int .i64 0]) := Lib.hid ((Blk.new w 23 #[.string ⟨#[]⟩, .string ⟨#[]⟩, .int .i64 0, .int .i64 0]).call (below_regrown _ _ _))
  generalize grow (redrawn (w.alloc (.cells #[.string ⟨#[]⟩, .string ⟨#[]⟩, .int .i64 0, .int .i64 0] 23)) d3) (o1 ++ (o2 ++ o3)) = V at *
  go_cut [2, 11] (fun q p wx => q = .pointer (some ⟨w.heap.size, 0, none⟩) ∧ ∃ g : Nat, p = .pointer (some ⟨g, 0, none⟩) ∧ w.heap.size < g ∧ Below w.heap.size w wx ∧ Blk wx w.heap.size 23 #[.string ⟨#[]⟩, .string ⟨#[]⟩, .int .i64 0, .int .i64 0] ∧ Blk wx g 23 #[.string (s.extract 0 3), .string (s.extract 4 7), .int .i64 va, .int .i64 vb])
  case first =>
    go_region_with fail
    all_goals
      go_wp2_with fail
      go_meet
      first
        | exact ⟨rfl, _, rfl, HR0.out.lt, al HB0.out, HR0.out.alloc _, Blk.new V 23 _⟩
        | exact ⟨rfl, _, rfl, HR0.out.lt, al HB0.out.drew, (drB4 HR0.out).alloc _, Blk.new V.drew 23 _⟩
        | exact ⟨rfl, _, rfl, HR0.out.lt, (al HB0.out).drew, drB4 (HR0.out.alloc _), drB4 (Blk.new V 23 _)⟩
  case rest =>
    obtain ⟨rfl, g, rfl, hg, hB1, hR1, hK1⟩ := hcut
    have HB1 := Lib.hid hB1
    have HR1 := Lib.hid hR1
    have HK1 := Lib.hid hK1
    have HG := Lib.hid hg
    clear hB1 hR1 hK1 hg HB0 HR0
    generalize hFF : s.extract 0 3 = F at *
    generalize hTT : s.extract 4 7 = T at *
    have HFF := Lib.hid hFF
    have HTT := Lib.hid hTT
    clear hFF hTT
    obtain ⟨p0, p1, p2, p3, p4, p5, p6, p7, p8⟩ := c4 HK1.out
    go_wp2_with fail
    refine (K1.out _).mono ?_
    rintro e v2 ⟨rfl, hb⟩
    have HB2 := Lib.hid (below_call HB1.out hb)
    have HR2 := Lib.hid (HR1.out.call hb)
    have HK2 := Lib.hid (HK1.out.call hb)
    clear hb p0 p1 p2 p3 p4 p5 p6 p7 p8
    obtain ⟨p0, p1, p2, p3, p4, p5, p6, p7, p8⟩ := c4 HK2.out
    obtain ⟨q0, q1, q2, q3, q4, q5, q6, q7, q8⟩ := c4 HR2.out
    have HR3 := Lib.hid (up4 (.string ⟨#[]⟩) (.string ⟨#[]⟩) (.int .i64 0) (.int .i64 0) HR2.out)
    have HB3 := Lib.hid (bup4 (.string ⟨#[]⟩) (.string ⟨#[]⟩) (.int .i64 0) (.int .i64 0) HB2.out (Nat.le_refl w.heap.size))
    go_wp2_with fail
    obtain ⟨y0, y1, y2, y3, -⟩ := c4 HR3.out
    exact bodyPost_ret (v := .tuple #[.agg #[.string ⟨#[]⟩, .string ⟨#[]⟩, .int .i64 0, .int .i64 0], .int .i64 E]) (by simp [results, Tryd.results28, go_sem, y0, y1, y2, y3]) rfl ⟨rfl, HB3.out⟩
set_option maxHeartbeats 2000000 in
set_option maxRecDepth 20000 in
theorem pw_ok (s : ByteArray) (w : World) (hs : (s.toList == []) = false) (h8 : decide ((s.size : Int) < 8) = false) (h8n : 8 ≤ s.size) (hl : s.size ≤ 200) (k3 : ((((s[3]'(by omega)).toNat : Int) != 47)) = false) (k7 : ((((s[7]'(by omega)).toNat : Int) != 32)) = false) (hT : Tab w) (h4 : EC 4 w) (h5 : EC 5 w) (a b : ByteArray) (fc : Bool) (C1 : CutC (s.extract 8 s.size) 47 a b fc) (va vb : Int) (ba bb : Bool) (N1 : NumC a va ba) (N2 : NumC b vb bb) (hb : ba = true) (hb2 : bb = true) (E : Int) (K1 : ChkC (s.extract 0 3) (s.extract 4 7) va vb E) (e0 : E = 0) (L1 : CloC (s.extract 0 3)) (L2 : CloC (s.extract 4 7)) :
    Calls Tryd.prog 28 #[.string s] w fun e w' => e = .returned (.tuple #[.agg #[.string (s.extract 0 3), .string (s.extract 4 7), .int .i64 va, .int .i64 vb], .int .i64 0]) ∧ Below w.heap.size w w' := by
  replace C1 := Lib.hid C1
  replace N1 := Lib.hid N1
  replace N2 := Lib.hid N2
  replace hT := Lib.hid hT
  replace h4 := Lib.hid h4
  replace h5 := Lib.hid h5
  subst hb hb2
  replace K1 := Lib.hid K1
  subst e0
  replace L1 := Lib.hid L1
  replace L2 := Lib.hid L2
  have hi3 : (3 : Int) < (s.size : Int) := by omega
  have hi7 : (7 : Int) < (s.size : Int) := by omega
  go_enter Tryd.func28, Tryd.ntmps28
  go_wp2_with fail
  refine (C1.out _).mono ?_
  rintro e w1 ⟨rfl, hb⟩
  obtain ⟨d1, o1, rfl⟩ := regrow_of hb
  clear hb
  go_wp2_with fail
  refine (N1.out _ (hT.out.call (by repeat (first | exact Below.refl _ _ | refine al ?_ | refine bre ?_ _ _ | refine Below.drew ?_))) (h4.out.call (by repeat (first | exact Below.refl _ _ | refine al ?_ | refine bre ?_ _ _ | refine Below.drew ?_))) (h5.out.call (by repeat (first | exact Below.refl _ _ | refine al ?_ | refine bre ?_ _ _ | refine Below.drew ?_)))).mono ?_
  rintro e w2 ⟨rfl, hb⟩
  obtain ⟨d2, o2, rfl⟩ := regrow_of hb
  clear hb
  go_wp2_with fail
  refine (N2.out _ (hT.out.call (by repeat (first | exact Below.refl _ _ | refine al ?_ | refine bre ?_ _ _ | refine Below.drew ?_))) (h4.out.call (by repeat (first | exact Below.refl _ _ | refine al ?_ | refine bre ?_ _ _ | refine Below.drew ?_))) (h5.out.call (by repeat (first | exact Below.refl _ _ | refine al ?_ | refine bre ?_ _ _ | refine Below.drew ?_)))).mono ?_
  rintro e w3 ⟨rfl, hb⟩
  obtain ⟨d3, o3, rfl⟩ := regrow_of hb
  clear hb
  go_wp2_with fail
  have b3 : (3 : Int) ≤ (s.size : Int) := by omega
  have b7 : (7 : Int) ≤ (s.size : Int) := by omega
  have HB0 : Hid (Below w.heap.size w (grow (redrawn (w.alloc (.cells #[.string ⟨#[]⟩, .string ⟨#[]⟩, .int .i64 0, .int .i64 0] 23)) d3) (o1 ++ (o2 ++ o3)))) := Lib.hid (bre (al (Below.refl _ _)) _ _)
  have HR0 : Hid (Blk (grow (redrawn (w.alloc (.cells #[.string ⟨#[]⟩, .string ⟨#[]⟩, .int .i64 0, .int .i64 0] 23)) d3) (o1 ++ (o2 ++ o3))) w.heap.size 23 #[.string ⟨#[]⟩, .string ⟨#[]⟩, .int .i64 0, .int .i64 0]) := Lib.hid ((Blk.new w 23 #[.string ⟨#[]⟩, .string ⟨#[]⟩, .int .i64 0, .int .i64 0]).call (below_regrown _ _ _))
  generalize grow (redrawn (w.alloc (.cells #[.string ⟨#[]⟩, .string ⟨#[]⟩, .int .i64 0, .int .i64 0] 23)) d3) (o1 ++ (o2 ++ o3)) = V at *
  go_cut [2, 11] (fun q p wx => q = .pointer (some ⟨w.heap.size, 0, none⟩) ∧ ∃ g : Nat, p = .pointer (some ⟨g, 0, none⟩) ∧ w.heap.size < g ∧ Below w.heap.size w wx ∧ Blk wx w.heap.size 23 #[.string ⟨#[]⟩, .string ⟨#[]⟩, .int .i64 0, .int .i64 0] ∧ Blk wx g 23 #[.string (s.extract 0 3), .string (s.extract 4 7), .int .i64 va, .int .i64 vb])
  case first =>
    go_region_with fail
    all_goals
      go_wp2_with fail
      go_meet
      first
        | exact ⟨rfl, _, rfl, HR0.out.lt, al HB0.out, HR0.out.alloc _, Blk.new V 23 _⟩
        | exact ⟨rfl, _, rfl, HR0.out.lt, al HB0.out.drew, (drB4 HR0.out).alloc _, Blk.new V.drew 23 _⟩
        | exact ⟨rfl, _, rfl, HR0.out.lt, (al HB0.out).drew, drB4 (HR0.out.alloc _), drB4 (Blk.new V 23 _)⟩
  case rest =>
    obtain ⟨rfl, g, rfl, hg, hB1, hR1, hK1⟩ := hcut
    have HB1 := Lib.hid hB1
    have HR1 := Lib.hid hR1
    have HK1 := Lib.hid hK1
    have HG := Lib.hid hg
    clear hB1 hR1 hK1 hg HB0 HR0
    generalize hFF : s.extract 0 3 = F at *
    generalize hTT : s.extract 4 7 = T at *
    have HFF := Lib.hid hFF
    have HTT := Lib.hid hTT
    clear hFF hTT
    obtain ⟨p0, p1, p2, p3, p4, p5, p6, p7, p8⟩ := c4 HK1.out
    go_wp2_with fail
    refine (K1.out _).mono ?_
    rintro e v2 ⟨rfl, hb⟩
    have HB2 := Lib.hid (below_call HB1.out hb)
    have HR2 := Lib.hid (HR1.out.call hb)
    have HK2 := Lib.hid (HK1.out.call hb)
    clear hb p0 p1 p2 p3 p4 p5 p6 p7 p8
    obtain ⟨p0, p1, p2, p3, p4, p5, p6, p7, p8⟩ := c4 HK2.out
    obtain ⟨q0, q1, q2, q3, q4, q5, q6, q7, q8⟩ := c4 HR2.out
    have HS0 : Hid (SS w g F T va vb v2) := Lib.hid ⟨HB2.out, HR2.out, HK2.out⟩
    clear HB2 HR2 HK2 HB1 HR1 HK1 q0 q1 q2 q3 q4 q5 q6 q7 q8
    go_upto_region 14 with fail
    go_cut [2, 11] (fun q p wx => q = .pointer (some ⟨w.heap.size, 0, none⟩) ∧ p = .pointer (some ⟨g, 0, none⟩) ∧ SS w g F T va vb wx)
    case first =>
      go_region_with (first
        | (go_at_call 44; refine (L1.out _).mono ?_; rintro e w5 ⟨rfl, hb5⟩; have S5 : Hid (SS w g F T va vb w5) := (by first | exact Lib.hid (SS.call HS0.out hb5) | exact Lib.hid (SS.call HS0.out.drew hb5)); clear hb5; obtain ⟨a0, a1, a2, a3, a4, a5, a6, a7, a8⟩ := c4 S5.out.2.2)
        | (go_at_call 44; refine (L2.out _).mono ?_; rintro e w6 ⟨rfl, hb6⟩; have S6 : Hid (SS w g F T va vb w6) := (by first | exact Lib.hid (SS.call S5.out hb6) | exact Lib.hid (SS.call S5.out.drew hb6)); clear hb6; obtain ⟨b0, b1, b2, b3, b4, b5, b6, b7, b8⟩ := c4 S6.out.2.2))
      all_goals
        go_wp2_with fail
        go_meet
        refine ⟨rfl, rfl, ?_⟩
        repeat (first | exact S6.out | refine SS.re ?_ _ _ | refine SS.drew ?_ | refine SS.st0 ?_ HG.out | refine SS.st1 ?_ HG.out)
    case rest =>
      obtain ⟨rfl, rfl, hB3, hR3, hK3⟩ := hcut
      have HB3 := Lib.hid hB3
      have HR3 := Lib.hid hR3
      have HK3 := Lib.hid hK3
      clear hB3 hR3 hK3 HS0 p0 p1 p2 p3 p4 p5 p6 p7 p8
      obtain ⟨p0, p1, p2, p3, p4, p5, p6, p7, p8⟩ := c4 HK3.out
      obtain ⟨q0, q1, q2, q3, q4, q5, q6, q7, q8⟩ := c4 HR3.out
      have HR4 := Lib.hid (up4 (.string F) (.string T) (.int .i64 va) (.int .i64 vb) HR3.out)
      have HB4 := Lib.hid (bup4 (.string F) (.string T) (.int .i64 va) (.int .i64 vb) HB3.out (Nat.le_refl w.heap.size))
      go_wp2_with fail
      obtain ⟨y0, y1, y2, y3, -⟩ := c4 HR4.out
      exact bodyPost_ret (v := .tuple #[.agg #[.string F, .string T, .int .i64 va, .int .i64 vb], .int .i64 0]) (by simp [results, Tryd.results28, go_sem, y0, y1, y2, y3]) rfl ⟨by rw [HFF.out, HTT.out], HB4.out⟩
end Go.Proofs.YtpabgmdgoghahaaDoor
