/- The walk of RateTexts. -/
import Derived.Test.YtpabgmdgoghahaaDoorTe
set_option linter.unusedVariables false
set_option linter.unusedSimpArgs false
namespace Go.Proofs.YtpabgmdgoghahaaDoor
open Go.Sort Go.ChangeShapes Go.WideShapes Go.ChangeAt Go.RowKit
theorem bre2 {w W w1 : World} {B : Nat} (h : Below B w W) (hB : B ≤ w.heap.size) (hb : Below W.heap.size W w1) : Below B w w1 := h.trans (hb.mono (Nat.le_trans hB h.size))
namespace rateTexts
set_option maxHeartbeats 8000000 in
set_option maxRecDepth 100000 in
theorem w00 (f t : ByteArray) (n d : Int) (s x : ByteArray) (E : Int) (n2 d2 n3 d3 : Int) (rf rt : ByteArray) (rn rd : Int) (re : Int) (w : World) (hT : Tab w) (h4 : EC 4 w) (h5 : EC 5 w) (hs : decide ((200 : Int) < (s.size : Int)) = false) (SM : ∀ w, Calls Tryd.prog 9 #[.agg #[.string f, .string t, .int .i64 n, .int .i64 d]] w fun e w' => e = .returned (.bool true) ∧ Below w.heap.size w w') (CK : ∀ w, Calls Tryd.prog 13 #[.agg #[.string f, .string t, .int .i64 n, .int .i64 d]] w fun e w' => e = .returned (.int .i64 E) ∧ Below w.heap.size w w') (FM : ∀ w, Tab w → Calls Tryd.prog 15 #[.agg #[.string f, .string t, .int .i64 n, .int .i64 d]] w fun e w' => e = .returned (.string x) ∧ Below w.heap.size w w') (hx : (x.toList == []) = true) (hE : (E != 0) = true) (hE2 : (E == 0) = false) (PS : ∀ w, Tab w → EC 4 w → EC 5 w → Calls Tryd.prog 28 #[.string s] w fun e w' => e = .returned (.tuple #[.agg #[.string ⟨#[]⟩, .string ⟨#[]⟩, .int .i64 0, .int .i64 0], .int .i64 re]) ∧ Below w.heap.size w w') (hre : (re == 0) = false) (hre2 : (re != 0) = true) :
    Calls Tryd.prog 8 #[.agg #[.string f, .string t, .int .i64 n, .int .i64 d], .string s] w fun e w' => e = .returned (.bool true) ∧ Below w.heap.size w w' := by
  have AW := Lib.hid awake_any
  have HT := Lib.hid hT
  have E4 := Lib.hid h4
  have E5 := Lib.hid h5
  replace SM := Lib.hid SM
  replace CK := Lib.hid CK
  replace FM := Lib.hid FM
  replace PS := Lib.hid PS
  clear hT h4 h5
  go_enter Tryd.func8, Tryd.ntmps8
  go_wp2_with fail
  have KA := Lib.hid (Blk.new w 23 #[.string f, .string t, .int .i64 n, .int .i64 d])
  refine (SM.out _).mono ?_
  rintro e v1 ⟨rfl, hb⟩
  replace KA := Lib.hid (KA.out.call hb)
  have HB1 := Lib.hid (bre2 (al (Below.refl w.heap.size w)) (Nat.le_refl _) hb)
  clear hb
  have KAc0 := (KA.out.cell 0).trans (show _ = some (Value.string f) from rfl)
  have KAc1 := (KA.out.cell 1).trans (show _ = some (Value.string t) from rfl)
  have KAc2 := (KA.out.cell 2).trans (show _ = some (Value.int .i64 n) from rfl)
  have KAc3 := (KA.out.cell 3).trans (show _ = some (Value.int .i64 d) from rfl)
  have KAl := KA.out.lt
  have KAf := KA.out.frozen
  go_wp2_with fail
  clear KAc0 KAc1 KAc2 KAc3 KAl KAf
  refine (CK.out _).mono ?_
  rintro e v2 ⟨rfl, hb⟩
  replace KA := Lib.hid (KA.out.call hb)
  have HB2 := Lib.hid (bre2 HB1.out (Nat.le_refl _) hb)
  clear hb
  have KAc0 := (KA.out.cell 0).trans (show _ = some (Value.string f) from rfl)
  have KAc1 := (KA.out.cell 1).trans (show _ = some (Value.string t) from rfl)
  have KAc2 := (KA.out.cell 2).trans (show _ = some (Value.int .i64 n) from rfl)
  have KAc3 := (KA.out.cell 3).trans (show _ = some (Value.int .i64 d) from rfl)
  have KAl := KA.out.lt
  have KAf := KA.out.frozen
  go_wp2_with fail
  clear KAc0 KAc1 KAc2 KAc3 KAl KAf
  refine (FM.out _ (HT.out.call HB2.out)).mono ?_
  rintro e v3 ⟨rfl, hb⟩
  replace KA := Lib.hid (KA.out.call hb)
  have HB3 := Lib.hid (bre2 HB2.out (Nat.le_refl _) hb)
  clear hb
  have KAc0 := (KA.out.cell 0).trans (show _ = some (Value.string f) from rfl)
  have KAc1 := (KA.out.cell 1).trans (show _ = some (Value.string t) from rfl)
  have KAc2 := (KA.out.cell 2).trans (show _ = some (Value.int .i64 n) from rfl)
  have KAc3 := (KA.out.cell 3).trans (show _ = some (Value.int .i64 d) from rfl)
  have KAl := KA.out.lt
  have KAf := KA.out.frozen
  go_wp2_with fail
  clear KAc0 KAc1 KAc2 KAc3 KAl KAf
  refine (PS.out _ (HT.out.call HB3.out) (E4.out.call HB3.out) (E5.out.call HB3.out)).mono ?_
  rintro e v4 ⟨rfl, hb⟩
  replace KA := Lib.hid (KA.out.call hb)
  have HB4 := Lib.hid (bre2 HB3.out (Nat.le_refl _) hb)
  clear hb
  have KAc0 := (KA.out.cell 0).trans (show _ = some (Value.string f) from rfl)
  have KAc1 := (KA.out.cell 1).trans (show _ = some (Value.string t) from rfl)
  have KAc2 := (KA.out.cell 2).trans (show _ = some (Value.int .i64 n) from rfl)
  have KAc3 := (KA.out.cell 3).trans (show _ = some (Value.int .i64 d) from rfl)
  have KAl := KA.out.lt
  have KAf := KA.out.frozen
  go_wp2_with fail
  clear KAc0 KAc1 KAc2 KAc3 KAl KAf
  have R4 := Lib.hid (Blk.new v4 23 #[.string ⟨#[]⟩, .string ⟨#[]⟩, .int .i64 0, .int .i64 0])
  replace KA := Lib.hid (KA.out.alloc (.cells #[.string ⟨#[]⟩, .string ⟨#[]⟩, .int .i64 0, .int .i64 0] 23))
  refine (AW.out _).mono ?_
  rintro e v5 ⟨rfl, hb⟩
  replace KA := Lib.hid (KA.out.call hb)
  replace R4 := Lib.hid (R4.out.call hb)
  have HB5 := Lib.hid (bre2 (al HB4.out) (Nat.le_refl _) hb)
  clear hb
  have KAc0 := (KA.out.cell 0).trans (show _ = some (Value.string f) from rfl)
  have KAc1 := (KA.out.cell 1).trans (show _ = some (Value.string t) from rfl)
  have KAc2 := (KA.out.cell 2).trans (show _ = some (Value.int .i64 n) from rfl)
  have KAc3 := (KA.out.cell 3).trans (show _ = some (Value.int .i64 d) from rfl)
  have KAl := KA.out.lt
  have KAf := KA.out.frozen
  have R4c0 := (R4.out.cell 0).trans (show _ = some (Value.string ⟨#[]⟩) from rfl)
  have R4c1 := (R4.out.cell 1).trans (show _ = some (Value.string ⟨#[]⟩) from rfl)
  have R4c2 := (R4.out.cell 2).trans (show _ = some (Value.int .i64 0) from rfl)
  have R4c3 := (R4.out.cell 3).trans (show _ = some (Value.int .i64 0) from rfl)
  have R4l := R4.out.lt
  have R4f := R4.out.frozen
  go_wp2_with fail
  go_ret
  exact ⟨rfl, HB5.out⟩
set_option maxHeartbeats 8000000 in
set_option maxRecDepth 100000 in
theorem w01 (f t : ByteArray) (n d : Int) (s x : ByteArray) (E : Int) (n2 d2 n3 d3 : Int) (rf rt : ByteArray) (rn rd : Int) (re : Int) (w : World) (hT : Tab w) (h4 : EC 4 w) (h5 : EC 5 w) (hs : decide ((200 : Int) < (s.size : Int)) = false) (SM : ∀ w, Calls Tryd.prog 9 #[.agg #[.string f, .string t, .int .i64 n, .int .i64 d]] w fun e w' => e = .returned (.bool true) ∧ Below w.heap.size w w') (CK : ∀ w, Calls Tryd.prog 13 #[.agg #[.string f, .string t, .int .i64 n, .int .i64 d]] w fun e w' => e = .returned (.int .i64 E) ∧ Below w.heap.size w w') (FM : ∀ w, Tab w → Calls Tryd.prog 15 #[.agg #[.string f, .string t, .int .i64 n, .int .i64 d]] w fun e w' => e = .returned (.string x) ∧ Below w.heap.size w w') (hx : (x.toList == []) = true) (hE : (E != 0) = true) (hE2 : (E == 0) = false) (PS : ∀ w, Tab w → EC 4 w → EC 5 w → Calls Tryd.prog 28 #[.string s] w fun e w' => e = .returned (.tuple #[.agg #[.string rf, .string rt, .int .i64 rn, .int .i64 rd], .int .i64 0]) ∧ Below w.heap.size w w') (FB : ∀ w, Tab w → Calls Tryd.prog 15 #[.agg #[.string rf, .string rt, .int .i64 rn, .int .i64 rd]] w fun e w' => e = .returned (.string s) ∧ Below w.heap.size w w') :
    Calls Tryd.prog 8 #[.agg #[.string f, .string t, .int .i64 n, .int .i64 d], .string s] w fun e w' => e = .returned (.bool true) ∧ Below w.heap.size w w' := by
  have AW := Lib.hid awake_any
  have HT := Lib.hid hT
  have E4 := Lib.hid h4
  have E5 := Lib.hid h5
  replace SM := Lib.hid SM
  replace CK := Lib.hid CK
  replace FM := Lib.hid FM
  replace PS := Lib.hid PS
  replace FB := Lib.hid FB
  clear hT h4 h5
  go_enter Tryd.func8, Tryd.ntmps8
  go_wp2_with fail
  have KA := Lib.hid (Blk.new w 23 #[.string f, .string t, .int .i64 n, .int .i64 d])
  refine (SM.out _).mono ?_
  rintro e v1 ⟨rfl, hb⟩
  replace KA := Lib.hid (KA.out.call hb)
  have HB1 := Lib.hid (bre2 (al (Below.refl w.heap.size w)) (Nat.le_refl _) hb)
  clear hb
  have KAc0 := (KA.out.cell 0).trans (show _ = some (Value.string f) from rfl)
  have KAc1 := (KA.out.cell 1).trans (show _ = some (Value.string t) from rfl)
  have KAc2 := (KA.out.cell 2).trans (show _ = some (Value.int .i64 n) from rfl)
  have KAc3 := (KA.out.cell 3).trans (show _ = some (Value.int .i64 d) from rfl)
  have KAl := KA.out.lt
  have KAf := KA.out.frozen
  go_wp2_with fail
  clear KAc0 KAc1 KAc2 KAc3 KAl KAf
  refine (CK.out _).mono ?_
  rintro e v2 ⟨rfl, hb⟩
  replace KA := Lib.hid (KA.out.call hb)
  have HB2 := Lib.hid (bre2 HB1.out (Nat.le_refl _) hb)
  clear hb
  have KAc0 := (KA.out.cell 0).trans (show _ = some (Value.string f) from rfl)
  have KAc1 := (KA.out.cell 1).trans (show _ = some (Value.string t) from rfl)
  have KAc2 := (KA.out.cell 2).trans (show _ = some (Value.int .i64 n) from rfl)
  have KAc3 := (KA.out.cell 3).trans (show _ = some (Value.int .i64 d) from rfl)
  have KAl := KA.out.lt
  have KAf := KA.out.frozen
  go_wp2_with fail
  clear KAc0 KAc1 KAc2 KAc3 KAl KAf
  refine (FM.out _ (HT.out.call HB2.out)).mono ?_
  rintro e v3 ⟨rfl, hb⟩
  replace KA := Lib.hid (KA.out.call hb)
  have HB3 := Lib.hid (bre2 HB2.out (Nat.le_refl _) hb)
  clear hb
  have KAc0 := (KA.out.cell 0).trans (show _ = some (Value.string f) from rfl)
  have KAc1 := (KA.out.cell 1).trans (show _ = some (Value.string t) from rfl)
  have KAc2 := (KA.out.cell 2).trans (show _ = some (Value.int .i64 n) from rfl)
  have KAc3 := (KA.out.cell 3).trans (show _ = some (Value.int .i64 d) from rfl)
  have KAl := KA.out.lt
  have KAf := KA.out.frozen
  go_wp2_with fail
  clear KAc0 KAc1 KAc2 KAc3 KAl KAf
  refine (PS.out _ (HT.out.call HB3.out) (E4.out.call HB3.out) (E5.out.call HB3.out)).mono ?_
  rintro e v4 ⟨rfl, hb⟩
  replace KA := Lib.hid (KA.out.call hb)
  have HB4 := Lib.hid (bre2 HB3.out (Nat.le_refl _) hb)
  clear hb
  have KAc0 := (KA.out.cell 0).trans (show _ = some (Value.string f) from rfl)
  have KAc1 := (KA.out.cell 1).trans (show _ = some (Value.string t) from rfl)
  have KAc2 := (KA.out.cell 2).trans (show _ = some (Value.int .i64 n) from rfl)
  have KAc3 := (KA.out.cell 3).trans (show _ = some (Value.int .i64 d) from rfl)
  have KAl := KA.out.lt
  have KAf := KA.out.frozen
  go_wp2_with fail
  clear KAc0 KAc1 KAc2 KAc3 KAl KAf
  have R4 := Lib.hid (Blk.new v4 23 #[.string rf, .string rt, .int .i64 rn, .int .i64 rd])
  replace KA := Lib.hid (KA.out.alloc (.cells #[.string rf, .string rt, .int .i64 rn, .int .i64 rd] 23))
  refine (FB.out _ (HT.out.call (al HB4.out))).mono ?_
  rintro e v5 ⟨rfl, hb⟩
  replace KA := Lib.hid (KA.out.call hb)
  replace R4 := Lib.hid (R4.out.call hb)
  have HB5 := Lib.hid (bre2 (al HB4.out) (Nat.le_refl _) hb)
  clear hb
  have KAc0 := (KA.out.cell 0).trans (show _ = some (Value.string f) from rfl)
  have KAc1 := (KA.out.cell 1).trans (show _ = some (Value.string t) from rfl)
  have KAc2 := (KA.out.cell 2).trans (show _ = some (Value.int .i64 n) from rfl)
  have KAc3 := (KA.out.cell 3).trans (show _ = some (Value.int .i64 d) from rfl)
  have KAl := KA.out.lt
  have KAf := KA.out.frozen
  have R4c0 := (R4.out.cell 0).trans (show _ = some (Value.string rf) from rfl)
  have R4c1 := (R4.out.cell 1).trans (show _ = some (Value.string rt) from rfl)
  have R4c2 := (R4.out.cell 2).trans (show _ = some (Value.int .i64 rn) from rfl)
  have R4c3 := (R4.out.cell 3).trans (show _ = some (Value.int .i64 rd) from rfl)
  have R4l := R4.out.lt
  have R4f := R4.out.frozen
  go_wp2_with fail
  clear KAc0 KAc1 KAc2 KAc3 KAl KAf R4c0 R4c1 R4c2 R4c3 R4l R4f
  refine (AW.out _).mono ?_
  rintro e v6 ⟨rfl, hb⟩
  replace KA := Lib.hid (KA.out.call hb)
  replace R4 := Lib.hid (R4.out.call hb)
  have HB6 := Lib.hid (bre2 HB5.out (Nat.le_refl _) hb)
  clear hb
  have KAc0 := (KA.out.cell 0).trans (show _ = some (Value.string f) from rfl)
  have KAc1 := (KA.out.cell 1).trans (show _ = some (Value.string t) from rfl)
  have KAc2 := (KA.out.cell 2).trans (show _ = some (Value.int .i64 n) from rfl)
  have KAc3 := (KA.out.cell 3).trans (show _ = some (Value.int .i64 d) from rfl)
  have KAl := KA.out.lt
  have KAf := KA.out.frozen
  have R4c0 := (R4.out.cell 0).trans (show _ = some (Value.string rf) from rfl)
  have R4c1 := (R4.out.cell 1).trans (show _ = some (Value.string rt) from rfl)
  have R4c2 := (R4.out.cell 2).trans (show _ = some (Value.int .i64 rn) from rfl)
  have R4c3 := (R4.out.cell 3).trans (show _ = some (Value.int .i64 rd) from rfl)
  have R4l := R4.out.lt
  have R4f := R4.out.frozen
  go_wp2_with fail
  go_ret
  exact ⟨rfl, HB6.out⟩
set_option maxHeartbeats 8000000 in
set_option maxRecDepth 100000 in
theorem w10 (f t : ByteArray) (n d : Int) (s x : ByteArray) (E : Int) (n2 d2 n3 d3 : Int) (rf rt : ByteArray) (rn rd : Int) (re : Int) (w : World) (hT : Tab w) (h4 : EC 4 w) (h5 : EC 5 w) (hs : decide ((200 : Int) < (s.size : Int)) = false) (SM : ∀ w, Calls Tryd.prog 9 #[.agg #[.string f, .string t, .int .i64 n, .int .i64 d]] w fun e w' => e = .returned (.bool true) ∧ Below w.heap.size w w') (CK : ∀ w, Calls Tryd.prog 13 #[.agg #[.string f, .string t, .int .i64 n, .int .i64 d]] w fun e w' => e = .returned (.int .i64 0) ∧ Below w.heap.size w w') (FM : ∀ w, Tab w → Calls Tryd.prog 15 #[.agg #[.string f, .string t, .int .i64 n, .int .i64 d]] w fun e w' => e = .returned (.string x) ∧ Below w.heap.size w w') (P1 : ∀ w, Tab w → EC 4 w → EC 5 w → Calls Tryd.prog 28 #[.string x] w fun e w' => e = .returned (.tuple #[.agg #[.string f, .string t, .int .i64 n, .int .i64 d], .int .i64 0]) ∧ Below w.heap.size w w') (I1 : ∀ w, Calls Tryd.prog 19 #[.agg #[.string f, .string t, .int .i64 n, .int .i64 d]] w fun e w' => e = .returned (.tuple #[.agg #[.string t, .string f, .int .i64 n2, .int .i64 d2], .int .i64 0]) ∧ Below w.heap.size w w') (I2 : ∀ w, Calls Tryd.prog 19 #[.agg #[.string t, .string f, .int .i64 n2, .int .i64 d2]] w fun e w' => e = .returned (.tuple #[.agg #[.string f, .string t, .int .i64 n3, .int .i64 d3], .int .i64 0]) ∧ Below w.heap.size w w') (RD : ∀ w, Calls Tryd.prog 11 #[.int .i64 n, .int .i64 d] w fun e w' => e = .returned (.tuple #[.int .i64 n3, .int .i64 d3]) ∧ Below w.heap.size w w') (PS : ∀ w, Tab w → EC 4 w → EC 5 w → Calls Tryd.prog 28 #[.string s] w fun e w' => e = .returned (.tuple #[.agg #[.string ⟨#[]⟩, .string ⟨#[]⟩, .int .i64 0, .int .i64 0], .int .i64 re]) ∧ Below w.heap.size w w') (hre : (re == 0) = false) (hre2 : (re != 0) = true) :
    Calls Tryd.prog 8 #[.agg #[.string f, .string t, .int .i64 n, .int .i64 d], .string s] w fun e w' => e = .returned (.bool true) ∧ Below w.heap.size w w' := by
  have AW := Lib.hid awake_any
  have HT := Lib.hid hT
  have E4 := Lib.hid h4
  have E5 := Lib.hid h5
  replace SM := Lib.hid SM
  replace CK := Lib.hid CK
  replace FM := Lib.hid FM
  replace PS := Lib.hid PS
  replace P1 := Lib.hid P1
  replace I1 := Lib.hid I1
  replace I2 := Lib.hid I2
  replace RD := Lib.hid RD
  clear hT h4 h5
  go_enter Tryd.func8, Tryd.ntmps8
  go_wp2_with fail
  have KA := Lib.hid (Blk.new w 23 #[.string f, .string t, .int .i64 n, .int .i64 d])
  refine (SM.out _).mono ?_
  rintro e v1 ⟨rfl, hb⟩
  replace KA := Lib.hid (KA.out.call hb)
  have HB1 := Lib.hid (bre2 (al (Below.refl w.heap.size w)) (Nat.le_refl _) hb)
  clear hb
  have KAc0 := (KA.out.cell 0).trans (show _ = some (Value.string f) from rfl)
  have KAc1 := (KA.out.cell 1).trans (show _ = some (Value.string t) from rfl)
  have KAc2 := (KA.out.cell 2).trans (show _ = some (Value.int .i64 n) from rfl)
  have KAc3 := (KA.out.cell 3).trans (show _ = some (Value.int .i64 d) from rfl)
  have KAl := KA.out.lt
  have KAf := KA.out.frozen
  go_wp2_with fail
  clear KAc0 KAc1 KAc2 KAc3 KAl KAf
  refine (CK.out _).mono ?_
  rintro e v2 ⟨rfl, hb⟩
  replace KA := Lib.hid (KA.out.call hb)
  have HB2 := Lib.hid (bre2 HB1.out (Nat.le_refl _) hb)
  clear hb
  have KAc0 := (KA.out.cell 0).trans (show _ = some (Value.string f) from rfl)
  have KAc1 := (KA.out.cell 1).trans (show _ = some (Value.string t) from rfl)
  have KAc2 := (KA.out.cell 2).trans (show _ = some (Value.int .i64 n) from rfl)
  have KAc3 := (KA.out.cell 3).trans (show _ = some (Value.int .i64 d) from rfl)
  have KAl := KA.out.lt
  have KAf := KA.out.frozen
  go_wp2_with fail
  clear KAc0 KAc1 KAc2 KAc3 KAl KAf
  refine (FM.out _ (HT.out.call HB2.out)).mono ?_
  rintro e v3 ⟨rfl, hb⟩
  replace KA := Lib.hid (KA.out.call hb)
  have HB3 := Lib.hid (bre2 HB2.out (Nat.le_refl _) hb)
  clear hb
  have KAc0 := (KA.out.cell 0).trans (show _ = some (Value.string f) from rfl)
  have KAc1 := (KA.out.cell 1).trans (show _ = some (Value.string t) from rfl)
  have KAc2 := (KA.out.cell 2).trans (show _ = some (Value.int .i64 n) from rfl)
  have KAc3 := (KA.out.cell 3).trans (show _ = some (Value.int .i64 d) from rfl)
  have KAl := KA.out.lt
  have KAf := KA.out.frozen
  go_wp2_with fail
  clear KAc0 KAc1 KAc2 KAc3 KAl KAf
  refine (P1.out _ (HT.out.call HB3.out) (E4.out.call HB3.out) (E5.out.call HB3.out)).mono ?_
  rintro e v4 ⟨rfl, hb⟩
  replace KA := Lib.hid (KA.out.call hb)
  have HB4 := Lib.hid (bre2 HB3.out (Nat.le_refl _) hb)
  clear hb
  have KAc0 := (KA.out.cell 0).trans (show _ = some (Value.string f) from rfl)
  have KAc1 := (KA.out.cell 1).trans (show _ = some (Value.string t) from rfl)
  have KAc2 := (KA.out.cell 2).trans (show _ = some (Value.int .i64 n) from rfl)
  have KAc3 := (KA.out.cell 3).trans (show _ = some (Value.int .i64 d) from rfl)
  have KAl := KA.out.lt
  have KAf := KA.out.frozen
  go_wp2_with fail
  clear KAc0 KAc1 KAc2 KAc3 KAl KAf
  have R1 := Lib.hid (Blk.new v4 23 #[.string f, .string t, .int .i64 n, .int .i64 d])
  replace KA := Lib.hid (KA.out.alloc (.cells #[.string f, .string t, .int .i64 n, .int .i64 d] 23))
  refine (I1.out _).mono ?_
  rintro e v5 ⟨rfl, hb⟩
  replace KA := Lib.hid (KA.out.call hb)
  replace R1 := Lib.hid (R1.out.call hb)
  have HB5 := Lib.hid (bre2 (al HB4.out) (Nat.le_refl _) hb)
  clear hb
  have KAc0 := (KA.out.cell 0).trans (show _ = some (Value.string f) from rfl)
  have KAc1 := (KA.out.cell 1).trans (show _ = some (Value.string t) from rfl)
  have KAc2 := (KA.out.cell 2).trans (show _ = some (Value.int .i64 n) from rfl)
  have KAc3 := (KA.out.cell 3).trans (show _ = some (Value.int .i64 d) from rfl)
  have KAl := KA.out.lt
  have KAf := KA.out.frozen
  have R1c0 := (R1.out.cell 0).trans (show _ = some (Value.string f) from rfl)
  have R1c1 := (R1.out.cell 1).trans (show _ = some (Value.string t) from rfl)
  have R1c2 := (R1.out.cell 2).trans (show _ = some (Value.int .i64 n) from rfl)
  have R1c3 := (R1.out.cell 3).trans (show _ = some (Value.int .i64 d) from rfl)
  have R1l := R1.out.lt
  have R1f := R1.out.frozen
  go_wp2_with fail
  clear KAc0 KAc1 KAc2 KAc3 KAl KAf R1c0 R1c1 R1c2 R1c3 R1l R1f
  have R2 := Lib.hid (Blk.new v5 23 #[.string t, .string f, .int .i64 n2, .int .i64 d2])
  replace KA := Lib.hid (KA.out.alloc (.cells #[.string t, .string f, .int .i64 n2, .int .i64 d2] 23))
  replace R1 := Lib.hid (R1.out.alloc (.cells #[.string t, .string f, .int .i64 n2, .int .i64 d2] 23))
  refine (I2.out _).mono ?_
  rintro e v6 ⟨rfl, hb⟩
  replace KA := Lib.hid (KA.out.call hb)
  replace R1 := Lib.hid (R1.out.call hb)
  replace R2 := Lib.hid (R2.out.call hb)
  have HB6 := Lib.hid (bre2 (al HB5.out) (Nat.le_refl _) hb)
  clear hb
  have KAc0 := (KA.out.cell 0).trans (show _ = some (Value.string f) from rfl)
  have KAc1 := (KA.out.cell 1).trans (show _ = some (Value.string t) from rfl)
  have KAc2 := (KA.out.cell 2).trans (show _ = some (Value.int .i64 n) from rfl)
  have KAc3 := (KA.out.cell 3).trans (show _ = some (Value.int .i64 d) from rfl)
  have KAl := KA.out.lt
  have KAf := KA.out.frozen
  have R1c0 := (R1.out.cell 0).trans (show _ = some (Value.string f) from rfl)
  have R1c1 := (R1.out.cell 1).trans (show _ = some (Value.string t) from rfl)
  have R1c2 := (R1.out.cell 2).trans (show _ = some (Value.int .i64 n) from rfl)
  have R1c3 := (R1.out.cell 3).trans (show _ = some (Value.int .i64 d) from rfl)
  have R1l := R1.out.lt
  have R1f := R1.out.frozen
  have R2c0 := (R2.out.cell 0).trans (show _ = some (Value.string t) from rfl)
  have R2c1 := (R2.out.cell 1).trans (show _ = some (Value.string f) from rfl)
  have R2c2 := (R2.out.cell 2).trans (show _ = some (Value.int .i64 n2) from rfl)
  have R2c3 := (R2.out.cell 3).trans (show _ = some (Value.int .i64 d2) from rfl)
  have R2l := R2.out.lt
  have R2f := R2.out.frozen
  go_wp2_with fail
  clear KAc0 KAc1 KAc2 KAc3 KAl KAf R1c0 R1c1 R1c2 R1c3 R1l R1f R2c0 R2c1 R2c2 R2c3 R2l R2f
  have R3 := Lib.hid (Blk.new v6 23 #[.string f, .string t, .int .i64 n3, .int .i64 d3])
  replace KA := Lib.hid (KA.out.alloc (.cells #[.string f, .string t, .int .i64 n3, .int .i64 d3] 23))
  replace R1 := Lib.hid (R1.out.alloc (.cells #[.string f, .string t, .int .i64 n3, .int .i64 d3] 23))
  replace R2 := Lib.hid (R2.out.alloc (.cells #[.string f, .string t, .int .i64 n3, .int .i64 d3] 23))
  refine (RD.out _).mono ?_
  rintro e v7 ⟨rfl, hb⟩
  replace KA := Lib.hid (KA.out.call hb)
  replace R1 := Lib.hid (R1.out.call hb)
  replace R2 := Lib.hid (R2.out.call hb)
  replace R3 := Lib.hid (R3.out.call hb)
  have HB7 := Lib.hid (bre2 (al HB6.out) (Nat.le_refl _) hb)
  clear hb
  have KAc0 := (KA.out.cell 0).trans (show _ = some (Value.string f) from rfl)
  have KAc1 := (KA.out.cell 1).trans (show _ = some (Value.string t) from rfl)
  have KAc2 := (KA.out.cell 2).trans (show _ = some (Value.int .i64 n) from rfl)
  have KAc3 := (KA.out.cell 3).trans (show _ = some (Value.int .i64 d) from rfl)
  have KAl := KA.out.lt
  have KAf := KA.out.frozen
  have R1c0 := (R1.out.cell 0).trans (show _ = some (Value.string f) from rfl)
  have R1c1 := (R1.out.cell 1).trans (show _ = some (Value.string t) from rfl)
  have R1c2 := (R1.out.cell 2).trans (show _ = some (Value.int .i64 n) from rfl)
  have R1c3 := (R1.out.cell 3).trans (show _ = some (Value.int .i64 d) from rfl)
  have R1l := R1.out.lt
  have R1f := R1.out.frozen
  have R2c0 := (R2.out.cell 0).trans (show _ = some (Value.string t) from rfl)
  have R2c1 := (R2.out.cell 1).trans (show _ = some (Value.string f) from rfl)
  have R2c2 := (R2.out.cell 2).trans (show _ = some (Value.int .i64 n2) from rfl)
  have R2c3 := (R2.out.cell 3).trans (show _ = some (Value.int .i64 d2) from rfl)
  have R2l := R2.out.lt
  have R2f := R2.out.frozen
  have R3c0 := (R3.out.cell 0).trans (show _ = some (Value.string f) from rfl)
  have R3c1 := (R3.out.cell 1).trans (show _ = some (Value.string t) from rfl)
  have R3c2 := (R3.out.cell 2).trans (show _ = some (Value.int .i64 n3) from rfl)
  have R3c3 := (R3.out.cell 3).trans (show _ = some (Value.int .i64 d3) from rfl)
  have R3l := R3.out.lt
  have R3f := R3.out.frozen
  go_wp2_with fail
  clear KAc0 KAc1 KAc2 KAc3 KAl KAf R1c0 R1c1 R1c2 R1c3 R1l R1f R2c0 R2c1 R2c2 R2c3 R2l R2f R3c0 R3c1 R3c2 R3c3 R3l R3f
  refine (PS.out _ (HT.out.call HB7.out) (E4.out.call HB7.out) (E5.out.call HB7.out)).mono ?_
  rintro e v8 ⟨rfl, hb⟩
  replace KA := Lib.hid (KA.out.call hb)
  replace R1 := Lib.hid (R1.out.call hb)
  replace R2 := Lib.hid (R2.out.call hb)
  replace R3 := Lib.hid (R3.out.call hb)
  have HB8 := Lib.hid (bre2 HB7.out (Nat.le_refl _) hb)
  clear hb
  have KAc0 := (KA.out.cell 0).trans (show _ = some (Value.string f) from rfl)
  have KAc1 := (KA.out.cell 1).trans (show _ = some (Value.string t) from rfl)
  have KAc2 := (KA.out.cell 2).trans (show _ = some (Value.int .i64 n) from rfl)
  have KAc3 := (KA.out.cell 3).trans (show _ = some (Value.int .i64 d) from rfl)
  have KAl := KA.out.lt
  have KAf := KA.out.frozen
  have R1c0 := (R1.out.cell 0).trans (show _ = some (Value.string f) from rfl)
  have R1c1 := (R1.out.cell 1).trans (show _ = some (Value.string t) from rfl)
  have R1c2 := (R1.out.cell 2).trans (show _ = some (Value.int .i64 n) from rfl)
  have R1c3 := (R1.out.cell 3).trans (show _ = some (Value.int .i64 d) from rfl)
  have R1l := R1.out.lt
  have R1f := R1.out.frozen
  have R2c0 := (R2.out.cell 0).trans (show _ = some (Value.string t) from rfl)
  have R2c1 := (R2.out.cell 1).trans (show _ = some (Value.string f) from rfl)
  have R2c2 := (R2.out.cell 2).trans (show _ = some (Value.int .i64 n2) from rfl)
  have R2c3 := (R2.out.cell 3).trans (show _ = some (Value.int .i64 d2) from rfl)
  have R2l := R2.out.lt
  have R2f := R2.out.frozen
  have R3c0 := (R3.out.cell 0).trans (show _ = some (Value.string f) from rfl)
  have R3c1 := (R3.out.cell 1).trans (show _ = some (Value.string t) from rfl)
  have R3c2 := (R3.out.cell 2).trans (show _ = some (Value.int .i64 n3) from rfl)
  have R3c3 := (R3.out.cell 3).trans (show _ = some (Value.int .i64 d3) from rfl)
  have R3l := R3.out.lt
  have R3f := R3.out.frozen
  go_wp2_with fail
  clear KAc0 KAc1 KAc2 KAc3 KAl KAf R1c0 R1c1 R1c2 R1c3 R1l R1f R2c0 R2c1 R2c2 R2c3 R2l R2f R3c0 R3c1 R3c2 R3c3 R3l R3f
  have R4 := Lib.hid (Blk.new v8 23 #[.string ⟨#[]⟩, .string ⟨#[]⟩, .int .i64 0, .int .i64 0])
  replace KA := Lib.hid (KA.out.alloc (.cells #[.string ⟨#[]⟩, .string ⟨#[]⟩, .int .i64 0, .int .i64 0] 23))
  replace R1 := Lib.hid (R1.out.alloc (.cells #[.string ⟨#[]⟩, .string ⟨#[]⟩, .int .i64 0, .int .i64 0] 23))
  replace R2 := Lib.hid (R2.out.alloc (.cells #[.string ⟨#[]⟩, .string ⟨#[]⟩, .int .i64 0, .int .i64 0] 23))
  replace R3 := Lib.hid (R3.out.alloc (.cells #[.string ⟨#[]⟩, .string ⟨#[]⟩, .int .i64 0, .int .i64 0] 23))
  refine (AW.out _).mono ?_
  rintro e v9 ⟨rfl, hb⟩
  replace KA := Lib.hid (KA.out.call hb)
  replace R1 := Lib.hid (R1.out.call hb)
  replace R2 := Lib.hid (R2.out.call hb)
  replace R3 := Lib.hid (R3.out.call hb)
  replace R4 := Lib.hid (R4.out.call hb)
  have HB9 := Lib.hid (bre2 (al HB8.out) (Nat.le_refl _) hb)
  clear hb
  have KAc0 := (KA.out.cell 0).trans (show _ = some (Value.string f) from rfl)
  have KAc1 := (KA.out.cell 1).trans (show _ = some (Value.string t) from rfl)
  have KAc2 := (KA.out.cell 2).trans (show _ = some (Value.int .i64 n) from rfl)
  have KAc3 := (KA.out.cell 3).trans (show _ = some (Value.int .i64 d) from rfl)
  have KAl := KA.out.lt
  have KAf := KA.out.frozen
  have R1c0 := (R1.out.cell 0).trans (show _ = some (Value.string f) from rfl)
  have R1c1 := (R1.out.cell 1).trans (show _ = some (Value.string t) from rfl)
  have R1c2 := (R1.out.cell 2).trans (show _ = some (Value.int .i64 n) from rfl)
  have R1c3 := (R1.out.cell 3).trans (show _ = some (Value.int .i64 d) from rfl)
  have R1l := R1.out.lt
  have R1f := R1.out.frozen
  have R2c0 := (R2.out.cell 0).trans (show _ = some (Value.string t) from rfl)
  have R2c1 := (R2.out.cell 1).trans (show _ = some (Value.string f) from rfl)
  have R2c2 := (R2.out.cell 2).trans (show _ = some (Value.int .i64 n2) from rfl)
  have R2c3 := (R2.out.cell 3).trans (show _ = some (Value.int .i64 d2) from rfl)
  have R2l := R2.out.lt
  have R2f := R2.out.frozen
  have R3c0 := (R3.out.cell 0).trans (show _ = some (Value.string f) from rfl)
  have R3c1 := (R3.out.cell 1).trans (show _ = some (Value.string t) from rfl)
  have R3c2 := (R3.out.cell 2).trans (show _ = some (Value.int .i64 n3) from rfl)
  have R3c3 := (R3.out.cell 3).trans (show _ = some (Value.int .i64 d3) from rfl)
  have R3l := R3.out.lt
  have R3f := R3.out.frozen
  have R4c0 := (R4.out.cell 0).trans (show _ = some (Value.string ⟨#[]⟩) from rfl)
  have R4c1 := (R4.out.cell 1).trans (show _ = some (Value.string ⟨#[]⟩) from rfl)
  have R4c2 := (R4.out.cell 2).trans (show _ = some (Value.int .i64 0) from rfl)
  have R4c3 := (R4.out.cell 3).trans (show _ = some (Value.int .i64 0) from rfl)
  have R4l := R4.out.lt
  have R4f := R4.out.frozen
  go_wp2_with fail
  go_ret
  exact ⟨rfl, HB9.out⟩
set_option maxHeartbeats 8000000 in
set_option maxRecDepth 100000 in
theorem w11 (f t : ByteArray) (n d : Int) (s x : ByteArray) (E : Int) (n2 d2 n3 d3 : Int) (rf rt : ByteArray) (rn rd : Int) (re : Int) (w : World) (hT : Tab w) (h4 : EC 4 w) (h5 : EC 5 w) (hs : decide ((200 : Int) < (s.size : Int)) = false) (SM : ∀ w, Calls Tryd.prog 9 #[.agg #[.string f, .string t, .int .i64 n, .int .i64 d]] w fun e w' => e = .returned (.bool true) ∧ Below w.heap.size w w') (CK : ∀ w, Calls Tryd.prog 13 #[.agg #[.string f, .string t, .int .i64 n, .int .i64 d]] w fun e w' => e = .returned (.int .i64 0) ∧ Below w.heap.size w w') (FM : ∀ w, Tab w → Calls Tryd.prog 15 #[.agg #[.string f, .string t, .int .i64 n, .int .i64 d]] w fun e w' => e = .returned (.string x) ∧ Below w.heap.size w w') (P1 : ∀ w, Tab w → EC 4 w → EC 5 w → Calls Tryd.prog 28 #[.string x] w fun e w' => e = .returned (.tuple #[.agg #[.string f, .string t, .int .i64 n, .int .i64 d], .int .i64 0]) ∧ Below w.heap.size w w') (I1 : ∀ w, Calls Tryd.prog 19 #[.agg #[.string f, .string t, .int .i64 n, .int .i64 d]] w fun e w' => e = .returned (.tuple #[.agg #[.string t, .string f, .int .i64 n2, .int .i64 d2], .int .i64 0]) ∧ Below w.heap.size w w') (I2 : ∀ w, Calls Tryd.prog 19 #[.agg #[.string t, .string f, .int .i64 n2, .int .i64 d2]] w fun e w' => e = .returned (.tuple #[.agg #[.string f, .string t, .int .i64 n3, .int .i64 d3], .int .i64 0]) ∧ Below w.heap.size w w') (RD : ∀ w, Calls Tryd.prog 11 #[.int .i64 n, .int .i64 d] w fun e w' => e = .returned (.tuple #[.int .i64 n3, .int .i64 d3]) ∧ Below w.heap.size w w') (PS : ∀ w, Tab w → EC 4 w → EC 5 w → Calls Tryd.prog 28 #[.string s] w fun e w' => e = .returned (.tuple #[.agg #[.string rf, .string rt, .int .i64 rn, .int .i64 rd], .int .i64 0]) ∧ Below w.heap.size w w') (FB : ∀ w, Tab w → Calls Tryd.prog 15 #[.agg #[.string rf, .string rt, .int .i64 rn, .int .i64 rd]] w fun e w' => e = .returned (.string s) ∧ Below w.heap.size w w') :
    Calls Tryd.prog 8 #[.agg #[.string f, .string t, .int .i64 n, .int .i64 d], .string s] w fun e w' => e = .returned (.bool true) ∧ Below w.heap.size w w' := by
  have AW := Lib.hid awake_any
  have HT := Lib.hid hT
  have E4 := Lib.hid h4
  have E5 := Lib.hid h5
  replace SM := Lib.hid SM
  replace CK := Lib.hid CK
  replace FM := Lib.hid FM
  replace PS := Lib.hid PS
  replace P1 := Lib.hid P1
  replace I1 := Lib.hid I1
  replace I2 := Lib.hid I2
  replace RD := Lib.hid RD
  replace FB := Lib.hid FB
  clear hT h4 h5
  go_enter Tryd.func8, Tryd.ntmps8
  go_wp2_with fail
  have KA := Lib.hid (Blk.new w 23 #[.string f, .string t, .int .i64 n, .int .i64 d])
  refine (SM.out _).mono ?_
  rintro e v1 ⟨rfl, hb⟩
  replace KA := Lib.hid (KA.out.call hb)
  have HB1 := Lib.hid (bre2 (al (Below.refl w.heap.size w)) (Nat.le_refl _) hb)
  clear hb
  have KAc0 := (KA.out.cell 0).trans (show _ = some (Value.string f) from rfl)
  have KAc1 := (KA.out.cell 1).trans (show _ = some (Value.string t) from rfl)
  have KAc2 := (KA.out.cell 2).trans (show _ = some (Value.int .i64 n) from rfl)
  have KAc3 := (KA.out.cell 3).trans (show _ = some (Value.int .i64 d) from rfl)
  have KAl := KA.out.lt
  have KAf := KA.out.frozen
  go_wp2_with fail
  clear KAc0 KAc1 KAc2 KAc3 KAl KAf
  refine (CK.out _).mono ?_
  rintro e v2 ⟨rfl, hb⟩
  replace KA := Lib.hid (KA.out.call hb)
  have HB2 := Lib.hid (bre2 HB1.out (Nat.le_refl _) hb)
  clear hb
  have KAc0 := (KA.out.cell 0).trans (show _ = some (Value.string f) from rfl)
  have KAc1 := (KA.out.cell 1).trans (show _ = some (Value.string t) from rfl)
  have KAc2 := (KA.out.cell 2).trans (show _ = some (Value.int .i64 n) from rfl)
  have KAc3 := (KA.out.cell 3).trans (show _ = some (Value.int .i64 d) from rfl)
  have KAl := KA.out.lt
  have KAf := KA.out.frozen
  go_wp2_with fail
  clear KAc0 KAc1 KAc2 KAc3 KAl KAf
  refine (FM.out _ (HT.out.call HB2.out)).mono ?_
  rintro e v3 ⟨rfl, hb⟩
  replace KA := Lib.hid (KA.out.call hb)
  have HB3 := Lib.hid (bre2 HB2.out (Nat.le_refl _) hb)
  clear hb
  have KAc0 := (KA.out.cell 0).trans (show _ = some (Value.string f) from rfl)
  have KAc1 := (KA.out.cell 1).trans (show _ = some (Value.string t) from rfl)
  have KAc2 := (KA.out.cell 2).trans (show _ = some (Value.int .i64 n) from rfl)
  have KAc3 := (KA.out.cell 3).trans (show _ = some (Value.int .i64 d) from rfl)
  have KAl := KA.out.lt
  have KAf := KA.out.frozen
  go_wp2_with fail
  clear KAc0 KAc1 KAc2 KAc3 KAl KAf
  refine (P1.out _ (HT.out.call HB3.out) (E4.out.call HB3.out) (E5.out.call HB3.out)).mono ?_
  rintro e v4 ⟨rfl, hb⟩
  replace KA := Lib.hid (KA.out.call hb)
  have HB4 := Lib.hid (bre2 HB3.out (Nat.le_refl _) hb)
  clear hb
  have KAc0 := (KA.out.cell 0).trans (show _ = some (Value.string f) from rfl)
  have KAc1 := (KA.out.cell 1).trans (show _ = some (Value.string t) from rfl)
  have KAc2 := (KA.out.cell 2).trans (show _ = some (Value.int .i64 n) from rfl)
  have KAc3 := (KA.out.cell 3).trans (show _ = some (Value.int .i64 d) from rfl)
  have KAl := KA.out.lt
  have KAf := KA.out.frozen
  go_wp2_with fail
  clear KAc0 KAc1 KAc2 KAc3 KAl KAf
  have R1 := Lib.hid (Blk.new v4 23 #[.string f, .string t, .int .i64 n, .int .i64 d])
  replace KA := Lib.hid (KA.out.alloc (.cells #[.string f, .string t, .int .i64 n, .int .i64 d] 23))
  refine (I1.out _).mono ?_
  rintro e v5 ⟨rfl, hb⟩
  replace KA := Lib.hid (KA.out.call hb)
  replace R1 := Lib.hid (R1.out.call hb)
  have HB5 := Lib.hid (bre2 (al HB4.out) (Nat.le_refl _) hb)
  clear hb
  have KAc0 := (KA.out.cell 0).trans (show _ = some (Value.string f) from rfl)
  have KAc1 := (KA.out.cell 1).trans (show _ = some (Value.string t) from rfl)
  have KAc2 := (KA.out.cell 2).trans (show _ = some (Value.int .i64 n) from rfl)
  have KAc3 := (KA.out.cell 3).trans (show _ = some (Value.int .i64 d) from rfl)
  have KAl := KA.out.lt
  have KAf := KA.out.frozen
  have R1c0 := (R1.out.cell 0).trans (show _ = some (Value.string f) from rfl)
  have R1c1 := (R1.out.cell 1).trans (show _ = some (Value.string t) from rfl)
  have R1c2 := (R1.out.cell 2).trans (show _ = some (Value.int .i64 n) from rfl)
  have R1c3 := (R1.out.cell 3).trans (show _ = some (Value.int .i64 d) from rfl)
  have R1l := R1.out.lt
  have R1f := R1.out.frozen
  go_wp2_with fail
  clear KAc0 KAc1 KAc2 KAc3 KAl KAf R1c0 R1c1 R1c2 R1c3 R1l R1f
  have R2 := Lib.hid (Blk.new v5 23 #[.string t, .string f, .int .i64 n2, .int .i64 d2])
  replace KA := Lib.hid (KA.out.alloc (.cells #[.string t, .string f, .int .i64 n2, .int .i64 d2] 23))
  replace R1 := Lib.hid (R1.out.alloc (.cells #[.string t, .string f, .int .i64 n2, .int .i64 d2] 23))
  refine (I2.out _).mono ?_
  rintro e v6 ⟨rfl, hb⟩
  replace KA := Lib.hid (KA.out.call hb)
  replace R1 := Lib.hid (R1.out.call hb)
  replace R2 := Lib.hid (R2.out.call hb)
  have HB6 := Lib.hid (bre2 (al HB5.out) (Nat.le_refl _) hb)
  clear hb
  have KAc0 := (KA.out.cell 0).trans (show _ = some (Value.string f) from rfl)
  have KAc1 := (KA.out.cell 1).trans (show _ = some (Value.string t) from rfl)
  have KAc2 := (KA.out.cell 2).trans (show _ = some (Value.int .i64 n) from rfl)
  have KAc3 := (KA.out.cell 3).trans (show _ = some (Value.int .i64 d) from rfl)
  have KAl := KA.out.lt
  have KAf := KA.out.frozen
  have R1c0 := (R1.out.cell 0).trans (show _ = some (Value.string f) from rfl)
  have R1c1 := (R1.out.cell 1).trans (show _ = some (Value.string t) from rfl)
  have R1c2 := (R1.out.cell 2).trans (show _ = some (Value.int .i64 n) from rfl)
  have R1c3 := (R1.out.cell 3).trans (show _ = some (Value.int .i64 d) from rfl)
  have R1l := R1.out.lt
  have R1f := R1.out.frozen
  have R2c0 := (R2.out.cell 0).trans (show _ = some (Value.string t) from rfl)
  have R2c1 := (R2.out.cell 1).trans (show _ = some (Value.string f) from rfl)
  have R2c2 := (R2.out.cell 2).trans (show _ = some (Value.int .i64 n2) from rfl)
  have R2c3 := (R2.out.cell 3).trans (show _ = some (Value.int .i64 d2) from rfl)
  have R2l := R2.out.lt
  have R2f := R2.out.frozen
  go_wp2_with fail
  clear KAc0 KAc1 KAc2 KAc3 KAl KAf R1c0 R1c1 R1c2 R1c3 R1l R1f R2c0 R2c1 R2c2 R2c3 R2l R2f
  have R3 := Lib.hid (Blk.new v6 23 #[.string f, .string t, .int .i64 n3, .int .i64 d3])
  replace KA := Lib.hid (KA.out.alloc (.cells #[.string f, .string t, .int .i64 n3, .int .i64 d3] 23))
  replace R1 := Lib.hid (R1.out.alloc (.cells #[.string f, .string t, .int .i64 n3, .int .i64 d3] 23))
  replace R2 := Lib.hid (R2.out.alloc (.cells #[.string f, .string t, .int .i64 n3, .int .i64 d3] 23))
  refine (RD.out _).mono ?_
  rintro e v7 ⟨rfl, hb⟩
  replace KA := Lib.hid (KA.out.call hb)
  replace R1 := Lib.hid (R1.out.call hb)
  replace R2 := Lib.hid (R2.out.call hb)
  replace R3 := Lib.hid (R3.out.call hb)
  have HB7 := Lib.hid (bre2 (al HB6.out) (Nat.le_refl _) hb)
  clear hb
  have KAc0 := (KA.out.cell 0).trans (show _ = some (Value.string f) from rfl)
  have KAc1 := (KA.out.cell 1).trans (show _ = some (Value.string t) from rfl)
  have KAc2 := (KA.out.cell 2).trans (show _ = some (Value.int .i64 n) from rfl)
  have KAc3 := (KA.out.cell 3).trans (show _ = some (Value.int .i64 d) from rfl)
  have KAl := KA.out.lt
  have KAf := KA.out.frozen
  have R1c0 := (R1.out.cell 0).trans (show _ = some (Value.string f) from rfl)
  have R1c1 := (R1.out.cell 1).trans (show _ = some (Value.string t) from rfl)
  have R1c2 := (R1.out.cell 2).trans (show _ = some (Value.int .i64 n) from rfl)
  have R1c3 := (R1.out.cell 3).trans (show _ = some (Value.int .i64 d) from rfl)
  have R1l := R1.out.lt
  have R1f := R1.out.frozen
  have R2c0 := (R2.out.cell 0).trans (show _ = some (Value.string t) from rfl)
  have R2c1 := (R2.out.cell 1).trans (show _ = some (Value.string f) from rfl)
  have R2c2 := (R2.out.cell 2).trans (show _ = some (Value.int .i64 n2) from rfl)
  have R2c3 := (R2.out.cell 3).trans (show _ = some (Value.int .i64 d2) from rfl)
  have R2l := R2.out.lt
  have R2f := R2.out.frozen
  have R3c0 := (R3.out.cell 0).trans (show _ = some (Value.string f) from rfl)
  have R3c1 := (R3.out.cell 1).trans (show _ = some (Value.string t) from rfl)
  have R3c2 := (R3.out.cell 2).trans (show _ = some (Value.int .i64 n3) from rfl)
  have R3c3 := (R3.out.cell 3).trans (show _ = some (Value.int .i64 d3) from rfl)
  have R3l := R3.out.lt
  have R3f := R3.out.frozen
  go_wp2_with fail
  clear KAc0 KAc1 KAc2 KAc3 KAl KAf R1c0 R1c1 R1c2 R1c3 R1l R1f R2c0 R2c1 R2c2 R2c3 R2l R2f R3c0 R3c1 R3c2 R3c3 R3l R3f
  refine (PS.out _ (HT.out.call HB7.out) (E4.out.call HB7.out) (E5.out.call HB7.out)).mono ?_
  rintro e v8 ⟨rfl, hb⟩
  replace KA := Lib.hid (KA.out.call hb)
  replace R1 := Lib.hid (R1.out.call hb)
  replace R2 := Lib.hid (R2.out.call hb)
  replace R3 := Lib.hid (R3.out.call hb)
  have HB8 := Lib.hid (bre2 HB7.out (Nat.le_refl _) hb)
  clear hb
  have KAc0 := (KA.out.cell 0).trans (show _ = some (Value.string f) from rfl)
  have KAc1 := (KA.out.cell 1).trans (show _ = some (Value.string t) from rfl)
  have KAc2 := (KA.out.cell 2).trans (show _ = some (Value.int .i64 n) from rfl)
  have KAc3 := (KA.out.cell 3).trans (show _ = some (Value.int .i64 d) from rfl)
  have KAl := KA.out.lt
  have KAf := KA.out.frozen
  have R1c0 := (R1.out.cell 0).trans (show _ = some (Value.string f) from rfl)
  have R1c1 := (R1.out.cell 1).trans (show _ = some (Value.string t) from rfl)
  have R1c2 := (R1.out.cell 2).trans (show _ = some (Value.int .i64 n) from rfl)
  have R1c3 := (R1.out.cell 3).trans (show _ = some (Value.int .i64 d) from rfl)
  have R1l := R1.out.lt
  have R1f := R1.out.frozen
  have R2c0 := (R2.out.cell 0).trans (show _ = some (Value.string t) from rfl)
  have R2c1 := (R2.out.cell 1).trans (show _ = some (Value.string f) from rfl)
  have R2c2 := (R2.out.cell 2).trans (show _ = some (Value.int .i64 n2) from rfl)
  have R2c3 := (R2.out.cell 3).trans (show _ = some (Value.int .i64 d2) from rfl)
  have R2l := R2.out.lt
  have R2f := R2.out.frozen
  have R3c0 := (R3.out.cell 0).trans (show _ = some (Value.string f) from rfl)
  have R3c1 := (R3.out.cell 1).trans (show _ = some (Value.string t) from rfl)
  have R3c2 := (R3.out.cell 2).trans (show _ = some (Value.int .i64 n3) from rfl)
  have R3c3 := (R3.out.cell 3).trans (show _ = some (Value.int .i64 d3) from rfl)
  have R3l := R3.out.lt
  have R3f := R3.out.frozen
  go_wp2_with fail
  clear KAc0 KAc1 KAc2 KAc3 KAl KAf R1c0 R1c1 R1c2 R1c3 R1l R1f R2c0 R2c1 R2c2 R2c3 R2l R2f R3c0 R3c1 R3c2 R3c3 R3l R3f
  have R4 := Lib.hid (Blk.new v8 23 #[.string rf, .string rt, .int .i64 rn, .int .i64 rd])
  replace KA := Lib.hid (KA.out.alloc (.cells #[.string rf, .string rt, .int .i64 rn, .int .i64 rd] 23))
  replace R1 := Lib.hid (R1.out.alloc (.cells #[.string rf, .string rt, .int .i64 rn, .int .i64 rd] 23))
  replace R2 := Lib.hid (R2.out.alloc (.cells #[.string rf, .string rt, .int .i64 rn, .int .i64 rd] 23))
  replace R3 := Lib.hid (R3.out.alloc (.cells #[.string rf, .string rt, .int .i64 rn, .int .i64 rd] 23))
  refine (FB.out _ (HT.out.call (al HB8.out))).mono ?_
  rintro e v9 ⟨rfl, hb⟩
  replace KA := Lib.hid (KA.out.call hb)
  replace R1 := Lib.hid (R1.out.call hb)
  replace R2 := Lib.hid (R2.out.call hb)
  replace R3 := Lib.hid (R3.out.call hb)
  replace R4 := Lib.hid (R4.out.call hb)
  have HB9 := Lib.hid (bre2 (al HB8.out) (Nat.le_refl _) hb)
  clear hb
  have KAc0 := (KA.out.cell 0).trans (show _ = some (Value.string f) from rfl)
  have KAc1 := (KA.out.cell 1).trans (show _ = some (Value.string t) from rfl)
  have KAc2 := (KA.out.cell 2).trans (show _ = some (Value.int .i64 n) from rfl)
  have KAc3 := (KA.out.cell 3).trans (show _ = some (Value.int .i64 d) from rfl)
  have KAl := KA.out.lt
  have KAf := KA.out.frozen
  have R1c0 := (R1.out.cell 0).trans (show _ = some (Value.string f) from rfl)
  have R1c1 := (R1.out.cell 1).trans (show _ = some (Value.string t) from rfl)
  have R1c2 := (R1.out.cell 2).trans (show _ = some (Value.int .i64 n) from rfl)
  have R1c3 := (R1.out.cell 3).trans (show _ = some (Value.int .i64 d) from rfl)
  have R1l := R1.out.lt
  have R1f := R1.out.frozen
  have R2c0 := (R2.out.cell 0).trans (show _ = some (Value.string t) from rfl)
  have R2c1 := (R2.out.cell 1).trans (show _ = some (Value.string f) from rfl)
  have R2c2 := (R2.out.cell 2).trans (show _ = some (Value.int .i64 n2) from rfl)
  have R2c3 := (R2.out.cell 3).trans (show _ = some (Value.int .i64 d2) from rfl)
  have R2l := R2.out.lt
  have R2f := R2.out.frozen
  have R3c0 := (R3.out.cell 0).trans (show _ = some (Value.string f) from rfl)
  have R3c1 := (R3.out.cell 1).trans (show _ = some (Value.string t) from rfl)
  have R3c2 := (R3.out.cell 2).trans (show _ = some (Value.int .i64 n3) from rfl)
  have R3c3 := (R3.out.cell 3).trans (show _ = some (Value.int .i64 d3) from rfl)
  have R3l := R3.out.lt
  have R3f := R3.out.frozen
  have R4c0 := (R4.out.cell 0).trans (show _ = some (Value.string rf) from rfl)
  have R4c1 := (R4.out.cell 1).trans (show _ = some (Value.string rt) from rfl)
  have R4c2 := (R4.out.cell 2).trans (show _ = some (Value.int .i64 rn) from rfl)
  have R4c3 := (R4.out.cell 3).trans (show _ = some (Value.int .i64 rd) from rfl)
  have R4l := R4.out.lt
  have R4f := R4.out.frozen
  go_wp2_with fail
  clear KAc0 KAc1 KAc2 KAc3 KAl KAf R1c0 R1c1 R1c2 R1c3 R1l R1f R2c0 R2c1 R2c2 R2c3 R2l R2f R3c0 R3c1 R3c2 R3c3 R3l R3f R4c0 R4c1 R4c2 R4c3 R4l R4f
  refine (AW.out _).mono ?_
  rintro e v10 ⟨rfl, hb⟩
  replace KA := Lib.hid (KA.out.call hb)
  replace R1 := Lib.hid (R1.out.call hb)
  replace R2 := Lib.hid (R2.out.call hb)
  replace R3 := Lib.hid (R3.out.call hb)
  replace R4 := Lib.hid (R4.out.call hb)
  have HB10 := Lib.hid (bre2 HB9.out (Nat.le_refl _) hb)
  clear hb
  have KAc0 := (KA.out.cell 0).trans (show _ = some (Value.string f) from rfl)
  have KAc1 := (KA.out.cell 1).trans (show _ = some (Value.string t) from rfl)
  have KAc2 := (KA.out.cell 2).trans (show _ = some (Value.int .i64 n) from rfl)
  have KAc3 := (KA.out.cell 3).trans (show _ = some (Value.int .i64 d) from rfl)
  have KAl := KA.out.lt
  have KAf := KA.out.frozen
  have R1c0 := (R1.out.cell 0).trans (show _ = some (Value.string f) from rfl)
  have R1c1 := (R1.out.cell 1).trans (show _ = some (Value.string t) from rfl)
  have R1c2 := (R1.out.cell 2).trans (show _ = some (Value.int .i64 n) from rfl)
  have R1c3 := (R1.out.cell 3).trans (show _ = some (Value.int .i64 d) from rfl)
  have R1l := R1.out.lt
  have R1f := R1.out.frozen
  have R2c0 := (R2.out.cell 0).trans (show _ = some (Value.string t) from rfl)
  have R2c1 := (R2.out.cell 1).trans (show _ = some (Value.string f) from rfl)
  have R2c2 := (R2.out.cell 2).trans (show _ = some (Value.int .i64 n2) from rfl)
  have R2c3 := (R2.out.cell 3).trans (show _ = some (Value.int .i64 d2) from rfl)
  have R2l := R2.out.lt
  have R2f := R2.out.frozen
  have R3c0 := (R3.out.cell 0).trans (show _ = some (Value.string f) from rfl)
  have R3c1 := (R3.out.cell 1).trans (show _ = some (Value.string t) from rfl)
  have R3c2 := (R3.out.cell 2).trans (show _ = some (Value.int .i64 n3) from rfl)
  have R3c3 := (R3.out.cell 3).trans (show _ = some (Value.int .i64 d3) from rfl)
  have R3l := R3.out.lt
  have R3f := R3.out.frozen
  have R4c0 := (R4.out.cell 0).trans (show _ = some (Value.string rf) from rfl)
  have R4c1 := (R4.out.cell 1).trans (show _ = some (Value.string rt) from rfl)
  have R4c2 := (R4.out.cell 2).trans (show _ = some (Value.int .i64 rn) from rfl)
  have R4c3 := (R4.out.cell 3).trans (show _ = some (Value.int .i64 rd) from rfl)
  have R4l := R4.out.lt
  have R4f := R4.out.frozen
  go_wp2_with fail
  go_ret
  exact ⟨rfl, HB10.out⟩
set_option maxHeartbeats 8000000 in
set_option maxRecDepth 100000 in
theorem walk (f t : ByteArray) (n d : Int) (s : ByteArray) (w : World) (hf : f.size ≤ maxLen) (ht : t.size ≤ maxLen) (hn : (Lit.int .i64 n).wf = true) (hd : (Lit.int .i64 d).wf = true) (hs : s.size ≤ maxLen) (hT : Tab w) (h4 : EC 4 w) (h5 : EC 5 w) :
    Calls Tryd.prog 8 #[.agg #[.string f, .string t, .int .i64 n, .int .i64 d], .string s] w fun e w' => e = .returned (.bool true) ∧ Below w.heap.size w w' := by
  have SM := fun w => small_any f t n d w hf ht
  have AW := Lib.hid awake_any
  cases hsm : smallB f t
  · rw [hsm] at SM
    replace SM := Lib.hid SM
    unfold rt at SM
    unfold maxLen at hf ht hs
    clear hn hd hT h4 h5 hsm
    go_enter Tryd.func8, Tryd.ntmps8
    go_wp2_with fail
    have HB0 := Lib.hid (al (o := .cells #[.string f, .string t, .int .i64 n, .int .i64 d] 23) (Below.refl w.heap.size w))
    have KA := Lib.hid (Blk.new w 23 #[.string f, .string t, .int .i64 n, .int .i64 d])
    refine (SM.out _).mono ?_
    rintro e v1 ⟨rfl, hb⟩
    replace KA := Lib.hid (KA.out.call hb)
    have HB1 := Lib.hid (bre2 (al (Below.refl w.heap.size w)) (Nat.le_refl _) hb)
    clear hb
    have KAc0 := (KA.out.cell 0).trans (show _ = some (Value.string f) from rfl)
    have KAc1 := (KA.out.cell 1).trans (show _ = some (Value.string t) from rfl)
    have KAc2 := (KA.out.cell 2).trans (show _ = some (Value.int .i64 n) from rfl)
    have KAc3 := (KA.out.cell 3).trans (show _ = some (Value.int .i64 d) from rfl)
    have KAl := KA.out.lt
    have KAf := KA.out.frozen
    go_wp2_with fail
    clear KAc0 KAc1 KAc2 KAc3 KAl KAf
    refine (AW.out _).mono ?_
    rintro e v2 ⟨rfl, hb⟩
    replace KA := Lib.hid (KA.out.call hb)
    have HB2 := Lib.hid (bre2 HB1.out (Nat.le_refl _) hb)
    clear hb
    have KAc0 := (KA.out.cell 0).trans (show _ = some (Value.string f) from rfl)
    have KAc1 := (KA.out.cell 1).trans (show _ = some (Value.string t) from rfl)
    have KAc2 := (KA.out.cell 2).trans (show _ = some (Value.int .i64 n) from rfl)
    have KAc3 := (KA.out.cell 3).trans (show _ = some (Value.int .i64 d) from rfl)
    have KAl := KA.out.lt
    have KAf := KA.out.frozen
    go_wp2_with fail
    go_ret
    exact ⟨rfl, HB2.out⟩
  · rw [hsm] at SM
    by_cases h0 : 200 < s.size
    · have c0' : decide ((200 : Int) < (s.size : Int)) = true := decide_eq_true (by omega)
      replace SM := Lib.hid SM
      unfold rt at SM
      unfold maxLen at hf ht hs
      clear hn hd hT h4 h5 hsm h0
      go_enter Tryd.func8, Tryd.ntmps8
      go_wp2_with fail
      have KA := Lib.hid (Blk.new w 23 #[.string f, .string t, .int .i64 n, .int .i64 d])
      refine (SM.out _).mono ?_
      rintro e v1 ⟨rfl, hb⟩
      replace KA := Lib.hid (KA.out.call hb)
      have HB1 := Lib.hid (bre2 (al (Below.refl w.heap.size w)) (Nat.le_refl _) hb)
      clear hb
      have KAc0 := (KA.out.cell 0).trans (show _ = some (Value.string f) from rfl)
      have KAc1 := (KA.out.cell 1).trans (show _ = some (Value.string t) from rfl)
      have KAc2 := (KA.out.cell 2).trans (show _ = some (Value.int .i64 n) from rfl)
      have KAc3 := (KA.out.cell 3).trans (show _ = some (Value.int .i64 d) from rfl)
      have KAl := KA.out.lt
      have KAf := KA.out.frozen
      go_wp2_with fail
      clear KAc0 KAc1 KAc2 KAc3 KAl KAf
      refine (AW.out _).mono ?_
      rintro e v2 ⟨rfl, hb⟩
      replace KA := Lib.hid (KA.out.call hb)
      have HB2 := Lib.hid (bre2 HB1.out (Nat.le_refl _) hb)
      clear hb
      have KAc0 := (KA.out.cell 0).trans (show _ = some (Value.string f) from rfl)
      have KAc1 := (KA.out.cell 1).trans (show _ = some (Value.string t) from rfl)
      have KAc2 := (KA.out.cell 2).trans (show _ = some (Value.int .i64 n) from rfl)
      have KAc3 := (KA.out.cell 3).trans (show _ = some (Value.int .i64 d) from rfl)
      have KAl := KA.out.lt
      have KAf := KA.out.frozen
      go_wp2_with fail
      go_ret
      exact ⟨rfl, HB2.out⟩
    · have c0' : decide ((200 : Int) < (s.size : Int)) = false := decide_eq_false (by omega)
      have hz : f.size ≤ 20 ∧ t.size ≤ 20 := by simpa [smallB] using hsm
      have CK := fun w => check_any f t n d w hf ht
      have hP : ∀ w, Tab w → EC 4 w → EC 5 w → _ := fun w a b c => parse_any s (by omega) w a b c
      by_cases hc : chkR f t n d = 0
      · obtain ⟨hsB, hn1, hd1⟩ := chk_zero hc
        rw [hc] at CK
        have FM : ∀ w, Tab w → _ := fun w h => format_ok f t n d w hz.1 hz.2 hc h
        obtain ⟨pf, ps⟩ := prs_fmt f t n d hc
        have P1 : ∀ w, Tab w → EC 4 w → EC 5 w → _ := fun w a b c => parse_any _ ps w a b c
        rw [pf] at P1
        have I1 := fun w => inv_ok f t n d w hf ht hc
        have hr := red_range d n hd1.1 hn1.1
        have hc2 : chkR t f (redN d n) (redD d n) = 0 := by
          have hsB2 : sB t f = true := by
            unfold sB at hsB ⊢
            rw [Bool.and_eq_true, Bool.and_eq_true] at hsB ⊢
            refine ⟨⟨hsB.1.2, hsB.1.1⟩, ?_⟩
            have h1 := hsB.2
            rw [Bool.not_eq_true', beq_eq_false_iff_ne] at h1 ⊢
            exact fun e => h1 e.symm
          unfold chkR
          rw [hsB2, if_neg (by simp)]
          have p1 : pB (redN d n) = true := by unfold pB; exact decide_eq_true (by omega)
          have p2 : pB (redD d n) = true := by unfold pB; exact decide_eq_true (by omega)
          rw [p1, p2]
          rfl
        have I2 := fun w => inv_ok t f (redN d n) (redD d n) w ht hf hc2
        have hg := gcd_red n d hn1.1 hd1.1
        rw [hg.1, hg.2] at I2
        have RD := fun w => reduce_any n d w (by omega) (by omega)
        unfold rt at *
        cases he : ((prs s).e == 0)
        · have h1 := prs_err s he
          have h2 : ∀ w, Tab w → EC 4 w → EC 5 w → Calls Tryd.prog 28 #[.string s] w fun e w' => e = .returned (.tuple #[.agg #[.string ⟨#[]⟩, .string ⟨#[]⟩, .int .i64 0, .int .i64 0], .int .i64 (prs s).e]) ∧ Below w.heap.size w w' := fun w a b c => by
            have h3 := hP w a b c
            rw [show (prs s).f = ⟨#[]⟩ by rw [h1]; rfl, show (prs s).t = ⟨#[]⟩ by rw [h1]; rfl, show (prs s).n = 0 by rw [h1]; rfl, show (prs s).d = 0 by rw [h1]; rfl] at h3
            exact h3
          exact w10 f t n d s _ 0 _ _ _ _ ⟨#[]⟩ ⟨#[]⟩ 0 0 (prs s).e w hT h4 h5 c0' SM CK FM P1 I1 I2 RD h2 he (by rw [bne, he]; rfl)
        · obtain ⟨b1, b2, b3, b4⟩ := prs_back s he
          have h0 : (prs s).e = 0 := by simpa using he
          have FB : ∀ w, Tab w → _ := fun w h => format_ok (prs s).f (prs s).t (prs s).n (prs s).d w b3 b4 b1 h
          rw [b2] at FB
          unfold rt at FB
          have h2 : ∀ w, Tab w → EC 4 w → EC 5 w → Calls Tryd.prog 28 #[.string s] w fun e w' => e = .returned (.tuple #[.agg #[.string (prs s).f, .string (prs s).t, .int .i64 (prs s).n, .int .i64 (prs s).d], .int .i64 0]) ∧ Below w.heap.size w w' := fun w a b c => by
            have h3 := hP w a b c
            rw [h0] at h3
            exact h3
          exact w11 f t n d s _ 0 _ _ _ _ _ _ _ _ 0 w hT h4 h5 c0' SM CK FM P1 I1 I2 RD h2 FB
      · have FM : ∀ w, Tab w → _ := fun w _ => format_no f t n d w hf ht hc
        unfold rt at *
        cases he : ((prs s).e == 0)
        · have h1 := prs_err s he
          have h2 : ∀ w, Tab w → EC 4 w → EC 5 w → Calls Tryd.prog 28 #[.string s] w fun e w' => e = .returned (.tuple #[.agg #[.string ⟨#[]⟩, .string ⟨#[]⟩, .int .i64 0, .int .i64 0], .int .i64 (prs s).e]) ∧ Below w.heap.size w w' := fun w a b c => by
            have h3 := hP w a b c
            rw [show (prs s).f = ⟨#[]⟩ by rw [h1]; rfl, show (prs s).t = ⟨#[]⟩ by rw [h1]; rfl, show (prs s).n = 0 by rw [h1]; rfl, show (prs s).d = 0 by rw [h1]; rfl] at h3
            exact h3
          exact w00 f t n d s _ (chkR f t n d) 0 0 0 0 ⟨#[]⟩ ⟨#[]⟩ 0 0 (prs s).e w hT h4 h5 c0' SM CK FM (size_zero_list rfl) (bne_iff_ne.2 hc) (beq_eq_false_iff_ne.2 hc) h2 he (by rw [bne, he]; rfl)
        · obtain ⟨b1, b2, b3, b4⟩ := prs_back s he
          have h0 : (prs s).e = 0 := by simpa using he
          have FB : ∀ w, Tab w → _ := fun w h => format_ok (prs s).f (prs s).t (prs s).n (prs s).d w b3 b4 b1 h
          rw [b2] at FB
          unfold rt at FB
          have h2 : ∀ w, Tab w → EC 4 w → EC 5 w → Calls Tryd.prog 28 #[.string s] w fun e w' => e = .returned (.tuple #[.agg #[.string (prs s).f, .string (prs s).t, .int .i64 (prs s).n, .int .i64 (prs s).d], .int .i64 0]) ∧ Below w.heap.size w w' := fun w a b c => by
            have h3 := hP w a b c
            rw [h0] at h3
            exact h3
          exact w01 f t n d s _ (chkR f t n d) 0 0 0 0 _ _ _ _ 0 w hT h4 h5 c0' SM CK FM (size_zero_list rfl) (bne_iff_ne.2 hc) (beq_eq_false_iff_ne.2 hc) h2 FB
end rateTexts
end Go.Proofs.YtpabgmdgoghahaaDoor
