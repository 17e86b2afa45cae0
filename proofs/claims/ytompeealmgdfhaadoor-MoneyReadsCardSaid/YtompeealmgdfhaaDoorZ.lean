/- The example of the chapter. -/
import Derived.Test.YtompeealmgdfhaaDoorY
import Derived.Deep.RegionHeld3
import Derived.Deep.DeepCutAuto
set_option linter.unusedVariables false
set_option linter.unusedSimpArgs false
namespace Go.Proofs.YtompeealmgdfhaaDoor
open Go.Sort Go.ChangeShapes Go.WideShapes Go.ChangeAt Go.RowKit
open div
theorem bre2 {w W w1 : World} {B : Nat} (h : Below B w W) (hB : B ≤ w.heap.size) (hb : Below W.heap.size W w1) : Below B w w1 := h.trans (hb.mono (Nat.le_trans hB h.size))
theorem same_ex (l m : Nat) (w : World) (hl : Blk w l 23 #[.int .i64 34, .string usdB, .int .i64 33, .string usdB, .int .i64 33, .string usdB]) (hm : Blk w m 23 #[.int .i64 34, .string usdB, .int .i64 33, .string usdB, .int .i64 33, .string usdB]) :
    Calls Tryd.prog 23 #[.slice (some ⟨l, 0, none⟩) 3 3, .slice (some ⟨m, 0, none⟩) 3 3] w fun e w' => e = .returned (.bool true) ∧ Below w.heap.size w w' := by
  have HL := Lib.hid hl
  have HM := Lib.hid hm
  clear hl hm
  go_enter Tryd.func23, Tryd.ntmps23
  go_wp2_with fail
  refine wp_loop_rounds 4 ?_
  rw [rounds_succ]
  have a0 := (HL.out.cell 0).trans (show _ = some (Value.int .i64 34) from rfl)
  have b0 := (HL.out.cell 1).trans (show _ = some (Value.string usdB) from rfl)
  have c0 := (HM.out.cell 0).trans (show _ = some (Value.int .i64 34) from rfl)
  have e0 := (HM.out.cell 1).trans (show _ = some (Value.string usdB) from rfl)
  go_wp2_with fail
  go_quiet (fail)
  go_wp2_with fail
  have HB := Lib.hid (bdn (Below.refl w.heap.size w) nq)
  replace HL := Lib.hid (HL.out.call (bdn (Below.refl _ _) nq))
  replace HM := Lib.hid (HM.out.call (bdn (Below.refl _ _) nq))
  generalize World.drewN w nq = V1 at *
  clear a0 b0 c0 e0
  rw [rounds_succ]
  have a1 := (HL.out.cell 2).trans (show _ = some (Value.int .i64 33) from rfl)
  have b1 := (HL.out.cell 3).trans (show _ = some (Value.string usdB) from rfl)
  have c1 := (HM.out.cell 2).trans (show _ = some (Value.int .i64 33) from rfl)
  have e1 := (HM.out.cell 3).trans (show _ = some (Value.string usdB) from rfl)
  go_wp2_with fail
  go_quiet (fail)
  go_wp2_with fail
  replace HB := Lib.hid (bdn HB.out nq)
  replace HL := Lib.hid (HL.out.call (bdn (Below.refl _ _) nq))
  replace HM := Lib.hid (HM.out.call (bdn (Below.refl _ _) nq))
  generalize World.drewN V1 nq = V2 at *
  clear a1 b1 c1 e1
  rw [rounds_succ]
  have a2 := (HL.out.cell 4).trans (show _ = some (Value.int .i64 33) from rfl)
  have b2 := (HL.out.cell 5).trans (show _ = some (Value.string usdB) from rfl)
  have c2 := (HM.out.cell 4).trans (show _ = some (Value.int .i64 33) from rfl)
  have e2 := (HM.out.cell 5).trans (show _ = some (Value.string usdB) from rfl)
  go_wp2_with fail
  go_quiet (fail)
  go_wp2_with fail
  replace HB := Lib.hid (bdn HB.out nq)
  replace HL := Lib.hid (HL.out.call (bdn (Below.refl _ _) nq))
  replace HM := Lib.hid (HM.out.call (bdn (Below.refl _ _) nq))
  generalize World.drewN V2 nq = V3 at *
  clear a2 b2 c2 e2
  rw [rounds_succ]
  go_wp2_with fail
  go_ret
  exact ⟨rfl, HB.out⟩
def eurB : ByteArray := ⟨#[69, 85, 82]⟩
def bhdB : ByteArray := ⟨#[66, 72, 68]⟩
def fmtB : ByteArray := ⟨#[48, 46, 48, 48, 53, 32, 66, 72, 68]⟩
theorem itoa5 : Lib.itoa (5 : Int) = [53] := by
  rw [show (5 : Int) = ((5 : Nat) : Int) from rfl, itoa_nat, Lib.decDigits, dif_pos (by decide)]; rfl
theorem fmt_ex : fmtS 5 bhdB (exV bhdB).toNat = fmtB := by
  rw [show (exV bhdB).toNat = 3 from by decide +kernel]
  unfold fmtS fm2 digS
  rw [show (((5 : Int).natAbs : Nat) : Int) = 5 from rfl, itoa5]
  decide +kernel
theorem mchk_usd (n : Int) (h0 : -4503599627370496 ≤ n) (h1 : n ≤ 4503599627370496) : mchk n usdB = 0 := by
  rw [mchk_of (by decide), if_pos ⟨h0, h1⟩]
theorem sc1 (w : World) : Calls Tryd.prog 19 #[mo 1001 usdB, .int .i64 1, .int .i64 2, .int .i64 3] w fun e w' => e = .returned (.tuple #[mo 501 usdB, .int .i64 0]) ∧ Below w.heap.size w w' := by
  have h := scale_all 1001 usdB 1 2 3 w (by decide) (mchk_usd _ (by decide) (by decide)) (by unfold prm; decide)
  rw [if_pos (by decide), show sg2 1001 1 (rndQ 1001 (1 : Int).natAbs 2 3) = 501 from by decide] at h
  exact h
theorem sc2 (w : World) : Calls Tryd.prog 19 #[mo 1001 usdB, .int .i64 1, .int .i64 2, .int .i64 4] w fun e w' => e = .returned (.tuple #[mo 500 usdB, .int .i64 0]) ∧ Below w.heap.size w w' := by
  have h := scale_all 1001 usdB 1 2 4 w (by decide) (mchk_usd _ (by decide) (by decide)) (by unfold prm; decide)
  rw [if_pos (by decide), show sg2 1001 1 (rndQ 1001 (1 : Int).natAbs 2 4) = 500 from by decide] at h
  exact h
theorem sc3 (w : World) : Calls Tryd.prog 19 #[mo (-1001) usdB, .int .i64 1, .int .i64 2, .int .i64 1] w fun e w' => e = .returned (.tuple #[mo (-500) usdB, .int .i64 0]) ∧ Below w.heap.size w w' := by
  have h := scale_all (-1001) usdB 1 2 1 w (by decide) (mchk_usd _ (by decide) (by decide)) (by unfold prm; decide)
  rw [if_pos (by decide), show sg2 (-1001) 1 (rndQ (-1001) (1 : Int).natAbs 2 1) = -500 from by decide] at h
  exact h
theorem add_ex (w : World) : Calls Tryd.prog 10 #[mo 1 usdB, mo 0 eurB] w fun e w' => e = .returned (.tuple #[mo0, .int .i64 11]) ∧ Below w.heap.size w w' := by
  have h := add_any 1 0 usdB eurB (by decide) (by decide) w
  have e : chk2 (mchk 1 usdB) (mchk 0 eurB) usdB eurB = 11 := by
    unfold chk2
    rw [show mchk 1 usdB = 0 from by decide, show mchk 0 eurB = 0 from by decide, if_pos (by decide), if_pos (by decide), if_neg]
    intro h
    exact absurd (toList_inj (by simpa using h)) (by decide)
  rw [e] at h
  rw [show adV 11 (1 + 0) usdB = mo0 from rfl, show adE 11 (1 + 0) = 11 from rfl] at h
  exact h
theorem split_in (g c : Nat) (t : TypeId) (w : World) (h : Blk w g t #[.int .i64 1, .int .i64 1, .int .i64 1]) :
    Calls Tryd.prog 21 #[mo 100 usdB, .slice (some ⟨g, 0, none⟩) 3 c] w fun e w' => (∃ l, e = .returned (.tuple #[.slice (some ⟨l, 0, none⟩) 3 3, .int .i64 0]) ∧ Blk w' l 23 #[.int .i64 34, .string usdB, .int .i64 33, .string usdB, .int .i64 33, .string usdB]) ∧ Below w.heap.size w w' :=
  split_3 g c w h.lt (fun i hi => by
    rw [h.cell]
    have : i = 0 ∨ i = 1 ∨ i = 2 := by omega
    rcases this with rfl | rfl | rfl <;> rfl)
theorem fmt_any_ex (w : World) (hX : XT w) (hP : TabP w) : Calls Tryd.prog 27 #[.agg #[.int .i64 5, .string bhdB]] w fun e w' => e = .returned (.string fmtB) ∧ Below w.heap.size w w' := by
  have h := fmt_yes 5 bhdB (by decide) (by decide) w hX hP
  rw [fmt_ex] at h
  exact h
abbrev S9 (w : World) (g2 g4 g6 g9 l : Nat) (w' : World) : Prop :=
  w'.cell? ⟨g2, 0, none⟩ = some (.int .i64 501) ∧ w'.cell? ⟨g2, 1, none⟩ = some (.string usdB) ∧ w'.cell? ⟨g4, 0, none⟩ = some (.int .i64 500) ∧ w'.cell? ⟨g4, 1, none⟩ = some (.string usdB) ∧ w'.cell? ⟨g6, 0, none⟩ = some (.int .i64 (-500)) ∧ w'.cell? ⟨g6, 1, none⟩ = some (.string usdB) ∧ w'.cell? ⟨g9, 0, none⟩ = some (.int .i64 (-1234)) ∧ w'.cell? ⟨g9, 1, none⟩ = some (.string usdB) ∧ Blk w' l 23 #[.int .i64 34, .string usdB, .int .i64 33, .string usdB, .int .i64 33, .string usdB] ∧ XT w' ∧ TabP w' ∧ Below w.heap.size w w'
theorem cell_call {W w1 : World} {p : Addr} {v : Value} (h : W.cell? p = some v) (hb : Below W.heap.size W w1) : w1.cell? p = some v := (hb.cell (block_lt_of_cell h)).trans h
theorem S9.call {w W w1 : World} {g2 g4 g6 g9 l : Nat} (h : S9 w g2 g4 g6 g9 l W) (hb : Below W.heap.size W w1) : S9 w g2 g4 g6 g9 l w1 := by
  obtain ⟨h1, h2, h3, h4, h5, h6, h7, h8, h9, ha, hp, hw⟩ := h
  exact ⟨cell_call h1 hb, cell_call h2 hb, cell_call h3 hb, cell_call h4 hb, cell_call h5 hb, cell_call h6 hb, cell_call h7 hb, cell_call h8 hb, h9.call hb, ha.call hb, hp.call hb, below_call hw hb⟩
theorem S9.drew {w W : World} {g2 g4 g6 g9 l : Nat} (h : S9 w g2 g4 g6 g9 l W) : S9 w g2 g4 g6 g9 l W.drew := S9.call h (Below.drew (Below.refl _ _))
theorem S9.al_ {w W : World} {o : Obj} {g2 g4 g6 g9 l : Nat} (h : S9 w g2 g4 g6 g9 l W) : S9 w g2 g4 g6 g9 l (W.alloc o) := S9.call h (al (Below.refl _ _))
theorem S9.lst {w W : World} {g2 g4 g6 g9 l : Nat} (h : S9 w g2 g4 g6 g9 l W) : Blk W l 23 #[.int .i64 34, .string usdB, .int .i64 33, .string usdB, .int .i64 33, .string usdB] := h.2.2.2.2.2.2.2.2.1
theorem S9.xt {w W : World} {g2 g4 g6 g9 l : Nat} (h : S9 w g2 g4 g6 g9 l W) : XT W := h.2.2.2.2.2.2.2.2.2.1
theorem S9.tp {w W : World} {g2 g4 g6 g9 l : Nat} (h : S9 w g2 g4 g6 g9 l W) : TabP W := h.2.2.2.2.2.2.2.2.2.2.1
theorem S9.bel {w W : World} {g2 g4 g6 g9 l : Nat} (h : S9 w g2 g4 g6 g9 l W) : Below w.heap.size w W := h.2.2.2.2.2.2.2.2.2.2.2
set_option maxHeartbeats 8000000 in
set_option maxRecDepth 100000 in
theorem awake_any (w : World) (hX : XT w) (hP : TabP w) : Calls Tryd.prog 18 #[] w fun e w' => e = .returned (.bool true) ∧ Below w.heap.size w w' := by
  have U := Lib.hid usd_any
  have C1 := Lib.hid sc1
  have C2 := Lib.hid sc2
  have C3 := Lib.hid sc3
  have SP := Lib.hid split_in
  have PA := Lib.hid p1_ex
  have PB := Lib.hid p2_ex
  have AD := Lib.hid add_ex
  unfold mo0 at *
  unfold mo at *
  unfold eurB at *
  have HX := Lib.hid hX
  have HP := Lib.hid hP
  clear hX hP
  go_enter Tryd.func18, Tryd.ntmps18
  go_wp2_with fail
  refine (U.out 1001 _).mono ?_
  rintro e v1 ⟨rfl, hb⟩
  have HB1 := Lib.hid (bre2 (Below.refl w.heap.size w) (Nat.le_refl _) hb)
  clear hb
  go_wp2_with fail
  refine (C1.out _).mono ?_
  rintro e v2 ⟨rfl, hb⟩
  have HB2 := Lib.hid (bre2 HB1.out (Nat.le_refl _) hb)
  clear hb
  go_wp2_with fail
  have K2 := Lib.hid (Blk.new v2 23 #[.int .i64 501, .string usdB])
  refine (U.out 1001 _).mono ?_
  rintro e v3 ⟨rfl, hb⟩
  replace K2 := Lib.hid (K2.out.call hb)
  have HB3 := Lib.hid (bre2 (al HB2.out) (Nat.le_refl _) hb)
  clear hb
  go_wp2_with fail
  refine (C2.out _).mono ?_
  rintro e v4 ⟨rfl, hb⟩
  replace K2 := Lib.hid (K2.out.call hb)
  have HB4 := Lib.hid (bre2 HB3.out (Nat.le_refl _) hb)
  clear hb
  go_wp2_with fail
  have K4 := Lib.hid (Blk.new v4 23 #[.int .i64 500, .string usdB])
  replace K2 := Lib.hid (K2.out.alloc (.cells #[.int .i64 500, .string usdB] 23))
  refine (U.out (-1001) _).mono ?_
  rintro e v5 ⟨rfl, hb⟩
  replace K2 := Lib.hid (K2.out.call hb)
  replace K4 := Lib.hid (K4.out.call hb)
  have HB5 := Lib.hid (bre2 (al HB4.out) (Nat.le_refl _) hb)
  clear hb
  go_wp2_with fail
  refine (C3.out _).mono ?_
  rintro e v6 ⟨rfl, hb⟩
  replace K2 := Lib.hid (K2.out.call hb)
  replace K4 := Lib.hid (K4.out.call hb)
  have HB6 := Lib.hid (bre2 HB5.out (Nat.le_refl _) hb)
  clear hb
  go_wp2_with fail
  have K6 := Lib.hid (Blk.new v6 23 #[.int .i64 (-500), .string usdB])
  replace K2 := Lib.hid (K2.out.alloc (.cells #[.int .i64 (-500), .string usdB] 23))
  replace K4 := Lib.hid (K4.out.alloc (.cells #[.int .i64 (-500), .string usdB] 23))
  refine (U.out 100 _).mono ?_
  rintro e v7 ⟨rfl, hb⟩
  replace K2 := Lib.hid (K2.out.call hb)
  replace K4 := Lib.hid (K4.out.call hb)
  replace K6 := Lib.hid (K6.out.call hb)
  have HB7 := Lib.hid (bre2 (al HB6.out) (Nat.le_refl _) hb)
  clear hb
  go_wp2_with fail
  replace K2 := Lib.hid (K2.out.alloc (.cells #[.int .i64 1, .int .i64 1, .int .i64 1] 2))
  replace K4 := Lib.hid (K4.out.alloc (.cells #[.int .i64 1, .int .i64 1, .int .i64 1] 2))
  replace K6 := Lib.hid (K6.out.alloc (.cells #[.int .i64 1, .int .i64 1, .int .i64 1] 2))
  refine (SP.out _ _ _ _ (Blk.new _ _ _)).mono ?_
  rintro e v8 ⟨⟨l, rfl, hl⟩, hb⟩
  replace K2 := Lib.hid (K2.out.call hb)
  replace K4 := Lib.hid (K4.out.call hb)
  replace K6 := Lib.hid (K6.out.call hb)
  have KL := Lib.hid hl
  clear hl
  have HB8 := Lib.hid (bre2 (al HB7.out) (Nat.le_refl _) hb)
  clear hb
  go_wp2_with fail
  refine (PA.out _ (HX.out.call HB8.out)).mono ?_
  rintro e v9 ⟨rfl, hb⟩
  replace K2 := Lib.hid (K2.out.call hb)
  replace K4 := Lib.hid (K4.out.call hb)
  replace K6 := Lib.hid (K6.out.call hb)
  replace KL := Lib.hid (KL.out.call hb)
  have HB9 := Lib.hid (bre2 HB8.out (Nat.le_refl _) hb)
  clear hb
  go_wp2_with fail
  have K9 := Lib.hid (Blk.new v9 23 #[.int .i64 (-1234), .string usdB])
  replace K2 := Lib.hid (K2.out.alloc (.cells #[.int .i64 (-1234), .string usdB] 23))
  replace K4 := Lib.hid (K4.out.alloc (.cells #[.int .i64 (-1234), .string usdB] 23))
  replace K6 := Lib.hid (K6.out.alloc (.cells #[.int .i64 (-1234), .string usdB] 23))
  replace KL := Lib.hid (KL.out.alloc (.cells #[.int .i64 (-1234), .string usdB] 23))
  refine (U.out 1 _).mono ?_
  rintro e v10 ⟨rfl, hb⟩
  replace K2 := Lib.hid (K2.out.call hb)
  replace K4 := Lib.hid (K4.out.call hb)
  replace K6 := Lib.hid (K6.out.call hb)
  replace KL := Lib.hid (KL.out.call hb)
  replace K9 := Lib.hid (K9.out.call hb)
  have HB10 := Lib.hid (bre2 (al HB9.out) (Nat.le_refl _) hb)
  clear hb
  go_wp2_with fail
  refine (AD.out _).mono ?_
  rintro e v11 ⟨rfl, hb⟩
  replace K2 := Lib.hid (K2.out.call hb)
  replace K4 := Lib.hid (K4.out.call hb)
  replace K6 := Lib.hid (K6.out.call hb)
  replace KL := Lib.hid (KL.out.call hb)
  replace K9 := Lib.hid (K9.out.call hb)
  have HB11 := Lib.hid (bre2 HB10.out (Nat.le_refl _) hb)
  clear hb
  go_wp2_with fail
  have K11 := Lib.hid (Blk.new v11 23 #[.int .i64 0, .string ⟨#[]⟩])
  replace K2 := Lib.hid (K2.out.alloc (.cells #[.int .i64 0, .string ⟨#[]⟩] 23))
  replace K4 := Lib.hid (K4.out.alloc (.cells #[.int .i64 0, .string ⟨#[]⟩] 23))
  replace K6 := Lib.hid (K6.out.alloc (.cells #[.int .i64 0, .string ⟨#[]⟩] 23))
  replace KL := Lib.hid (KL.out.alloc (.cells #[.int .i64 0, .string ⟨#[]⟩] 23))
  replace K9 := Lib.hid (K9.out.alloc (.cells #[.int .i64 0, .string ⟨#[]⟩] 23))
  refine (PB.out _ (HX.out.call (al HB11.out))).mono ?_
  rintro e v12 ⟨rfl, hb⟩
  replace K2 := Lib.hid (K2.out.call hb)
  replace K4 := Lib.hid (K4.out.call hb)
  replace K6 := Lib.hid (K6.out.call hb)
  replace KL := Lib.hid (KL.out.call hb)
  replace K9 := Lib.hid (K9.out.call hb)
  replace K11 := Lib.hid (K11.out.call hb)
  have HB12 := Lib.hid (bre2 (al HB11.out) (Nat.le_refl _) hb)
  clear hb
  go_wp2_with fail
  have K12 := Lib.hid (Blk.new v12 23 #[.int .i64 0, .string ⟨#[]⟩])
  replace K2 := Lib.hid (K2.out.alloc (.cells #[.int .i64 0, .string ⟨#[]⟩] 23))
  replace K4 := Lib.hid (K4.out.alloc (.cells #[.int .i64 0, .string ⟨#[]⟩] 23))
  replace K6 := Lib.hid (K6.out.alloc (.cells #[.int .i64 0, .string ⟨#[]⟩] 23))
  replace KL := Lib.hid (KL.out.alloc (.cells #[.int .i64 0, .string ⟨#[]⟩] 23))
  replace K9 := Lib.hid (K9.out.alloc (.cells #[.int .i64 0, .string ⟨#[]⟩] 23))
  replace K11 := Lib.hid (K11.out.alloc (.cells #[.int .i64 0, .string ⟨#[]⟩] 23))
  have HW := Lib.hid (al (o := .cells #[.int .i64 0, .string ⟨#[]⟩] 23) HB12.out)
  have HXW := Lib.hid (HX.out.call HW.out)
  have HPW := Lib.hid (HP.out.call HW.out)
  have F1 := Lib.hid fmt_any_ex
  have SM := Lib.hid same_ex
  generalize v12.alloc (.cells #[.int .i64 0, .string ⟨#[]⟩] 23) = W at *
  have x1 := (K2.out.cell 0).trans (show _ = some (Value.int .i64 501) from rfl)
  have x2 := (K2.out.cell 1).trans (show _ = some (Value.string usdB) from rfl)
  have x3 := (K4.out.cell 0).trans (show _ = some (Value.int .i64 500) from rfl)
  have x4 := (K4.out.cell 1).trans (show _ = some (Value.string usdB) from rfl)
  have x5 := (K6.out.cell 0).trans (show _ = some (Value.int .i64 (-500)) from rfl)
  have x6 := (K6.out.cell 1).trans (show _ = some (Value.string usdB) from rfl)
  have x7 := (K9.out.cell 0).trans (show _ = some (Value.int .i64 (-1234)) from rfl)
  have x8 := (K9.out.cell 1).trans (show _ = some (Value.string usdB) from rfl)
  have hl := KL.out
  have hxw := HXW.out
  have hpw := HPW.out
  have hw := HW.out
  generalize v2.heap.size = g2 at *
  generalize v4.heap.size = g4 at *
  generalize v6.heap.size = g6 at *
  generalize v9.heap.size = g9 at *
  have S0 : S9 w g2 g4 g6 g9 l W := ⟨x1, x2, x3, x4, x5, x6, x7, x8, hl, hxw, hpw, hw⟩
  clear HX HP HXW HPW HW K2 K4 K6 K9 KL
  unfold bhdB fmtB at F1
  go_region_held3 (fun w' => w'.cell? ⟨g2, 0, none⟩ = some (.int .i64 501) ∧ w'.cell? ⟨g2, 1, none⟩ = some (.string usdB) ∧ w'.cell? ⟨g4, 0, none⟩ = some (.int .i64 500) ∧ w'.cell? ⟨g4, 1, none⟩ = some (.string usdB) ∧ w'.cell? ⟨g6, 0, none⟩ = some (.int .i64 (-500)) ∧ w'.cell? ⟨g6, 1, none⟩ = some (.string usdB) ∧ w'.cell? ⟨g9, 0, none⟩ = some (.int .i64 (-1234)) ∧ w'.cell? ⟨g9, 1, none⟩ = some (.string usdB) ∧ Blk w' l 23 #[.int .i64 34, .string usdB, .int .i64 33, .string usdB, .int .i64 33, .string usdB] ∧ XT w' ∧ TabP w' ∧ Below w.heap.size w w')
    (first | (exact S9.drew (by assumption)) | (exact S9.call (by assumption) (by assumption)) | (exact S9.al_ (by assumption)))
    (first
      | (go_at_call 24; refine (U.out _ _).mono ?_; rintro e u1 ⟨rfl, hu⟩)
      | (go_at_call 23; refine (SM.out _ _ _ (S9.lst (by assumption)) (Blk.new _ _ _)).mono ?_; rintro e u2 ⟨rfl, hu⟩)
      | (go_at_call 27; refine (F1.out _ (S9.xt (by assumption)) (S9.tp (by assumption))).mono ?_; rintro e u3 ⟨rfl, hu⟩))
  all_goals
    have hB : Below w.heap.size w u3 := S9.bel (by assumption)
    have HB := Lib.hid hB
    clear hB
    go_wp2_with fail
    go_ret
    exact ⟨rfl, HB.out⟩
end Go.Proofs.YtompeealmgdfhaaDoor
