/- Encode. -/
import Derived.Test.YtfiingnanofneaaDoorF
set_option linter.unusedVariables false
set_option linter.unusedSimpArgs false
namespace Go.Proofs.YtfiingnanofneaaDoor
open Go.Sort Go.ChangeShapes Go.WideShapes Go.ChangeAt Go.RowKit
def encS (a b : Nat) : ByteArray := if b = 0 then hex16 (a % B63) else hex16 (a % B63 ||| B63) ++ hex16 b
theorem blk_upd2 {wr : World} {g t : Nat} {x y : Value} (u v : Value) (h : Blk wr g t #[x, y]) : Blk ((wr.setCell ⟨g, 0, none⟩ u).setCell ⟨g, 1, none⟩ v) g t #[u, v] := by
  simpa using (h.set_ 0 u).set_ 1 v
theorem below_upd2 {w wr : World} {g : Nat} (u v : Value) (h : Below w.heap.size w wr) (hg : w.heap.size ≤ g) : Below w.heap.size w ((wr.setCell ⟨g, 0, none⟩ u).setCell ⟨g, 1, none⟩ v) :=
  (h.setCell (p := ⟨g, 0, none⟩) hg u).setCell (p := ⟨g, 1, none⟩) hg v
def Tab (w : World) : Prop := w.cell? ⟨4, 15, none⟩ = some (.int .u8 4)
theorem Tab.call {w w1 : World} (h : Tab w) (hb : Below w.heap.size w w1) : Tab w1 := (hb.cell (p := ⟨4, 15, none⟩) (block_lt_of_cell h)).trans h
theorem Tab.alloc {w : World} (h : Tab w) (o : Obj) : Tab (w.alloc o) := cell_alloc h o
theorem Tab.re {w : World} (h : Tab w) (d : Nat) (os : Array Obj) : Tab (grow (redrawn w d) os) := cell_regrown h d os
theorem or63 (a : Nat) (ha : a < B64) : bits .or .u64 (a : Int) 9223372036854775808 = ((a ||| B63 : Nat) : Int) := by
  rw [show (9223372036854775808 : Int) = ((9223372036854775808 : Nat) : Int) from rfl, u64_or_nat a _ ha (by decide)]
set_option maxHeartbeats 1000000 in
theorem enc_any (a b : Nat) (ha : a < B64) (hb : b < B64) (w : World) (h : Tab w) :
    Calls Tryd.prog 29 #[bm a b] w fun e w' => e = .returned (.string (encS a b)) ∧ Below w.heap.size w w' := by
  have HT := Lib.hid h
  have HN : Hid (∀ w, _) := Lib.hid (fun w => numbers_any a b ha w)
  have hu : a % B63 < B64 := Nat.lt_trans (Nat.mod_lt _ (by decide)) (by decide)
  unfold encS
  generalize a % B63 = u at *
  have HX : Hid (∀ (x : Nat) (W : World), x < B64 → Tab W → _) := Lib.hid (fun x W hx hW => hex_any x hx W hW)
  have HO := Lib.hid (or63 u hu)
  have hor : u ||| B63 < B64 := or_lt hu (by decide)
  have HOR := Lib.hid hor
  clear h hor
  unfold bm at *
  go_enter Tryd.func29, Tryd.ntmps29
  go_wp2_with fail
  refine (HN.out _).mono ?_
  rintro e w1 ⟨rfl, hb1⟩
  have hk1 := (Blk.new w 24 #[.int .u64 a, .int .u64 b]).call hb1
  have HK1 := Lib.hid hk1
  have HB1 := Lib.hid (below_call (al (o := .cells #[.int .u64 a, .int .u64 b] 24) (Below.refl _ w)) hb1)
  have HT1 := Lib.hid ((HT.out.alloc _).call hb1)
  obtain ⟨c0, c1, f0, f1, hl⟩ := cell2 hk1
  clear hk1 hb1
  have HB2 := Lib.hid (below_upd2 (.int .u64 (u : Nat)) (.int .u64 (b : Nat)) HB1.out (Nat.le_refl _))
  have HK2 := Lib.hid (blk_upd2 (.int .u64 (u : Nat)) (.int .u64 (b : Nat)) HK1.out)
  have HT2 := Lib.hid (HT.out.call HB2.out)
  by_cases hz : b = 0
  · subst hz
    go_wp2_with fail
    refine (HX.out u _ hu HT2.out).mono ?_
    rintro e w2 ⟨rfl, hb2⟩
    have HB3 := Lib.hid (below_call HB2.out hb2)
    clear hb2
    go_wp2_with fail
    go_ret
    exact ⟨rfl, HB3.out⟩
  · have hz' : ((b : Int) == 0) = false := by rw [show (0 : Int) = ((0 : Nat) : Int) from rfl, cast_beq]; simpa using hz
    go_wp2_with fail
    generalize (w1.setCell ⟨w.heap.size, 0, none⟩ (.int .u64 (u : Nat))).setCell ⟨w.heap.size, 1, none⟩ (.int .u64 (b : Nat)) = W at *
    have hX := fun (x : Nat) (hx : x < B64) d os => HX.out x (grow (redrawn W d) os) hx (HT2.out.re d os)
    have HXX := Lib.hid hX
    have hO := HO.out
    have q0 : ∀ d os, (grow (redrawn W d) os).cell? ⟨w.heap.size, 0, none⟩ = some (.int .u64 (u : Nat)) := fun d os => cell_regrown ((cell2 HK2.out).1) d os
    have q1 : ∀ d os, (grow (redrawn W d) os).cell? ⟨w.heap.size, 1, none⟩ = some (.int .u64 (b : Nat)) := fun d os => cell_regrown ((cell2 HK2.out).2.1) d os
    have hsz : ∀ x, (hex16 x).size = 16 := fun x => by unfold hex16; rw [size_mk, hp_len]; rfl
    clear hX c0 c1 f0 f1 hl
    refine wp_region_quiet_below (by kernel_rfl) (by kernel_rfl) ?_
    iterate 5 (first | go_big_quiet_step (exact Calls.regrown_of (HXX.out _ HOR.out _ _)) | quiet_step (exact Calls.regrown_of (HXX.out _ HOR.out _ _)))
    iterate 4 (first | go_big_quiet_step (exact Calls.regrown_of (HXX.out b hb _ _)) | quiet_step (exact Calls.regrown_of (HXX.out b hb _ _)))
    refine wpQuiet_nil ?_
    intro _ hw'
    obtain ⟨⟨dq, osq⟩, hw''⟩ := hw'
    subst hw''
    go_wp2_with fail
    go_ret
    exact ⟨rfl, bre HB2.out _ _⟩
abbrev smp : Value := .agg #[.int .u64 4611686018427387904, .int .u64 9223372036854775808]
theorem ofR_s : ofR [65, 2] = .tuple #[smp, .int .i64 0] := by
  unfold ofR
  rw [if_pos (show okZ [65, 2] = true from by decide +kernel), show foldO [65, 2] = (4611686018427387904, 9223372036854775808) from by decide +kernel]
  rfl
theorem enc_s (w : World) (h : Tab w) : Calls Tryd.prog 29 #[smp] w fun e w' => e = .returned (.string ⟨#[99, 48, 48, 48, 48, 48, 48, 48, 48, 48, 48, 48, 48, 48, 48, 48, 56, 48, 48, 48, 48, 48, 48, 48, 48, 48, 48, 48, 48, 48, 48, 48]⟩) ∧ Below w.heap.size w w' :=
  (enc_any 4611686018427387904 9223372036854775808 (by decide) (by decide) w h).mono fun e w' ⟨he, hb⟩ => ⟨he.trans (by rw [show encS 4611686018427387904 9223372036854775808 = ⟨#[99, 48, 48, 48, 48, 48, 48, 48, 48, 48, 48, 48, 48, 48, 48, 48, 56, 48, 48, 48, 48, 48, 48, 48, 48, 48, 48, 48, 48, 48, 48, 48]⟩ from by decide +kernel]), hb⟩
theorem has_s65 (w : World) : Calls Tryd.prog 13 #[smp, .int .i64 65] w fun e w' => e = .returned (.bool true) ∧ Below w.heap.size w w' :=
  (has_ok 4611686018427387904 9223372036854775808 65 (by decide) (by decide) (by decide) (by decide) w).mono fun e w' ⟨he, hb⟩ => ⟨he.trans (by rw [show hasB 4611686018427387904 9223372036854775808 65 = true from by decide +kernel]), hb⟩
theorem has_s3 (w : World) : Calls Tryd.prog 13 #[smp, .int .i64 3] w fun e w' => e = .returned (.bool false) ∧ Below w.heap.size w w' :=
  (has_ok 4611686018427387904 9223372036854775808 3 (by decide) (by decide) (by decide) (by decide) w).mono fun e w' ⟨he, hb⟩ => ⟨he.trans (by rw [show hasB 4611686018427387904 9223372036854775808 3 = false from by decide +kernel]), hb⟩
theorem ints_lit2 (w : World) (x y : Int) : Ints (w.alloc (.cells #[.int .i64 x, .int .i64 y] 3)) (some ⟨w.heap.size, 0, none⟩) 2 2 [x, y] := by
  refine ⟨rfl, Nat.le_refl _, by decide, fun i hi => ⟨w.heap.size, 0, rfl, by simp, ?_⟩⟩
  have h := Blk.new w 3 #[.int .i64 x, .int .i64 y]
  rw [Nat.zero_add, h.cell]
  match i, hi with
  | 0, _ => rfl
  | 1, _ => rfl
set_option maxHeartbeats 1000000 in
theorem awake_any (w : World) (h : Tab w) : Calls Tryd.prog 20 #[] w fun e w' => e = .returned (.bool true) ∧ Below w.heap.size w w' := by
  have HT := Lib.hid h
  clear h
  go_enter Tryd.func20, Tryd.ntmps20
  go_wp2_with fail
  refine (of_any _ _ _ _ _ (ints_lit2 w 65 2)).mono ?_
  rintro e w1 ⟨rfl, hb1⟩
  rw [ofR_s]
  have HB1 := Lib.hid (below_call (al (o := .cells #[.int .i64 65, .int .i64 2] 3) (Below.refl _ w)) hb1)
  clear hb1
  have HK1 := Lib.hid (Blk.new w1 24 #[.int .u64 4611686018427387904, .int .u64 9223372036854775808])
  have HT1 := Lib.hid ((HT.out.call HB1.out).alloc (.cells #[.int .u64 4611686018427387904, .int .u64 9223372036854775808] 24))
  have HB1' := Lib.hid (al (o := .cells #[.int .u64 4611686018427387904, .int .u64 9223372036854775808] 24) HB1.out)
  go_wp2_with fail
  refine (enc_s _ HT1.out).mono ?_
  rintro e w2 ⟨rfl, hb2⟩
  have HB2 := Lib.hid (below_call HB1'.out hb2)
  have HK2 := Lib.hid (HK1.out.call hb2)
  obtain ⟨c0, c1, f0, f1, hl⟩ := cell2 HK2.out
  clear hb2
  go_wp2_with fail
  refine (has_s65 _).mono ?_
  rintro e w3 ⟨rfl, hb3⟩
  have HB3 := Lib.hid (below_call HB2.out hb3)
  have HK3 := Lib.hid (HK2.out.call hb3)
  clear hb3 c0 c1 f0 f1 hl
  obtain ⟨c0, c1, f0, f1, hl⟩ := cell2 HK3.out
  go_wp2_with fail
  refine (has_s3 _).mono ?_
  rintro e w4 ⟨rfl, hb4⟩
  have HB4 := Lib.hid (below_call HB3.out hb4)
  clear hb4
  go_wp2_with fail
  go_ret
  exact ⟨rfl, HB4.out⟩
end Go.Proofs.YtfiingnanofneaaDoor
