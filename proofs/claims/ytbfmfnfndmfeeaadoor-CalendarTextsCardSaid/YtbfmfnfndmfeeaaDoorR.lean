/- Parse. -/
import Derived.Test.YtbfmfnfndmfeeaaDoorQ
import Derived.Deep.RegionHeld3
import Derived.Deep.DeepCutAuto
import Derived.Tactics2
set_option linter.unusedVariables false
set_option linter.unusedSimpArgs false
namespace Go.Proofs.YtbfmfnfndmfeeaaDoor
open Go.Sort Go.ChangeShapes Go.WideShapes Go.ChangeAt Go.RowKit
open cal
theorem parse_short (s : ByteArray) (h : s.size < 10) (w : World) :
    Calls Tryd.prog 20 #[.string s] w fun e w' => e = .returned (.tuple #[.int .i64 0, .int .i64 1]) ∧ Below w.heap.size w w' := by
  have h2 : (s.size : Int) < 10 := by omega
  go_enter Tryd.func20, Tryd.ntmps20
  go_wp2_with fail
  exact bodyPost_ret (v := .tuple #[.int .i64 0, .int .i64 1]) (by simp [results, Tryd.results20, go_sem]) rfl ⟨rfl, Below.refl _ _⟩
theorem parse_long (s : ByteArray) (h : 10 < s.size) (hm : s.size ≤ maxLen) (w : World) :
    Calls Tryd.prog 20 #[.string s] w fun e w' => e = .returned (.tuple #[.int .i64 0, .int .i64 3]) ∧ Below w.heap.size w w' := by
  have h2 : 10 < (s.size : Int) := by omega
  go_enter Tryd.func20, Tryd.ntmps20
  go_wp2_with fail
  exact bodyPost_ret (v := .tuple #[.int .i64 0, .int .i64 3]) (by simp [results, Tryd.results20, go_sem]) rfl ⟨rfl, Below.refl _ _⟩
theorem cut_a (b0 b1 b2 b3 b4 b5 b6 b7 b8 b9 : UInt8) : ∀ w : World, (Instr.slice 9 (.string ⟨#[b0, b1, b2, b3, b4, b5, b6, b7, b8, b9]⟩) none (some (.int .i64 4)) none).run Tryd.prog w = .ok (.string ⟨#[b0, b1, b2, b3]⟩) w := fun w => by kernel_rfl
theorem cut_b (b0 b1 b2 b3 b4 b5 b6 b7 b8 b9 : UInt8) : ∀ w : World, (Instr.slice 9 (.string ⟨#[b0, b1, b2, b3, b4, b5, b6, b7, b8, b9]⟩) (some (.int .i64 5)) (some (.int .i64 7)) none).run Tryd.prog w = .ok (.string ⟨#[b5, b6]⟩) w := fun w => by kernel_rfl
theorem cut_c (b0 b1 b2 b3 b4 b5 b6 b7 b8 b9 : UInt8) : ∀ w : World, (Instr.slice 9 (.string ⟨#[b0, b1, b2, b3, b4, b5, b6, b7, b8, b9]⟩) (some (.int .i64 8)) none none).run Tryd.prog w = .ok (.string ⟨#[b8, b9]⟩) w := fun w => by kernel_rfl
set_option maxHeartbeats 4000000 in
set_option maxRecDepth 20000 in
theorem parse_ok (b0 b1 b2 b3 b4 b5 b6 b7 b8 b9 : UInt8) (h4 : b4 = 45) (h7 : b7 = 45) (g0 : dgt b0 = true) (g1 : dgt b1 = true) (g2 : dgt b2 = true) (g3 : dgt b3 = true) (g5 : dgt b5 = true) (g6 : dgt b6 = true) (g8 : dgt b8 = true) (g9 : dgt b9 = true) (w : World) (hT : Tab w) :
    Calls Tryd.prog 20 #[.string ⟨#[b0, b1, b2, b3, b4, b5, b6, b7, b8, b9]⟩] w fun e w' => e = .returned (.tuple #[.int .i64 (ofV (dv b0 * 1000 + dv b1 * 100 + dv b2 * 10 + dv b3) (dv b5 * 10 + dv b6) (dv b8 * 10 + dv b9)), .int .i64 (ofE (dv b0 * 1000 + dv b1 * 100 + dv b2 * 10 + dv b3) (dv b5 * 10 + dv b6) (dv b8 * 10 + dv b9))]) ∧ Below w.heap.size w w' := by
  subst h4
  subst h7
  have HT := Lib.hid hT
  have A1 : Hid (∀ w, _) := Lib.hid (fun w => atoi_call ⟨#[b0, b1, b2, b3]⟩ _ (show 4 ≤ 18 by decide) (atoi4 g0 g1 g2 g3) w)
  have A2 : Hid (∀ w, _) := Lib.hid (fun w => atoi_call ⟨#[b5, b6]⟩ _ (show 2 ≤ 18 by decide) (atoi2 g5 g6) w)
  have A3 : Hid (∀ w, _) := Lib.hid (fun w => atoi_call ⟨#[b8, b9]⟩ _ (show 2 ≤ 18 by decide) (atoi2 g8 g9) w)
  have DG : Hid (∀ w, _) := Lib.hid (fun w => isDigits_ok ⟨#[b0, b1, b2, b3, b5, b6, b8, b9]⟩ 8 rfl (by decide) (by decide) (fun i hi => by
    have : i = 0 ∨ i = 1 ∨ i = 2 ∨ i = 3 ∨ i = 4 ∨ i = 5 ∨ i = 6 ∨ i = 7 := by have : i < 8 := hi; omega
    rcases this with rfl | rfl | rfl | rfl | rfl | rfl | rfl | rfl <;> assumption) w)
  have OF : Hid (∀ w, Tab w → _) := Lib.hid (fun w h => of_any (dv b0 * 1000 + dv b1 * 100 + dv b2 * 10 + dv b3) (dv b5 * 10 + dv b6) (dv b8 * 10 + dv b9) w h)
  have x1 := cut_a b0 b1 b2 b3 45 b5 b6 45 b8 b9
  have x2 := cut_b b0 b1 b2 b3 45 b5 b6 45 b8 b9
  have x3 := cut_c b0 b1 b2 b3 45 b5 b6 45 b8 b9
  generalize dv b0 * 1000 + dv b1 * 100 + dv b2 * 10 + dv b3 = Y at *
  generalize dv b5 * 10 + dv b6 = M at *
  generalize dv b8 * 10 + dv b9 = D at *
  generalize ofV Y M D = V at *
  generalize ofE Y M D = E at *
  clear g0 g1 g2 g3 g5 g6 g8 g9 hT
  go_enter Tryd.func20, Tryd.ntmps20
  go_wp2_with fail
  have hB0 : Below w.heap.size w w := Below.refl _ _
  go_region_held3 (fun w' => Below w.heap.size w w')
    (first | exact Below.drew (by assumption) | exact beI (by assumption) (Nat.le_refl _) (by assumption))
    (first | (go_at_call 39; refine (DG.out _).mono ?_; rintro e w1 ⟨rfl, hb1⟩))
  have HB1 : Hid (Below w.heap.size w w1) := Lib.hid (by assumption)
  clear hb1 hB0
  go_wp2_with fail
  refine (A1.out _).mono ?_
  rintro e w2 ⟨rfl, hb⟩
  have HB2 := Lib.hid (beI HB1.out (Nat.le_refl _) hb)
  clear hb
  go_wp2_with fail
  refine (A2.out _).mono ?_
  rintro e w3 ⟨rfl, hb⟩
  have HB3 := Lib.hid (beI HB2.out (Nat.le_refl _) hb)
  clear hb
  go_wp2_with fail
  refine (A3.out _).mono ?_
  rintro e w4 ⟨rfl, hb⟩
  have HB4 := Lib.hid (beI HB3.out (Nat.le_refl _) hb)
  clear hb
  go_wp2_with fail
  refine (OF.out _ (HT.out.call HB4.out)).mono ?_
  rintro e w5 ⟨rfl, hb⟩
  have HB5 := Lib.hid (beI HB4.out (Nat.le_refl _) hb)
  clear hb
  go_wp2_with fail
  exact bodyPost_ret (v := .tuple #[.int .i64 _, .int .i64 _]) (by simp [results, Tryd.results20, go_sem]) rfl ⟨rfl, HB5.out⟩
theorem u8_ne {b : UInt8} (h : b ≠ 45) : ((b.toNat : Int) == 45) = false := by
  rw [beq_eq_false_iff_ne]
  intro e
  have e2 : b.toNat = (45 : UInt8).toNat := by show b.toNat = 45; omega
  exact h (UInt8.toNat_inj.1 e2)
/-- the eight bytes that must be digits -/
def allD (b0 b1 b2 b3 b4 b5 b6 b7 b8 b9 : UInt8) : Bool := dgt b0 && dgt b1 && dgt b2 && dgt b3 && dgt b5 && dgt b6 && dgt b8 && dgt b9
theorem eight_no (b0 b1 b2 b3 b4 b5 b6 b7 b8 b9 : UInt8) (h : allD b0 b1 b2 b3 b4 b5 b6 b7 b8 b9 = false) (w : World) :
    Calls Tryd.prog 39 #[.string ⟨#[b0, b1, b2, b3, b5, b6, b8, b9]⟩] w fun e w' => e = .returned (.bool false) ∧ Below w.heap.size w w' := by
  unfold allD at h
  cases g0 : dgt b0
  · refine isDigits_no ⟨#[b0, b1, b2, b3, b5, b6, b8, b9]⟩ 8 rfl (by decide) 0 (by decide) (fun i hi hk => ?_) g0 w
    omega
  cases g1 : dgt b1
  · refine isDigits_no ⟨#[b0, b1, b2, b3, b5, b6, b8, b9]⟩ 8 rfl (by decide) 1 (by decide) (fun i hi hk => ?_) g1 w
    have : i = 0 := by omega
    rcases this with rfl <;> assumption
  cases g2 : dgt b2
  · refine isDigits_no ⟨#[b0, b1, b2, b3, b5, b6, b8, b9]⟩ 8 rfl (by decide) 2 (by decide) (fun i hi hk => ?_) g2 w
    have : i = 0 ∨ i = 1 := by omega
    rcases this with rfl | rfl <;> assumption
  cases g3 : dgt b3
  · refine isDigits_no ⟨#[b0, b1, b2, b3, b5, b6, b8, b9]⟩ 8 rfl (by decide) 3 (by decide) (fun i hi hk => ?_) g3 w
    have : i = 0 ∨ i = 1 ∨ i = 2 := by omega
    rcases this with rfl | rfl | rfl <;> assumption
  cases g4 : dgt b5
  · refine isDigits_no ⟨#[b0, b1, b2, b3, b5, b6, b8, b9]⟩ 8 rfl (by decide) 4 (by decide) (fun i hi hk => ?_) g4 w
    have : i = 0 ∨ i = 1 ∨ i = 2 ∨ i = 3 := by omega
    rcases this with rfl | rfl | rfl | rfl <;> assumption
  cases g5 : dgt b6
  · refine isDigits_no ⟨#[b0, b1, b2, b3, b5, b6, b8, b9]⟩ 8 rfl (by decide) 5 (by decide) (fun i hi hk => ?_) g5 w
    have : i = 0 ∨ i = 1 ∨ i = 2 ∨ i = 3 ∨ i = 4 := by omega
    rcases this with rfl | rfl | rfl | rfl | rfl <;> assumption
  cases g6 : dgt b8
  · refine isDigits_no ⟨#[b0, b1, b2, b3, b5, b6, b8, b9]⟩ 8 rfl (by decide) 6 (by decide) (fun i hi hk => ?_) g6 w
    have : i = 0 ∨ i = 1 ∨ i = 2 ∨ i = 3 ∨ i = 4 ∨ i = 5 := by omega
    rcases this with rfl | rfl | rfl | rfl | rfl | rfl <;> assumption
  cases g7 : dgt b9
  · refine isDigits_no ⟨#[b0, b1, b2, b3, b5, b6, b8, b9]⟩ 8 rfl (by decide) 7 (by decide) (fun i hi hk => ?_) g7 w
    have : i = 0 ∨ i = 1 ∨ i = 2 ∨ i = 3 ∨ i = 4 ∨ i = 5 ∨ i = 6 := by omega
    rcases this with rfl | rfl | rfl | rfl | rfl | rfl | rfl <;> assumption
  simp [g0, g1, g2, g3, g4, g5, g6, g7] at h
set_option maxHeartbeats 4000000 in
set_option maxRecDepth 20000 in
theorem parse_bad3 (b0 b1 b2 b3 b4 b5 b6 b7 b8 b9 : UInt8) (h4 : b4 = 45) (h7 : b7 = 45) (h : allD b0 b1 b2 b3 b4 b5 b6 b7 b8 b9 = false) (w : World) :
    Calls Tryd.prog 20 #[.string ⟨#[b0, b1, b2, b3, b4, b5, b6, b7, b8, b9]⟩] w fun e w' => e = .returned (.tuple #[.int .i64 0, .int .i64 2]) ∧ Below w.heap.size w w' := by
  subst h4
  subst h7
  have DG : Hid (∀ w, _) := Lib.hid (fun w => eight_no _ _ _ _ _ _ _ _ _ _ h w)
  have x1 := cut_a b0 b1 b2 b3 45 b5 b6 45 b8 b9
  have x2 := cut_b b0 b1 b2 b3 45 b5 b6 45 b8 b9
  have x3 := cut_c b0 b1 b2 b3 45 b5 b6 45 b8 b9
  clear h
  go_enter Tryd.func20, Tryd.ntmps20
  go_wp2_with fail
  have hB0 : Below w.heap.size w w := Below.refl _ _
  go_region_held3 (fun w' => Below w.heap.size w w')
    (first | exact Below.drew (by assumption) | exact beI (by assumption) (Nat.le_refl _) (by assumption))
    (first | (go_at_call 39; refine (DG.out _).mono ?_; rintro e w1 ⟨rfl, hb1⟩))
  have HB1 : Hid (Below w.heap.size w w1) := Lib.hid (by assumption)
  clear hb1 hB0
  go_wp2_with fail
  exact bodyPost_ret (v := .tuple #[.int .i64 0, .int .i64 2]) (by simp [results, Tryd.results20, go_sem]) rfl ⟨rfl, HB1.out⟩
end Go.Proofs.YtbfmfnfndmfeeaaDoor
