/- hex and Encode of the reference. -/
import Derived.Test.YtfiingnanofneaaDoorCo
import Derived.Test.YtfiingnanofneaaDoorP
import Derived.Test.YtfiingnanofneaaDoorCountsW
set_option linter.unusedVariables false
set_option linter.unusedSimpArgs false
namespace Go.Proofs.YtfiingnanofneaaDoor
open Go.Sort Go.ChangeShapes Go.WideShapes Go.ChangeAt Go.RowKit
theorem hp_front (n u : Nat) : hp (n + 1) u [] = hexc (u / 16 ^ n % 16) :: hp n u [] := by
  induction n generalizing u with
  | zero => rw [Nat.pow_zero, Nat.div_one]; rfl
  | succ n ih =>
    rw [hp_succ (n + 1) u, ih (u / 16), hp_succ n u, Nat.div_div_eq_div_mul, Nat.pow_succ, Nat.mul_comm 16]
    rfl
theorem run_cut0 : ∀ w : World, (Instr.slice 9 (.string ⟨#[48, 49, 50, 51, 52, 53, 54, 55, 56, 57, 97, 98, 99, 100, 101, 102]⟩) (some (.int .i64 0)) (some (.int .i64 1)) none).run Tryd.prog w = .ok (.string ⟨#[48]⟩) w := fun w => by kernel_rfl
theorem run_cut1 : ∀ w : World, (Instr.slice 9 (.string ⟨#[48, 49, 50, 51, 52, 53, 54, 55, 56, 57, 97, 98, 99, 100, 101, 102]⟩) (some (.int .i64 1)) (some (.int .i64 2)) none).run Tryd.prog w = .ok (.string ⟨#[49]⟩) w := fun w => by kernel_rfl
theorem run_cut2 : ∀ w : World, (Instr.slice 9 (.string ⟨#[48, 49, 50, 51, 52, 53, 54, 55, 56, 57, 97, 98, 99, 100, 101, 102]⟩) (some (.int .i64 2)) (some (.int .i64 3)) none).run Tryd.prog w = .ok (.string ⟨#[50]⟩) w := fun w => by kernel_rfl
theorem run_cut3 : ∀ w : World, (Instr.slice 9 (.string ⟨#[48, 49, 50, 51, 52, 53, 54, 55, 56, 57, 97, 98, 99, 100, 101, 102]⟩) (some (.int .i64 3)) (some (.int .i64 4)) none).run Tryd.prog w = .ok (.string ⟨#[51]⟩) w := fun w => by kernel_rfl
theorem run_cut4 : ∀ w : World, (Instr.slice 9 (.string ⟨#[48, 49, 50, 51, 52, 53, 54, 55, 56, 57, 97, 98, 99, 100, 101, 102]⟩) (some (.int .i64 4)) (some (.int .i64 5)) none).run Tryd.prog w = .ok (.string ⟨#[52]⟩) w := fun w => by kernel_rfl
theorem run_cut5 : ∀ w : World, (Instr.slice 9 (.string ⟨#[48, 49, 50, 51, 52, 53, 54, 55, 56, 57, 97, 98, 99, 100, 101, 102]⟩) (some (.int .i64 5)) (some (.int .i64 6)) none).run Tryd.prog w = .ok (.string ⟨#[53]⟩) w := fun w => by kernel_rfl
theorem run_cut6 : ∀ w : World, (Instr.slice 9 (.string ⟨#[48, 49, 50, 51, 52, 53, 54, 55, 56, 57, 97, 98, 99, 100, 101, 102]⟩) (some (.int .i64 6)) (some (.int .i64 7)) none).run Tryd.prog w = .ok (.string ⟨#[54]⟩) w := fun w => by kernel_rfl
theorem run_cut7 : ∀ w : World, (Instr.slice 9 (.string ⟨#[48, 49, 50, 51, 52, 53, 54, 55, 56, 57, 97, 98, 99, 100, 101, 102]⟩) (some (.int .i64 7)) (some (.int .i64 8)) none).run Tryd.prog w = .ok (.string ⟨#[55]⟩) w := fun w => by kernel_rfl
theorem run_cut8 : ∀ w : World, (Instr.slice 9 (.string ⟨#[48, 49, 50, 51, 52, 53, 54, 55, 56, 57, 97, 98, 99, 100, 101, 102]⟩) (some (.int .i64 8)) (some (.int .i64 9)) none).run Tryd.prog w = .ok (.string ⟨#[56]⟩) w := fun w => by kernel_rfl
theorem run_cut9 : ∀ w : World, (Instr.slice 9 (.string ⟨#[48, 49, 50, 51, 52, 53, 54, 55, 56, 57, 97, 98, 99, 100, 101, 102]⟩) (some (.int .i64 9)) (some (.int .i64 10)) none).run Tryd.prog w = .ok (.string ⟨#[57]⟩) w := fun w => by kernel_rfl
theorem run_cut10 : ∀ w : World, (Instr.slice 9 (.string ⟨#[48, 49, 50, 51, 52, 53, 54, 55, 56, 57, 97, 98, 99, 100, 101, 102]⟩) (some (.int .i64 10)) (some (.int .i64 11)) none).run Tryd.prog w = .ok (.string ⟨#[97]⟩) w := fun w => by kernel_rfl
theorem run_cut11 : ∀ w : World, (Instr.slice 9 (.string ⟨#[48, 49, 50, 51, 52, 53, 54, 55, 56, 57, 97, 98, 99, 100, 101, 102]⟩) (some (.int .i64 11)) (some (.int .i64 12)) none).run Tryd.prog w = .ok (.string ⟨#[98]⟩) w := fun w => by kernel_rfl
theorem run_cut12 : ∀ w : World, (Instr.slice 9 (.string ⟨#[48, 49, 50, 51, 52, 53, 54, 55, 56, 57, 97, 98, 99, 100, 101, 102]⟩) (some (.int .i64 12)) (some (.int .i64 13)) none).run Tryd.prog w = .ok (.string ⟨#[99]⟩) w := fun w => by kernel_rfl
theorem run_cut13 : ∀ w : World, (Instr.slice 9 (.string ⟨#[48, 49, 50, 51, 52, 53, 54, 55, 56, 57, 97, 98, 99, 100, 101, 102]⟩) (some (.int .i64 13)) (some (.int .i64 14)) none).run Tryd.prog w = .ok (.string ⟨#[100]⟩) w := fun w => by kernel_rfl
theorem run_cut14 : ∀ w : World, (Instr.slice 9 (.string ⟨#[48, 49, 50, 51, 52, 53, 54, 55, 56, 57, 97, 98, 99, 100, 101, 102]⟩) (some (.int .i64 14)) (some (.int .i64 15)) none).run Tryd.prog w = .ok (.string ⟨#[101]⟩) w := fun w => by kernel_rfl
theorem run_cut15 : ∀ w : World, (Instr.slice 9 (.string ⟨#[48, 49, 50, 51, 52, 53, 54, 55, 56, 57, 97, 98, 99, 100, 101, 102]⟩) (some (.int .i64 15)) (some (.int .i64 16)) none).run Tryd.prog w = .ok (.string ⟨#[102]⟩) w := fun w => by kernel_rfl
theorem run_cut (d : Nat) (hd : d < 16) (w : World) : (Instr.slice 9 (.string ⟨#[48, 49, 50, 51, 52, 53, 54, 55, 56, 57, 97, 98, 99, 100, 101, 102]⟩) (some (.int .i64 (d : Int))) (some (.int .i64 ((d : Int) + 1))) none).run Tryd.prog w = .ok (.string ⟨#[hexc d]⟩) w := by
  have h : d = 0 ∨ d = 1 ∨ d = 2 ∨ d = 3 ∨ d = 4 ∨ d = 5 ∨ d = 6 ∨ d = 7 ∨ d = 8 ∨ d = 9 ∨ d = 10 ∨ d = 11 ∨ d = 12 ∨ d = 13 ∨ d = 14 ∨ d = 15 := by omega
  rcases h with rfl | rfl | rfl | rfl | rfl | rfl | rfl | rfl | rfl | rfl | rfl | rfl | rfl | rfl | rfl | rfl
  · exact run_cut0 w
  · exact run_cut1 w
  · exact run_cut2 w
  · exact run_cut3 w
  · exact run_cut4 w
  · exact run_cut5 w
  · exact run_cut6 w
  · exact run_cut7 w
  · exact run_cut8 w
  · exact run_cut9 w
  · exact run_cut10 w
  · exact run_cut11 w
  · exact run_cut12 w
  · exact run_cut13 w
  · exact run_cut14 w
  · exact run_cut15 w
set_option maxHeartbeats 1000000 in
theorem rhex_any (u : Nat) (hu : u < B64) (w : World) :
    Calls Tryd.prog 38 #[.int .u64 u] w fun e w' => e = .returned (.string (hex16 u)) ∧ w' = w := by
  go_enter Tryd.func38, Tryd.ntmps38
  go_wp2_with fail
  go_loop [0, 3, 4] (fun x t i => ∃ (k y : Nat) (S : ByteArray), k ≤ 16 ∧ i = .int .i64 k ∧ x = .int .u64 y ∧ t = .string S ∧ Hid (y = u / 16 ^ k) ∧ Hid (S = ⟨(hp k u []).toArray⟩)) (fun _ _ i => 16 - (intOf i).toNat)
  case atStart => exact ⟨0, u, ⟨#[]⟩, by omega, rfl, rfl, rfl, Lib.hid (by rw [Nat.pow_zero, Nat.div_one]), Lib.hid rfl⟩
  case round =>
    obtain ⟨k, y, S, hk, rfl, rfl, rfl, hy, hS⟩ := hrel
    have hsz : S.size = k := by rw [hS.out, size_mk, hp_len]; rfl
    by_cases hlt : k < 16
    · have hlt' : (k : Int) < 16 := by omega
      have hge' : 0 ≤ (k : Int) := by omega
      obtain ⟨d, hd⟩ : ∃ d, d = y % 16 := ⟨_, rfl⟩
      have hd16 : d < 16 := by omega
      have e1 : (y : Int) % 16 = (d : Int) := by omega
      have e2 : (y : Int) / 16 = ((y / 16 : Nat) : Int) := by omega
      have hcut := run_cut d hd16
      have d0 : 0 ≤ (d : Int) := by omega
      have d1 : (d : Int) ≤ 15 := by omega
      have hs30 : S.size ≤ 16 := by omega
      have hnext : (⟨#[hexc d]⟩ : ByteArray) ++ S = ⟨(hp (k + 1) u []).toArray⟩ := by
        rw [hp_front, hS.out, hd, hy.out]
        apply ByteArray.ext
        simp
      have HN := Lib.hid hnext
      have HD := Lib.hid hd
      have hy2 : y / 16 = u / 16 ^ (k + 1) := by rw [hy.out, Nat.div_div_eq_div_mul, Nat.pow_succ]
      have HY := Lib.hid hy2
      have hz64 : IntKind.u64.wrap ((y / 16 : Nat) : Int) = ((y / 16 : Nat) : Int) := wrapN _ (by have := Nat.div_le_self u (16 ^ k); have := hy.out; unfold B64 at hu ⊢; omega)
      generalize y / 16 = z at *
      clear hnext hd hy2 hsz
      go_wp2_with fail
      go_round
      case rel => exact ⟨k + 1, z, _, by omega, by go_num, rfl, rfl, Lib.hid HY.out, Lib.hid HN.out⟩
      case measure => simp [intOf]; omega
    · have hge : ¬ (k : Int) < 16 := by omega
      have h16k : k = 16 := by omega
      have hfin : S = hex16 u := by have := hS.out; rw [h16k] at this; exact this
      have HFI := Lib.hid hfin
      clear hfin h16k hS hy hsz
      go_wp2_with fail
      go_ret
      exact ⟨by rw [← HFI.out]; rfl, rfl⟩
theorem bit_one (w : World) : Calls Tryd.prog 32 #[.int .i64 1] w fun e w' => e = .returned (.int .u64 9223372036854775808) ∧ w' = w := by
  go_enter Tryd.func32, Tryd.ntmps32
  go_wp2_with fail
  go_ret
  exact ⟨rfl, rfl⟩
set_option maxHeartbeats 1000000 in
theorem renc_any (a b : Nat) (ha : a < B64) (hb : b < B64) (w : World) :
    Calls Tryd.prog 30 #[bm a b] w fun e w' => e = .returned (.string (encS a b)) ∧ Below w.heap.size w w' := by
  have hu := fun w => runion_any a b 0 0 ha hb (by decide) (by decide) w
  rw [Nat.or_zero, Nat.or_zero] at hu
  have HU := Lib.hid hu
  have hx64 : a % B63 < B64 := mod_lt' a
  have hlow := mod_low a
  obtain ⟨o1, o2, o3⟩ := or_b63 (a % B63) hlow
  have X1 : Hid (∀ w, _) := Lib.hid (fun w => rhex_any (a % B63) hx64 w)
  have X2 : Hid (∀ w, _) := Lib.hid (fun w => rhex_any (a % B63 ||| B63) o3 w)
  have X3 : Hid (∀ w, _) := Lib.hid (fun w => rhex_any b hb w)
  have HOR := Lib.hid (or63 (a % B63) hx64)
  have s2 := hex16_size (a % B63 ||| B63)
  have s3 := hex16_size b
  unfold encS
  generalize a % B63 ||| B63 = y at *
  generalize a % B63 = x at *
  have B1 := Lib.hid bit_one
  have hbo : bits .or .u64 (x : Int) 9223372036854775808 = (y : Int) := HOR.out
  unfold bm at *
  clear hu o1 o2 o3 hlow ha
  have HK0 := Lib.hid (Blk.new w 24 #[.int .u64 a, .int .u64 b])
  by_cases hz : b = 0
  · subst hz
    rw [if_pos rfl]
    go_enter Tryd.func30, Tryd.ntmps30
    go_wp2_with fail
    refine (HU.out _).mono ?_
    rintro e w1 ⟨rfl, hb1⟩
    have HK1 := Lib.hid (HK0.out.call hb1)
    have HB1 := Lib.hid (below_call (al (o := .cells #[.int .u64 a, .int .u64 (0 : Nat)] 24) (Below.refl w.heap.size w)) hb1)
    clear hb1
    obtain ⟨c0, c1, f0, f1, hl⟩ := cell2 HK1.out
    have HB2 := Lib.hid (below_upd2 (.int .u64 (x : Nat)) (.int .u64 (0 : Nat)) HB1.out (Nat.le_refl _))
    have HK2 := Lib.hid (blk_upd2 (.int .u64 (x : Nat)) (.int .u64 (0 : Nat)) HK1.out)
    go_wp2_with (go_at_call 38; refine (X1.out _).mono ?_; rintro e w2 ⟨rfl, rfl⟩)
    go_ret
    exact ⟨rfl, HB2.out⟩
  · have hz' : ((b : Int) == 0) = false := beq_eq_false_iff_ne.2 (by omega)
    rw [if_neg hz]
    clear hz hb
    go_enter Tryd.func30, Tryd.ntmps30
    go_wp2_with fail
    refine (HU.out _).mono ?_
    rintro e w1 ⟨rfl, hb1⟩
    have HK1 := Lib.hid (HK0.out.call hb1)
    have HB1 := Lib.hid (below_call (al (o := .cells #[.int .u64 a, .int .u64 b] 24) (Below.refl w.heap.size w)) hb1)
    clear hb1
    obtain ⟨c0, c1, f0, f1, hl⟩ := cell2 HK1.out
    have HB2 := Lib.hid (below_upd2 (.int .u64 (x : Nat)) (.int .u64 (b : Nat)) HB1.out (Nat.le_refl _))
    have HK2 := Lib.hid (blk_upd2 (.int .u64 (x : Nat)) (.int .u64 (b : Nat)) HK1.out)
    go_wp2_with fail
    generalize (w1.setCell ⟨w.heap.size, 0, none⟩ (.int .u64 (x : Nat))).setCell ⟨w.heap.size, 1, none⟩ (.int .u64 (b : Nat)) = W at *
    obtain ⟨d0, d1, -, -, -⟩ := cell2 HK2.out
    clear c0 c1 f0 f1 hl
    go_quiet (first | (go_at_call 32; exact Calls.quiet_of_same (B1.out _)) | (go_at_call 38; (with_reducible exact Calls.quiet_of_same (X2.out _))) | (go_at_call 38; (with_reducible exact Calls.quiet_of_same (X3.out _))))
    go_wp2_with fail
    go_ret
    exact ⟨rfl, below_drewN HB2.out _⟩
end Go.Proofs.YtfiingnanofneaaDoor
