/- The examples of the chapter. -/
import Derived.Test.YtknipjjmpdnomaaGreatDoorE
set_option linter.unusedVariables false
set_option linter.unusedSimpArgs false
namespace Go.Proofs.YtknipjjmpdnomaaGreatDoor
open Go.Sort Go.ChangeShapes Go.WideShapes Go.ChangeAt Go.RowKit
theorem atoi_call (s : ByteArray) (n : Int) (hl : s.size ≤ 18) (h : Lib.atoi s.data.toList = some n) (w : World) :
    Calls Tryz.prog 33 #[.string s] w fun e w' => e = .returned (.tuple #[.int .i64 n, .nilIface]) ∧ Below w.heap.size w w' :=
  (Tryz.strconv_Atoi s n hl h w).mono fun e w' ⟨he, t, hw⟩ => ⟨he, hw ▸ Go.Joins.below_bytesWorld w.heap.size w 5 t (Nat.le_refl _)⟩
theorem ex_at (w : World) : Calls Tryz.prog 33 #[.string ⟨#[48, 51]⟩] w fun e w' => e = .returned (.tuple #[.int .i64 3, .nilIface]) ∧ Below w.heap.size w w' := atoi_call _ 3 (by decide) (by decide) w
theorem ex_dg (w : World) : Calls Tryz.prog 27 #[.string ⟨#[48, 51]⟩] w fun e w' => e = .returned (.bool true) ∧ w' = w := by
  have h := isdigits_any ⟨#[48, 51]⟩ w (by decide)
  rw [show isD ⟨#[48, 51]⟩ = true by unfold isD; rw [ByteArray.toList_eq]; decide +kernel] at h
  exact h
theorem ex_c1 : ∀ w : World, (Instr.slice 9 (.string ⟨#[48, 51, 97, 98, 99]⟩) none (some (.int .i64 2)) none).run Tryz.prog w = .ok (.string ⟨#[48, 51]⟩) w := fun w => by kernel_rfl
theorem ex_c2 : ∀ w : World, (Instr.slice 9 (.string ⟨#[48, 51, 97, 98, 99]⟩) (some (.int .i64 0)) none none).run Tryz.prog w = .ok (.string ⟨#[48, 51, 97, 98, 99]⟩) w := fun w => by kernel_rfl
set_option maxHeartbeats 1000000 in
theorem clo_var (c d : Nat) (w : World) (hc : w.cell? ⟨c, 0, none⟩ = some (.int .i64 2)) (hd : w.cell? ⟨d, 0, none⟩ = some (.int .i64 2)) :
    Calls Tryz.prog 32 #[.string ⟨#[48, 51, 97, 98, 99]⟩, .pointer (some ⟨c, 0, none⟩), .pointer (some ⟨d, 0, none⟩)] w fun e w' => e = .returned (.tuple #[.int .i64 0, .int .i64 0, .int .i64 3]) ∧ Below w.heap.size w w' := by
  have H1 := Lib.hid ex_dg
  have H2 := Lib.hid ex_at
  have q1 := ex_c1
  have lc : c < w.heap.size := block_lt_of_cell hc
  have ld : d < w.heap.size := block_lt_of_cell hd
  go_enter Tryz.func32, Tryz.ntmps32
  go_wp2_with (go_at_call 27; refine (H1.out _).mono ?_; rintro e w' ⟨rfl, rfl⟩)
  refine (H2.out _).mono ?_
  rintro e w1 ⟨rfl, hb⟩
  obtain ⟨k, os, rfl⟩ := regrow_of hb
  clear hb
  go_wp2_with fail
  exact bodyPost_ret (v := .tuple #[.int .i64 0, .int .i64 0, .int .i64 3]) (by simp [results, Tryz.results32, go_sem]) rfl ⟨rfl, below_regrown _ _ _⟩
set_option maxHeartbeats 1000000 in
theorem fld_var (g c d : Nat) (w : World) (hk : Blk w g 42 (rd ⟨#[48, 51, 97, 98, 99]⟩ 0 0)) (hc : w.cell? ⟨c, 0, none⟩ = some (.int .i64 2)) (hd : w.cell? ⟨d, 0, none⟩ = some (.int .i64 2)) :
    Calls Tryz.prog 25 #[.pointer (some ⟨g, 0, none⟩), .func (Fn.func 32) #[] #[.pointer (some ⟨c, 0, none⟩), .pointer (some ⟨d, 0, none⟩)]] w fun e w' => e = .returned (.string ⟨#[]⟩) ∧ Blk w' g 42 (rd ⟨#[48, 51, 97, 98, 99]⟩ 0 3) ∧ Below g w w' := by
  obtain ⟨c0, c1, c2, f1, f2, hl⟩ := cell3 hk
  have q2 := ex_c2
  have HC := Lib.hid (fun n => clo_var c d (w.drewN n) hc hd)
  have HK := Lib.hid hk
  clear hk hc hd
  go_enter Tryz.func25, Tryz.ntmps25
  go_wp2_with fail
  go_quiet (fail)
  go_wp2_with fail
  refine (HC.out _).mono ?_
  rintro e w1 ⟨rfl, hb⟩
  have hk1 := Blk.call (blk_dn HK.out nq) hb
  have HK1 := Lib.hid hk1
  have HB := Lib.hid ((bdn (Below.refl g w) nq).trans (hb.mono (Nat.le_of_lt hl)))
  obtain ⟨d0, d1', d2, h1, h2, hl2⟩ := cell3 hk1
  clear hk1 hb c0 c1 c2 f1 f2 hl
  go_wp2_with fail
  go_ret
  exact ⟨rfl, blk_set2 HK1.out 3, HB.out.setCell (p := ⟨g, 2, none⟩) (Nat.le_refl _) _⟩
set_option maxHeartbeats 1000000 in
theorem rvar_ex (g : Nat) (w : World) (hk : Blk w g 42 (rd ⟨#[48, 51, 97, 98, 99]⟩ 0 0)) :
    Calls Tryz.prog 9 #[.pointer (some ⟨g, 0, none⟩), .int .i64 2, .int .i64 2] w fun e w' => e = .returned (.string ⟨#[]⟩) ∧ Blk w' g 42 (rd ⟨#[48, 51, 97, 98, 99]⟩ 0 3) ∧ Below g w w' := by
  have HG := Lib.hid (Nat.le_of_lt hk.lt)
  have HF := Lib.hid (fld_var g w.heap.size (w.heap.size + 1) ((w.alloc (.cells #[.int .i64 2] 3)).alloc (.cells #[.int .i64 2] 3)) ((hk.alloc _).alloc _) (((Blk.new w 3 #[.int .i64 2]).alloc _).cell 0) (by
    have h := (Blk.new (w.alloc (.cells #[.int .i64 2] 3)) 3 #[.int .i64 2]).cell 0
    rw [show (w.alloc (.cells #[.int .i64 2] 3)).heap.size = w.heap.size + 1 by simp] at h
    exact h))
  clear hk
  go_enter Tryz.func9, Tryz.ntmps9
  go_wp2_with fail
  refine (HF.out).mono ?_
  rintro e w1 ⟨rfl, hk1, hb1⟩
  have HK1 := Lib.hid hk1
  have HB1 := Lib.hid (((((Below.refl w.heap.size w).alloc (Nat.le_refl _) _).alloc (by simp) _).mono HG.out).trans hb1)
  clear hk1 hb1
  go_wp2_with fail
  go_ret
  exact ⟨rfl, HK1.out, HB1.out⟩
theorem a7 (w : World) (hT : TabP w) : Calls Tryz.prog 21 #[.int .i64 7, .int .i64 3] w fun e w' => e = .returned (.tuple #[.string ⟨#[48, 48, 55]⟩, .int .i64 0]) ∧ Below w.heap.size w w' := by
  have h := num_any 7 3 (Lib.hid (by omega)) w hT
  rw [show nuV 7 3 = ⟨#[48, 48, 55]⟩ from ls_ext (by decide +kernel), show nuE 7 3 = 0 by decide +kernel] at h
  exact h
theorem a9 (w : World) : Calls Tryz.prog 22 #[.string ⟨#[97, 98]⟩, .int .i64 4] w fun e w' => e = .returned (.tuple #[.string ⟨#[97, 98, 32, 32]⟩, .int .i64 0]) ∧ Below w.heap.size w w' := by
  have h := alpha_any ⟨#[97, 98]⟩ 4 (by decide) w
  rw [show alV ⟨#[97, 98]⟩ 4 = ⟨#[97, 98, 32, 32]⟩ from ls_ext (by decide +kernel), show alE ⟨#[97, 98]⟩ 4 = 0 by decide +kernel] at h
  exact h
theorem a11 (w : World) (hT : TabP w) : Calls Tryz.prog 23 #[.string ⟨#[120, 124, 121]⟩, .int .i64 2] w fun e w' => e = .returned (.tuple #[.string ⟨#[48, 51, 120, 124, 121]⟩, .int .i64 0]) ∧ Below w.heap.size w w' := by
  have h := var_any ⟨#[120, 124, 121]⟩ 2 (by decide) w hT
  rw [show vaV ⟨#[120, 124, 121]⟩ 2 = ⟨#[48, 51, 120, 124, 121]⟩ from ls_ext (by decide +kernel), show vaE ⟨#[120, 124, 121]⟩ 2 = 0 by decide +kernel] at h
  exact h
theorem a15 (w : World) : Calls Tryz.prog 24 #[.string ⟨#[65]⟩] w fun e w' => e = .returned (.string ⟨#[52, 49]⟩) ∧ Below w.heap.size w w' := by
  have h := hex_any ⟨#[65]⟩ (by decide) w
  rw [show bst (heL (ls ⟨#[65]⟩) (ByteArray.size ⟨#[65]⟩)) = ⟨#[52, 49]⟩ from ls_ext (by decide +kernel)] at h
  exact h
set_option maxHeartbeats 2000000 in
set_option maxRecDepth 20000 in
theorem awake_any (w : World) (hT : TabP w) : Calls Tryz.prog 4 #[] w fun e w' => e = .returned (.bool true) ∧ Below w.heap.size w w' := by
  have HT := Lib.hid hT
  have H7 := Lib.hid a7
  have H9 := Lib.hid a9
  have H11 := Lib.hid a11
  have H15 := Lib.hid a15
  have H18 := Lib.hid newr_any
  have H21 := Lib.hid rvar_ex
  have H24 := Lib.hid err_any
  have hcat : ((⟨#[48, 48, 55]⟩ : ByteArray) ++ ⟨#[97, 98, 32, 32]⟩ ++ ⟨#[48, 51, 120, 124, 121]⟩).toList = [48, 48, 55, 97, 98, 32, 32, 48, 51, 120, 124, 121] := by
    rw [ByteArray.toList_eq]; decide +kernel
  have H23 := Lib.hid (fun g w h => left_any g ⟨#[48, 51, 97, 98, 99]⟩ 0 3 (by decide) (by decide) w h)
  clear hT
  go_enter Tryz.func4, Tryz.ntmps4
  go_wp2_with fail
  refine (H7.out _ HT.out).mono ?_
  rintro e w1 ⟨rfl, hb⟩
  have B1 := Lib.hid hb
  clear hb
  go_wp2_with fail
  refine (H9.out _).mono ?_
  rintro e w2 ⟨rfl, hb⟩
  have B2 := Lib.hid (below_call B1.out hb)
  clear hb
  go_wp2_with fail
  refine (H11.out _ (HT.out.call B2.out)).mono ?_
  rintro e w3 ⟨rfl, hb⟩
  have B3 := Lib.hid (below_call B2.out hb)
  clear hb
  go_wp2_with fail
  refine (H15.out _).mono ?_
  rintro e w4 ⟨rfl, hb⟩
  have B4 := Lib.hid (below_call B3.out hb)
  clear hb
  go_wp2_with fail
  refine (H18.out _ _).mono ?_
  rintro e w5 ⟨rfl, hw5⟩
  have K5 := Lib.hid (show Blk w5 w4.heap.size 42 (rd ⟨#[48, 51, 97, 98, 99]⟩ 0 0) by rw [hw5]; exact Blk.new _ _ _)
  have B5 := Lib.hid (show Below w.heap.size w w5 by rw [hw5]; exact B4.out.alloc B4.out.size _)
  clear hw5
  go_wp2_with fail
  refine (H21.out _ _ K5.out).mono ?_
  rintro e w6 ⟨rfl, hk, hb⟩
  have K6 := Lib.hid hk
  have B6 := Lib.hid (B5.out.trans (hb.mono B4.out.size))
  clear hk hb
  go_wp2_with fail
  refine (H24.out _ _ _ _ _ K6.out).mono ?_
  rintro e w7 ⟨rfl, rfl⟩
  go_wp2_with fail
  refine (H23.out _ _ K6.out).mono ?_
  rintro e w8 ⟨rfl, hb⟩
  have B8 := Lib.hid (below_call B6.out hb)
  clear hb
  go_wp2_with fail
  go_ret
  exact ⟨rfl, B8.out⟩
end Go.Proofs.YtknipjjmpdnomaaGreatDoor
