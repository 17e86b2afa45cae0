/- RateChecks. -/
import Derived.Test.YtpabgmdgoghahaaDoorN
import Derived.ProofKit
import Derived.LaidMore
import Derived.OpenShut
import Derived.Stop.LaidErr
import Derived.Stop.Joined
set_option linter.unusedVariables false
set_option linter.unusedSimpArgs false
namespace Go.Proofs.YtpabgmdgoghahaaDoor
open Go.Sort Go.ChangeShapes Go.WideShapes Go.ChangeAt Go.RowKit
theorem tab_of_checks {W : World} (h : laidMetH Tryd.prog Rows.rateChecksRow.laid W) : Tab W := by
  rw [MakeChecks.laidMetH_plain _ _ _ (by kernel_rfl)] at h
  have h2 := h.tail.tail
  exact Lib.tabIs_of_head (g := 2) (by kernel_rfl) (by kernel_rfl) Tryd.underlying91 Tryd.underlying66 (by kernel_rfl) (by kernel_rfl) h2
theorem wf_i64 {a : Int} (h : (Lit.int .i64 a).wf = true) : -9223372036854775808 ≤ a ∧ a ≤ 9223372036854775807 := by simp [Lit.wf, IntKind.min, IntKind.max, IntKind.signed, IntKind.bits] at h; omega
namespace rateChecks
/-- both texts -/
theorem fmt_both (f t : ByteArray) (n d : Int) (hf : f.size ≤ 20) (ht : t.size ≤ 20) : ∃ s : ByteArray,
    (∀ w, Tab w → Calls Tryd.prog 15 #[rt f t n d] w fun e w' => e = .returned (.string s) ∧ Below w.heap.size w w') ∧
    (∀ w, Tab w → Calls Tryd.prog 16 #[rt f t n d] w fun e w' => e = .returned (.string s) ∧ Below w.heap.size w w') := by
  by_cases h : chkR f t n d = 0
  · exact ⟨_, fun w hw => format_ok f t n d w hf ht h hw, fun w hw => rformat_ok f t n d w hf ht h hw⟩
  · exact ⟨_, fun w hw => format_no f t n d w (Nat.le_trans hf (by decide)) (Nat.le_trans ht (by decide)) h, fun w hw => rformat_no f t n d w (Nat.le_trans hf (by decide)) (Nat.le_trans ht (by decide)) h⟩
set_option maxHeartbeats 2000000 in
set_option maxRecDepth 20000 in
theorem walk (f t : ByteArray) (n d : Int) (x y : Int) (w : World) (hf : f.size ≤ maxLen) (ht : t.size ≤ maxLen) (hn : (Lit.int .i64 n).wf = true) (hd : (Lit.int .i64 d).wf = true) (hx : (Lit.int .i64 x).wf = true) (hy : (Lit.int .i64 y).wf = true) (hT : Tab w) :
    Calls Tryd.prog 3 #[.agg #[.string f, .string t, .int .i64 n, .int .i64 d], .int .i64 x, .int .i64 y] w fun e w' => e = .returned (.bool true) ∧ Below w.heap.size w w' := by
  have HA := Lib.hid awake_any
  have S1 : Hid (∀ w, _) := Lib.hid (fun w => small_any f t n d w hf ht)
  have C1 : Hid (∀ w, _) := Lib.hid (fun w => check_any f t n d w hf ht)
  have C2 : Hid (∀ w, _) := Lib.hid (fun w => rcheck_any f t n d w hf ht)
  have R1 : Hid (∀ w, _) := Lib.hid (fun w => reduce_any x y w (wf_i64 hx).2 (wf_i64 hy).2)
  have R2 : Hid (∀ w, _) := Lib.hid (fun w => rreduce_any x y w (wf_i64 hx).2 (wf_i64 hy).2)
  have HT := Lib.hid hT
  have hF : smallB f t = true → _ := fun h => fmt_both f t n d (by simp [smallB] at h; exact h.1) (by simp [smallB] at h; exact h.2)
  generalize smallB f t = b at *
  generalize chkR f t n d = E at *
  generalize redN x y = X at *
  generalize redD x y = Y at *
  unfold rt at *
  clear hf ht hn hd hx hy hT
  cases b
  · clear hF
    go_enter Tryd.func3, Tryd.ntmps3
    go_wp2_with fail
    refine (S1.out _).mono ?_
    rintro e w1 ⟨rfl, hb⟩
    obtain ⟨q1, o1, rfl⟩ := regrow_of hb
    clear hb
    go_wp2_with fail
    refine (HA.out _).mono ?_
    rintro e w1 ⟨rfl, hb⟩
    obtain ⟨q2, o2, rfl⟩ := regrow_of hb
    clear hb
    go_wp2_with fail
    go_ret
    exact ⟨rfl, bre (al (Below.refl _ _)) _ _⟩
  · obtain ⟨s, F1, F2⟩ := hF rfl
    replace F1 := Lib.hid F1
    replace F2 := Lib.hid F2
    clear hF
    go_enter Tryd.func3, Tryd.ntmps3
    go_wp2_with fail
    refine (S1.out _).mono ?_
    rintro e w1 ⟨rfl, hb⟩
    obtain ⟨q1, o1, rfl⟩ := regrow_of hb
    clear hb
    go_wp2_with fail
    refine (R1.out _).mono ?_
    rintro e w1 ⟨rfl, hb⟩
    obtain ⟨q2, o2, rfl⟩ := regrow_of hb
    clear hb
    go_wp2_with fail
    refine (R2.out _).mono ?_
    rintro e w1 ⟨rfl, hb⟩
    obtain ⟨q3, o3, rfl⟩ := regrow_of hb
    clear hb
    go_wp2_with fail
    have hw := Lib.hid (bre (w := w) (al (o := .cells #[.string f, .string t, .int .i64 n, .int .i64 d] 23) (Below.refl _ w)) q3 (o1 ++ (o2 ++ o3)))
    have hk := Lib.hid ((Blk.new w 23 #[.string f, .string t, .int .i64 n, .int .i64 d]).call (below_regrown _ q3 (o1 ++ (o2 ++ o3))))
    have hT := Lib.hid (HT.out.call hw.out)
    generalize grow (redrawn (w.alloc (.cells #[.string f, .string t, .int .i64 n, .int .i64 d] 23)) q3) (o1 ++ (o2 ++ o3)) = W at *
    have p0 : ∀ d os, (grow (redrawn W d) os).cell? ⟨w.heap.size, 0, none⟩ = some (.string f) := fun d os => cell_regrown (hk.out.cell 0) d os
    have p1 : ∀ d os, (grow (redrawn W d) os).cell? ⟨w.heap.size, 1, none⟩ = some (.string t) := fun d os => cell_regrown (hk.out.cell 1) d os
    have p2 : ∀ x os, (grow (redrawn W x) os).cell? ⟨w.heap.size, 2, none⟩ = some (.int .i64 n) := fun x os => cell_regrown (hk.out.cell 2) x os
    have p3 : ∀ x os, (grow (redrawn W x) os).cell? ⟨w.heap.size, 3, none⟩ = some (.int .i64 d) := fun x os => cell_regrown (hk.out.cell 3) x os
    have HX1 := Lib.hid (fun x os => F1.out (grow (redrawn W x) os) (hT.out.re x os))
    have HX2 := Lib.hid (fun x os => F2.out (grow (redrawn W x) os) (hT.out.re x os))
    refine wp_region_quiet_below (by kernel_rfl) (by kernel_rfl) ?_
    iterate 2 (first | go_big_quiet_step (exact Calls.regrown_of (C1.out _)) | quiet_step (exact Calls.regrown_of (C1.out _)))
    iterate 2 (first | go_big_quiet_step (exact Calls.regrown_of (C2.out _)) | quiet_step (exact Calls.regrown_of (C2.out _)))
    iterate 14 (first | go_big_quiet_step (exact Calls.regrown_of (HX1.out _ _)) | quiet_step (exact Calls.regrown_of (HX1.out _ _)))
    iterate 2 (first | go_big_quiet_step (exact Calls.regrown_of (HX2.out _ _)) | quiet_step (exact Calls.regrown_of (HX2.out _ _)))
    iterate 6 (first | go_big_quiet_step (exact Calls.regrown_of (HA.out _)) | quiet_step (exact Calls.regrown_of (HA.out _)))
    refine wpQuiet_nil ?_
    intro _ hw'
    obtain ⟨⟨dq, osq⟩, hw''⟩ := hw'
    subst hw''
    go_wp2_with fail
    go_ret
    exact ⟨rfl, bre hw.out _ _⟩
end rateChecks
end Go.Proofs.YtpabgmdgoghahaaDoor
