/- Format of both, in general. -/
import Derived.Test.YtpabgmdgoghahaaDoorL
import Derived.Test.YtpabgmdgoghahaaDoorShelfB
import Derived.Lib.SmallJoins
import Derived.Lib.ItoaLen
import Derived.Lib.AppendIntMem
import Derived.Lib.LaidTab
set_option linter.unusedVariables false
set_option linter.unusedSimpArgs false
namespace Go.Proofs.YtpabgmdgoghahaaDoor
open Go.Sort Go.ChangeShapes Go.WideShapes Go.ChangeAt Go.RowKit
def Tab (w : World) : Prop := Lib.TabIs Tryd.prog w "internal/strconv.uint64pow10" .u64 Lib.pow10Tab
theorem gPow : ∃ g, Tryd.prog.globalNamed "internal/strconv.uint64pow10" = some g := by
  cases h : Tryd.prog.globalNamed "internal/strconv.uint64pow10" with
  | some g => exact ⟨g, rfl⟩
  | none => exact absurd h (by rw [show Tryd.prog.globalNamed "internal/strconv.uint64pow10" = some 2 from by kernel_rfl]; intro h; cases h)
theorem Tab.call {w w1 : World} (h : Tab w) (hb : Below w.heap.size w w1) : Tab w1 := by
  obtain ⟨g, hg⟩ := gPow
  exact Go.Joins.tab_stays hg h hb (Nat.le_refl _)
theorem Tab.re {w : World} (h : Tab w) (d : Nat) (os : Array Obj) : Tab (grow (redrawn w d) os) := h.call (below_regrown w d os)
theorem Tab.alloc {w : World} (h : Tab w) (o : Obj) : Tab (w.alloc o) := h.call (al (Below.refl _ _))
def numS (n : Int) : ByteArray := ⟨(Lib.itoa n).toArray⟩
theorem numS_size (n : Int) (h0 : -9223372036854775808 ≤ n) (h1 : n ≤ 9223372036854775807) : (numS n).size ≤ 21 := Lib.itoa_length_le n h0 h1
theorem fi_any (n : Int) (h0 : -9223372036854775808 ≤ n) (h1 : n ≤ 9223372036854775807) (w : World) (h : Tab w) :
    Calls Tryd.prog 33 #[.int .i64 n, .int .i64 10] w fun e w' => e = .returned (.string (numS n)) ∧ Below w.heap.size w w' := by
  have hc : ∀ W, Tab W → Calls Tryd.prog 45 #[.int .i64 n, .int .i64 10] W fun e w' => e = .returned (.string (numS n)) ∧ Below W.heap.size W w' := fun W hW =>
    (Tryd.internal_strconv_FormatInt_10 n h0 h1 W hW).mono fun e w' ⟨he, k, os, hw⟩ => ⟨he, hw ▸ Lib.below_grow W.heap.size W (Nat.le_refl _) k os⟩
  have HC := Lib.hid hc
  have HT := Lib.hid h
  clear hc h
  generalize numS n = s at *
  go_enter Tryd.func33, Tryd.ntmps33
  go_wp2_with fail
  refine (HC.out _ HT.out).mono ?_
  rintro e w1 ⟨rfl, hb⟩
  obtain ⟨d1, o1, rfl⟩ := regrow_of hb
  clear hb
  go_wp2_with fail
  go_ret
  exact ⟨rfl, bre (Below.refl _ _) _ _⟩
def fmtS (f t s1 s2 : ByteArray) : ByteArray := f ++ ⟨#[47]⟩ ++ t ++ ⟨#[32]⟩ ++ s1 ++ ⟨#[47]⟩ ++ s2
theorem sz_app (a b : ByteArray) : (a ++ b).size = a.size + b.size := ByteArray.size_append
theorem sz_lit (x : UInt8) : (⟨#[x]⟩ : ByteArray).size = 1 := rfl
set_option maxHeartbeats 1000000 in
set_option maxRecDepth 20000 in
theorem format_ok (f t : ByteArray) (n d : Int) (w : World) (hf : f.size ≤ 20) (ht : t.size ≤ 20) (h : chkR f t n d = 0) (hT : Tab w) :
    Calls Tryd.prog 15 #[rt f t n d] w fun e w' => e = .returned (.string (fmtS f t (numS n) (numS d))) ∧ Below w.heap.size w w' := by
  obtain ⟨-, hn, hd⟩ := chk_zero h
  have hc := fun w => check_any f t n d w (Nat.le_trans hf (by decide)) (Nat.le_trans ht (by decide))
  rw [h] at hc
  have HC := Lib.hid hc
  have hs1 := numS_size n (by omega) (by omega)
  have hs2 := numS_size d (by omega) (by omega)
  have H1 : Hid (∀ W, Tab W → _) := Lib.hid (fun W hW => fi_any n (by omega) (by omega) W hW)
  have H2 : Hid (∀ W, Tab W → _) := Lib.hid (fun W hW => fi_any d (by omega) (by omega) W hW)
  have HT := Lib.hid hT
  generalize numS n = s1 at *
  generalize numS d = s2 at *
  unfold rt fmtS at *
  clear hc h hn hd hT
  go_enter Tryd.func15, Tryd.ntmps15
  go_wp2_with fail
  refine (HC.out _).mono ?_
  rintro e w1 ⟨rfl, hb⟩
  obtain ⟨d1, o1, rfl⟩ := regrow_of hb
  clear hb
  go_wp2_with fail
  have hw := Lib.hid (bre (w := w) (al (o := .cells #[.string f, .string t, .int .i64 n, .int .i64 d] 23) (Below.refl _ w)) d1 o1)
  have hk := Lib.hid ((Blk.new w 23 #[.string f, .string t, .int .i64 n, .int .i64 d]).call (below_regrown _ d1 o1))
  have hT := Lib.hid (HT.out.call hw.out)
  generalize grow (redrawn (w.alloc (.cells #[.string f, .string t, .int .i64 n, .int .i64 d] 23)) d1) o1 = W at *
  have q0 : ∀ d os, (grow (redrawn W d) os).cell? ⟨w.heap.size, 0, none⟩ = some (.string f) := fun d os => cell_regrown (hk.out.cell 0) d os
  have q1 : ∀ d os, (grow (redrawn W d) os).cell? ⟨w.heap.size, 1, none⟩ = some (.string t) := fun d os => cell_regrown (hk.out.cell 1) d os
  have q2 : ∀ x os, (grow (redrawn W x) os).cell? ⟨w.heap.size, 2, none⟩ = some (.int .i64 n) := fun x os => cell_regrown (hk.out.cell 2) x os
  have q3 : ∀ x os, (grow (redrawn W x) os).cell? ⟨w.heap.size, 3, none⟩ = some (.int .i64 d) := fun x os => cell_regrown (hk.out.cell 3) x os
  have HX1 := Lib.hid (fun x os => H1.out (grow (redrawn W x) os) (hT.out.re x os))
  have HX2 := Lib.hid (fun x os => H2.out (grow (redrawn W x) os) (hT.out.re x os))
  have l1 := sz_app
  have l2 := sz_lit
  refine wp_region_quiet_below (by kernel_rfl) (by kernel_rfl) ?_
  iterate 10 (first | go_big_quiet_step (exact Calls.regrown_of (HX1.out _ _)) | quiet_step (exact Calls.regrown_of (HX1.out _ _)))
  iterate 7 (first | go_big_quiet_step (exact Calls.regrown_of (HX2.out _ _)) | quiet_step (exact Calls.regrown_of (HX2.out _ _)))
  refine wpQuiet_nil ?_
  intro _ hw'
  obtain ⟨⟨dq, osq⟩, hw''⟩ := hw'
  subst hw''
  go_wp2_with fail
  go_ret
  exact ⟨rfl, bre hw.out _ _⟩
set_option maxHeartbeats 1000000 in
set_option maxRecDepth 20000 in
theorem rformat_ok (f t : ByteArray) (n d : Int) (w : World) (hf : f.size ≤ 20) (ht : t.size ≤ 20) (h : chkR f t n d = 0) (hT : Tab w) :
    Calls Tryd.prog 16 #[rt f t n d] w fun e w' => e = .returned (.string (fmtS f t (numS n) (numS d))) ∧ Below w.heap.size w w' := by
  obtain ⟨-, hn, hd⟩ := chk_zero h
  have hc := fun w => rcheck_any f t n d w (Nat.le_trans hf (by decide)) (Nat.le_trans ht (by decide))
  rw [h] at hc
  have HC := Lib.hid hc
  have hs1 := numS_size n (by omega) (by omega)
  have hs2 := numS_size d (by omega) (by omega)
  have H1 : Hid (∀ W, Tab W → _) := Lib.hid (fun W hW => fi_any n (by omega) (by omega) W hW)
  have H2 : Hid (∀ W, Tab W → _) := Lib.hid (fun W hW => fi_any d (by omega) (by omega) W hW)
  have HT := Lib.hid hT
  generalize numS n = s1 at *
  generalize numS d = s2 at *
  unfold rt fmtS at *
  clear hc h hn hd hT
  go_enter Tryd.func16, Tryd.ntmps16
  go_wp2_with fail
  refine (HC.out _).mono ?_
  rintro e w1 ⟨rfl, hb⟩
  obtain ⟨d1, o1, rfl⟩ := regrow_of hb
  clear hb
  go_wp2_with fail
  have hw := Lib.hid (bre (w := w) (al (o := .cells #[.string f, .string t, .int .i64 n, .int .i64 d] 23) (Below.refl _ w)) d1 o1)
  have hk := Lib.hid ((Blk.new w 23 #[.string f, .string t, .int .i64 n, .int .i64 d]).call (below_regrown _ d1 o1))
  have hT := Lib.hid (HT.out.call hw.out)
  generalize grow (redrawn (w.alloc (.cells #[.string f, .string t, .int .i64 n, .int .i64 d] 23)) d1) o1 = W at *
  have q0 : ∀ d os, (grow (redrawn W d) os).cell? ⟨w.heap.size, 0, none⟩ = some (.string f) := fun d os => cell_regrown (hk.out.cell 0) d os
  have q1 : ∀ d os, (grow (redrawn W d) os).cell? ⟨w.heap.size, 1, none⟩ = some (.string t) := fun d os => cell_regrown (hk.out.cell 1) d os
  have q2 : ∀ x os, (grow (redrawn W x) os).cell? ⟨w.heap.size, 2, none⟩ = some (.int .i64 n) := fun x os => cell_regrown (hk.out.cell 2) x os
  have q3 : ∀ x os, (grow (redrawn W x) os).cell? ⟨w.heap.size, 3, none⟩ = some (.int .i64 d) := fun x os => cell_regrown (hk.out.cell 3) x os
  have HX1 := Lib.hid (fun x os => H1.out (grow (redrawn W x) os) (hT.out.re x os))
  have HX2 := Lib.hid (fun x os => H2.out (grow (redrawn W x) os) (hT.out.re x os))
  have l1 := sz_app
  have l2 := sz_lit
  refine wp_region_quiet_below (by kernel_rfl) (by kernel_rfl) ?_
  iterate 10 (first | go_big_quiet_step (exact Calls.regrown_of (HX1.out _ _)) | quiet_step (exact Calls.regrown_of (HX1.out _ _)))
  iterate 7 (first | go_big_quiet_step (exact Calls.regrown_of (HX2.out _ _)) | quiet_step (exact Calls.regrown_of (HX2.out _ _)))
  refine wpQuiet_nil ?_
  intro _ hw'
  obtain ⟨⟨dq, osq⟩, hw''⟩ := hw'
  subst hw''
  go_wp2_with fail
  go_ret
  exact ⟨rfl, bre hw.out _ _⟩
theorem format_no (f t : ByteArray) (n d : Int) (w : World) (hf : f.size ≤ maxLen) (ht : t.size ≤ maxLen) (h : chkR f t n d ≠ 0) :
    Calls Tryd.prog 15 #[rt f t n d] w fun e w' => e = .returned (.string ⟨#[]⟩) ∧ Below w.heap.size w w' := by
  have HC : Hid (∀ w, _) := Lib.hid (fun w => check_any f t n d w hf ht)
  generalize chkR f t n d = E at *
  have hE : (E != 0) = true := by rw [bne_iff_ne]; exact h
  unfold rt at *
  clear h
  go_enter Tryd.func15, Tryd.ntmps15
  go_wp2_with fail
  refine (HC.out _).mono ?_
  rintro e w1 ⟨rfl, hb⟩
  obtain ⟨d1, o1, rfl⟩ := regrow_of hb
  clear hb
  go_wp2_with fail
  go_ret
  exact ⟨rfl, bre (al (Below.refl _ _)) _ _⟩
theorem rformat_no (f t : ByteArray) (n d : Int) (w : World) (hf : f.size ≤ maxLen) (ht : t.size ≤ maxLen) (h : chkR f t n d ≠ 0) :
    Calls Tryd.prog 16 #[rt f t n d] w fun e w' => e = .returned (.string ⟨#[]⟩) ∧ Below w.heap.size w w' := by
  have HC : Hid (∀ w, _) := Lib.hid (fun w => rcheck_any f t n d w hf ht)
  generalize chkR f t n d = E at *
  have hE : (E != 0) = true := by rw [bne_iff_ne]; exact h
  unfold rt at *
  clear h
  go_enter Tryd.func16, Tryd.ntmps16
  go_wp2_with fail
  refine (HC.out _).mono ?_
  rintro e w1 ⟨rfl, hb⟩
  obtain ⟨d1, o1, rfl⟩ := regrow_of hb
  clear hb
  go_wp2_with fail
  go_ret
  exact ⟨rfl, bre (al (Below.refl _ _)) _ _⟩
end Go.Proofs.YtpabgmdgoghahaaDoor
