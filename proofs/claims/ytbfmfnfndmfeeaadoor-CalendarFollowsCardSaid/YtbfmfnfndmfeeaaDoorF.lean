/- The texts of a date's numbers. -/
import Derived.Test.YtbfmfnfndmfeeaaDoorE
import Derived.Test.YtbfmfnfndmfeeaaDoorShelf
import Derived.Lib.ItoaLen
import Derived.Lib.SmallJoins
import Derived.Lib.AppendIntMem
import Derived.Lib.LaidTab
set_option linter.unusedVariables false
set_option linter.unusedSimpArgs false
namespace Go.Proofs.YtbfmfnfndmfeeaaDoor
open Go.Sort Go.ChangeShapes Go.WideShapes Go.ChangeAt Go.RowKit
open cal
def TabP (w : World) : Prop := Lib.TabIs Tryd.prog w "internal/strconv.uint64pow10" .u64 Lib.pow10Tab
theorem gPow : ∃ g, Tryd.prog.globalNamed "internal/strconv.uint64pow10" = some g := by
  cases h : Tryd.prog.globalNamed "internal/strconv.uint64pow10" with
  | some g => exact ⟨g, rfl⟩
  | none =>
    have : (Tryd.prog.globalNamed "internal/strconv.uint64pow10").isSome = true := by kernel_rfl
    rw [h] at this; cases this
theorem TabP.call {w w1 : World} (h : TabP w) (hb : Below w.heap.size w w1) : TabP w1 := by
  obtain ⟨g, hg⟩ := gPow
  exact Go.Joins.tab_stays hg h hb (Nat.le_refl _)
theorem TabP.re {w : World} (h : TabP w) (d : Nat) (os : Array Obj) : TabP (grow (redrawn w d) os) := h.call (below_regrown w d os)
/-- one digit -/
def dg (r : Nat) : ByteArray := ⟨#[UInt8.ofNat (48 + r)]⟩
def c1 (r : Nat) : UInt8 := UInt8.ofNat (48 + r)
/-- two digits, and four -/
def d2 (n : Int) : ByteArray := ⟨#[c1 (n.toNat / 10), c1 (n.toNat % 10)]⟩
def d4 (n : Int) : ByteArray := ⟨#[c1 (n.toNat / 1000), c1 (n.toNat / 100 % 10), c1 (n.toNat / 10 % 10), c1 (n.toNat % 10)]⟩
theorem dec_big {u : Nat} (h : ¬ u < 10) : Lib.decDigits u = Lib.decDigits (u / 10) ++ [c1 (u % 10)] := by rw [Lib.decDigits, dif_neg h]; rfl
theorem dec_small {u : Nat} (h : u < 10) : Lib.decDigits u = [c1 u] := by rw [Lib.decDigits, dif_pos h]; rfl
theorem itoa_pos {n : Int} (h : 0 ≤ n) : Lib.itoa n = Lib.decDigits n.toNat := by rw [Lib.itoa, if_neg (by omega)]
theorem itoa4 {n : Int} (h0 : 1000 ≤ n) (h1 : n ≤ 9999) : (⟨(Lib.itoa n).toArray⟩ : ByteArray) = d4 n := by
  rw [itoa_pos (by omega), dec_big (by omega), dec_big (by omega), dec_big (by omega), dec_small (by omega)]
  unfold d4
  rw [show n.toNat / 10 / 10 / 10 = n.toNat / 1000 by omega, show n.toNat / 10 / 10 % 10 = n.toNat / 100 % 10 by omega]
  rfl
theorem itoa2 {n : Int} (h0 : 10 ≤ n) (h1 : n ≤ 99) : (⟨(Lib.itoa n).toArray⟩ : ByteArray) = d2 n := by
  rw [itoa_pos (by omega), dec_big (by omega), dec_small (by omega)]
  rfl
theorem itoa1 {n : Int} (h0 : 0 ≤ n) (h1 : n ≤ 9) : (⟨(Lib.itoa n).toArray⟩ : ByteArray) = dg n.toNat := by
  rw [itoa_pos (by omega), dec_small (by omega)]
  rfl
theorem fi_call {n : Int} (h0 : 0 ≤ n) (h1 : n ≤ 9999) (w : World) (h : TabP w) :
    Calls Tryd.prog 44 #[.int .i64 n, .int .i64 10] w fun e w' => e = .returned (.string ⟨(Lib.itoa n).toArray⟩) ∧ Below w.heap.size w w' :=
  (Tryd.strconv_FormatInt_10 n (by omega) (by omega) w h).mono fun e w' ⟨he, k, os, hw⟩ => ⟨he, hw ▸ Lib.below_grow w.heap.size w (Nat.le_refl _) k os⟩
theorem digits4 {n : Int} (h0 : 1000 ≤ n) (h1 : n ≤ 9999) (w : World) (h : TabP w) :
    Calls Tryd.prog 37 #[.int .i64 n, .int .i64 4] w fun e w' => e = .returned (.string (d4 n)) ∧ Below w.heap.size w w' := by
  have HC := Lib.hid (fi_call (show 0 ≤ n by omega) h1 w h)
  rw [itoa4 h0 h1] at HC
  unfold d4 at *
  generalize c1 (n.toNat / 1000) = a at *
  generalize c1 (n.toNat / 100 % 10) = b at *
  generalize c1 (n.toNat / 10 % 10) = c at *
  generalize c1 (n.toNat % 10) = d at *
  clear h
  go_enter Tryd.func37, Tryd.ntmps37
  go_wp2_with fail
  refine HC.out.mono ?_
  rintro e w1 ⟨rfl, hb⟩
  have HB := Lib.hid hb
  clear hb
  go_wp2_with fail
  refine wp_loop_rounds 2 ?_
  rw [rounds_succ]
  go_wp2_with fail
  go_ret
  exact ⟨rfl, HB.out⟩
theorem digits2 {n : Int} (h0 : 0 ≤ n) (h1 : n ≤ 99) (w : World) (h : TabP w) :
    Calls Tryd.prog 37 #[.int .i64 n, .int .i64 2] w fun e w' => e = .returned (.string (d2 n)) ∧ Below w.heap.size w w' := by
  have HC := Lib.hid (fi_call h0 (show n ≤ 9999 by omega) w h)
  by_cases h9 : 10 ≤ n
  · rw [itoa2 h9 h1] at HC
    unfold d2 at *
    generalize c1 (n.toNat / 10) = a at *
    generalize c1 (n.toNat % 10) = b at *
    clear h
    go_enter Tryd.func37, Tryd.ntmps37
    go_wp2_with fail
    refine HC.out.mono ?_
    rintro e w1 ⟨rfl, hb⟩
    have HB := Lib.hid hb
    clear hb
    go_wp2_with fail
    refine wp_loop_rounds 2 ?_
    rw [rounds_succ]
    go_wp2_with fail
    go_ret
    exact ⟨rfl, HB.out⟩
  · rw [itoa1 h0 (by omega)] at HC
    have e : d2 n = ⟨#[48, c1 n.toNat]⟩ := by unfold d2; rw [show n.toNat / 10 = 0 by omega, show n.toNat % 10 = n.toNat by omega]; rfl
    rw [e]
    unfold dg at HC
    change Hid (Calls _ _ _ _ fun e w' => e = .returned (.string ⟨#[c1 n.toNat]⟩) ∧ _) at HC
    generalize c1 n.toNat = b at *
    clear h e
    go_enter Tryd.func37, Tryd.ntmps37
    go_wp2_with fail
    refine HC.out.mono ?_
    rintro e w1 ⟨rfl, hb⟩
    have HB := Lib.hid hb
    clear hb
    go_wp2_with fail
    refine wp_loop_rounds 2 ?_
    rw [rounds_succ]
    go_wp2_with fail
    rw [rounds_succ]
    go_wp2_with fail
    go_ret
    exact ⟨rfl, HB.out⟩
end Go.Proofs.YtbfmfnfndmfeeaaDoor
