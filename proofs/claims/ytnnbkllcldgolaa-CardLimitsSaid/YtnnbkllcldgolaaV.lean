/- CardClosed: the walk. -/
import Derived.Test.YtnnbkllcldgolaaU
import Derived.Deep.LoopGhost
import Derived.OpenShut
import Derived.Outline
import Derived.Deep.QuietTactic
import Derived.BigQuiet
set_option linter.unusedVariables false
set_option linter.unusedSimpArgs false
namespace Go.Proofs.Ytnnbkllcldgolaa
open Go.ChangeShapes Go.WideShapes Go.ChangeAt Go.RowKit
/-- what is told of a slice of integers that came in -/
def IsRow (k : IntKind) (w : World) (a : Option Addr) (len cap : Nat) (zs : List Int) : Prop :=
  (a = none ∧ len = 0 ∧ cap = 0 ∧ zs = []) ∨
  ∃ x, a = some x ∧ len ≤ cap ∧ cap ≤ maxLen ∧ zs.length = cap ∧ (∀ i, i < zs.length → w.cell? (x.add i) = some (.int k (zs.getD i 0))) ∧ ∀ n ∈ zs, (Lit.int k n).wf = true
theorem row_at {k : IntKind} {w : World} {a : Option Addr} {len cap : Nat} {z : List Int} (h : IsRow k w a len cap z) : len ≤ cap ∧ cap ≤ maxLen ∧
    ∀ i, i < len → ∃ b off, a = some ⟨b, off, none⟩ ∧ b < w.heap.size ∧ w.cell? ⟨b, off + i, none⟩ = some (.int k (z.getD i 0)) ∧ (Lit.int k (z.getD i 0)).wf = true := by
  rcases h with ⟨rfl, rfl, rfl, rfl⟩ | ⟨x, rfl, hl, hm, hz, hc, hwf⟩
  · exact ⟨Nat.le_refl _, Nat.zero_le _, fun i hi => absurd hi (Nat.not_lt_zero _)⟩
  · refine ⟨hl, hm, fun i hi => ?_⟩
    obtain ⟨b, off, rfl, hb⟩ := ints_at hc (by omega)
    refine ⟨b, off, rfl, block_lt_of_cell (a := ⟨b, off + i, none⟩) (hb i (by omega)), hb i (by omega), hwf _ ?_⟩
    rw [List.getD_eq_getElem?_getD, List.getElem?_eq_getElem (by omega)]
    exact List.getElem_mem _
namespace cardClosed
open cardUndone
theorem use_active (k : Bool) (d c : Int) (g : Nat) (day : Int) (w : World) (h : Blk w g 57 (cc smp 255 2 1000 1000 k d 0 c)) (h0 : 0 ≤ day) (h1 : day ≤ 255) (hk : k = true → d = day) (c0 : 0 ≤ c) (c1 : c ≤ 40) :
    Calls Try.prog 21 #[.pointer (some ⟨g, 0, none⟩), .int .i64 day, .int .i64 0] w fun e w' => e = .returned (.int .i64 0) ∧ ∃ c', (0 ≤ c' ∧ c' ≤ c + 1) ∧ Stays w w' g (cc smp 255 2 1000 1000 true day 0 c') := by
  have e0 : dayA k d day 0 = 0 := by unfold dayA; split <;> rfl
  have e1 := dayA_in k d day c c ⟨c0, Int.le_refl _⟩
  exact (use_yes_stay smp 255 2 1000 1000 k d 0 c g day 0 w h (by decide) (by omega) (use_zero ⟨h0, by omega⟩ h1 (by decide) (fun q => by rw [hk q]; exact Int.le_refl _) (by omega) (by omega)) 0 (dayA k d day c + 1) (by omega) rfl).mono fun e w' ⟨he, hs⟩ => ⟨he, _, ⟨by omega, by omega⟩, hs⟩
theorem use_passive (st : Int) (k : Bool) (d c : Int) (g : Nat) (day : Int) (w : World) (h : Blk w g 57 (cc smp 255 st 1000 1000 k d 0 c)) (hs : st ≠ 2) (c0 : 0 ≤ c) (c1 : c ≤ 40) :
    Calls Try.prog 21 #[.pointer (some ⟨g, 0, none⟩), .int .i64 day, .int .i64 0] w fun e w' => e = .returned (.int .i64 17) ∧ Stays w w' g (cc smp 255 st 1000 1000 k d 0 c) :=
  use_no_stay smp 255 st 1000 1000 k d 0 c g day 0 w h (by decide) (by omega) 17 (by
    have hu : usE st 255 day = 17 := by unfold usE; rw [if_pos hs]
    unfold useE; rw [hu]; rfl) (by decide)
theorem nE11 : nxE 1 1 = 0 := by decide
theorem nS11 : nxS 1 1 = 2 := by decide
theorem nE12 : nxE 1 2 = 8 := by decide
theorem nS12 : nxS 1 2 = 0 := by decide
theorem nE13 : nxE 1 3 = 8 := by decide
theorem nS13 : nxS 1 3 = 0 := by decide
theorem nE14 : nxE 1 4 = 0 := by decide
theorem nS14 : nxS 1 4 = 4 := by decide
theorem nE21 : nxE 2 1 = 8 := by decide
theorem nS21 : nxS 2 1 = 0 := by decide
theorem nE22 : nxE 2 2 = 0 := by decide
theorem nS22 : nxS 2 2 = 3 := by decide
theorem nE23 : nxE 2 3 = 8 := by decide
theorem nS23 : nxS 2 3 = 0 := by decide
theorem nE24 : nxE 2 4 = 0 := by decide
theorem nS24 : nxS 2 4 = 4 := by decide
theorem nE31 : nxE 3 1 = 8 := by decide
theorem nS31 : nxS 3 1 = 0 := by decide
theorem nE32 : nxE 3 2 = 8 := by decide
theorem nS32 : nxS 3 2 = 0 := by decide
theorem nE33 : nxE 3 3 = 0 := by decide
theorem nS33 : nxS 3 3 = 2 := by decide
theorem nE34 : nxE 3 4 = 0 := by decide
theorem nS34 : nxS 3 4 = 4 := by decide
theorem nE41 : nxE 4 1 = 8 := by decide
theorem nS41 : nxS 4 1 = 0 := by decide
theorem nE42 : nxE 4 2 = 8 := by decide
theorem nS42 : nxS 4 2 = 0 := by decide
theorem nE43 : nxE 4 3 = 8 := by decide
theorem nS43 : nxS 4 3 = 0 := by decide
theorem nE44 : nxE 4 4 = 8 := by decide
theorem nS44 : nxS 4 4 = 0 := by decide
def CRel (w : World) (g : Nat) (day : Int) (len : Nat) (gg : Nat) (s7 s8 : Value) (wr : World) : Prop :=
  ∃ (i : Nat) (st : Int) (k : Bool) (d c : Int), i ≤ len ∧ gg = len - i ∧ s8 = .int .i64 i ∧ s7 = .bool (decide (st = 4)) ∧ (1 ≤ st ∧ st ≤ 4) ∧ 0 ≤ c ∧ c ≤ i ∧ (k = true → d = day) ∧ Below w.heap.size w wr ∧
    Blk wr g 57 (cc smp 255 st 1000 1000 k d 0 c)
set_option maxHeartbeats 4000000 in
theorem loop (A : Option Addr) (len cap : Nat) (z : List Int) (day : Int) (w : World) (hl : len ≤ 40) (hlc : len ≤ cap) (hm : cap ≤ maxLen) (hd0 : 0 ≤ day) (hd1 : day ≤ 255)
    (hz : ∀ i, i < len → ∃ b off, A = some ⟨b, off, none⟩ ∧ b < w.heap.size ∧ w.cell? ⟨b, off + i, none⟩ = some (.int .u8 (z.getD i 0)) ∧ (Lit.int .u8 (z.getD i 0)).wf = true) :
    Calls Try.prog 7 #[.slice A len cap, .int .u8 day] w fun e w' => e = .returned (.bool true) ∧ Below w.heap.size w w' := by
  unfold maxLen at hm
  have hl' : (len : Int) ≤ 40 := by omega
  have HZ := Lib.hid hz
  clear hz
  go_enter Try.func7, Try.ntmps7
  go_wp2_with fail
  refine (new_stay _ _ _ _ (by decide) (by decide) (by decide) (by decide)).mono ?_
  rintro e w1 ⟨g, rfl, hg, hb, hk⟩
  have B1 := Lib.hid hb
  have K1 := Lib.hid hk
  clear hb hk
  go_wp2_with fail
  go_loopg [7, 8] len (fun gg s7 s8 wr => CRel w g day len gg s7 s8 wr)
  case atStart => exact ⟨0, 1, false, 0, 0, Nat.zero_le _, rfl, rfl, rfl, by decide, by decide, by decide, by simp, B1.out, K1.out⟩
  case round =>
    obtain ⟨i, st, k, d, c, hi, rfl, rfl, rfl, hst, hc0, hc1, hkd, hB, hk⟩ := hrel
    have HB := Lib.hid hB
    have HK := Lib.hid hk
    clear hB hk
    by_cases hlt : i < len
    · have hlt' : (i : Int) < (len : Int) := by omega
      obtain ⟨b, off, rfl, hbw, hcw, hwf⟩ := HZ.out i hlt
      clear HZ
      have hcell : wr.cell? ⟨b, off + i, none⟩ = some (.int .u8 (z.getD i 0)) := (HB.out.cell (p := ⟨b, off + i, none⟩) hbw).trans hcw
      generalize z.getD i 0 = y at hcell hcw hwf
      obtain ⟨y0, y1⟩ := wf_u8 hwf
      clear hcw hwf
      have hs : st = 1 ∨ st = 2 ∨ st = 3 ∨ st = 4 := by omega
      have hr : y % 4 = 0 ∨ y % 4 = 1 ∨ y % 4 = 2 ∨ y % 4 = 3 := by omega
      have y2 : 0 ≤ y % 4 := by omega
      have y3 : y % 4 < 4 := by omega
      rcases hs with rfl | rfl | rfl | rfl <;> rcases hr with hr | hr | hr | hr
      all_goals
        have HR := Lib.hid hr
        clear hr
        have HKD := Lib.hid hkd
        clear hkd
        go_wp2_with fail
        rw [HR.out]
        simp only [Int.reduceAdd]
        refine (do_stay _ _ _ _ _ _ _ _ _ g _ _ HK.out).mono ?_
        simp (config := { failIfUnchanged := false }) only [nE11, nS11, nE12, nS12, nE13, nS13, nE14, nS14, nE21, nS21, nE22, nS22, nE23, nS23, nE24, nS24, nE31, nS31, nE32, nS32, nE33, nS33, nE34, nS34, nE41, nS41, nE42, nS42, nE43, nS43, nE44, nS44, ↓reduceIte, Int.reduceEq]
        rintro e w2 ⟨rfl, hs⟩
        have B2 := Lib.hid (hs.go hg HB.out)
        have K2 := Lib.hid hs.1
        clear hs hcell HB HK
        go_wp2_with (go_at_call 12; refine (state_any _ _ _ _ _ _ _ _ _ g _ K2.out).mono ?_; rintro e w' ⟨rfl, rfl⟩)
        first
          | (with_reducible (refine (use_active k d c g day _ K2.out hd0 hd1 HKD.out hc0 (by omega)).mono ?_)
             rintro e w3 ⟨rfl, c', hc', hs⟩
             have B3 := Lib.hid (hs.go hg B2.out)
             have K3 := Lib.hid hs.1
             clear hs K2
             go_wp2_with (go_at_call 12; refine (state_any _ _ _ _ _ _ _ _ _ g _ K3.out).mono ?_; rintro e w' ⟨rfl, rfl⟩)
             go_roundg (len - (i + 1))
             case measure => omega
             case rel => exact ⟨i + 1, 2, true, day, c', hlt, rfl, by go_num, rfl, by decide, hc'.1, by omega, fun _ => rfl, B3.out, K3.out⟩)
          | (refine (use_passive _ k d c g day _ K2.out (by decide) hc0 (by omega)).mono ?_
             rintro e w3 ⟨rfl, hs⟩
             have B3 := Lib.hid (hs.go hg B2.out)
             have K3 := Lib.hid hs.1
             clear hs K2
             go_wp2_with (go_at_call 12; refine (state_any _ _ _ _ _ _ _ _ _ g _ K3.out).mono ?_; rintro e w' ⟨rfl, rfl⟩)
             go_roundg (len - (i + 1))
             case measure => omega
             case rel =>
               refine ⟨i + 1, _, k, d, c, hlt, rfl, by go_num, ?_, ?_, hc0, ?_, HKD.out, B3.out, K3.out⟩
               · rfl
               · decide
               · omega)
    · have hlt' : ¬ ((i : Int) < (len : Int)) := by omega
      clear HZ hkd
      go_wp2_with fail
      refine (awake_any _).mono ?_
      rintro e w2 ⟨rfl, hb⟩
      have B2 := Lib.hid (below_call HB.out hb)
      clear hb
      go_wp2_with fail
      go_ret
      exact ⟨rfl, B2.out⟩
theorem walk (A : Option Addr) (len cap : Nat) (z : List Int) (day : Int) (w : World) (hr : IsRow .u8 w A len cap z) (wd : (Lit.int .u8 day).wf = true) :
    Calls Try.prog 7 #[.slice A len cap, .int .u8 day] w fun e w' => e = .returned (.bool true) ∧ Below w.heap.size w w' := by
  obtain ⟨hlc, hm, hz⟩ := row_at hr
  obtain ⟨hd0, hd1⟩ := wf_u8 wd
  by_cases hl : len ≤ 40
  · exact loop A len cap z day w hl hlc hm hd0 (by omega) hz
  · have hl' : 40 < (len : Int) := by omega
    clear hz hr wd
    unfold maxLen at hm
    go_enter Try.func7, Try.ntmps7
    go_wp2_with fail
    refine (new_stay _ _ _ _ (by decide) (by decide) (by decide) (by decide)).mono ?_
    rintro e w1 ⟨g, rfl, hg, hb, hk⟩
    have B1 := Lib.hid hb
    clear hb hk
    go_wp2_with fail
    refine (awake_any _).mono ?_
    rintro e w2 ⟨rfl, hb⟩
    have B2 := Lib.hid (below_call B1.out hb)
    clear hb
    go_wp2_with fail
    go_ret
    exact ⟨rfl, B2.out⟩
end cardClosed
end Go.Proofs.Ytnnbkllcldgolaa
