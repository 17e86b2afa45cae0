/- What the listed variables give the walks. -/
import Derived.Test.YtbfmfnfndmfeeaaDoorN
import Derived.ProofKit
import Derived.LaidMore
import Derived.OpenShut
import Derived.Stop.LaidErr
import Derived.Stop.Joined
import Derived.Lib.LaidTab
set_option linter.unusedVariables false
set_option linter.unusedSimpArgs false
namespace Go.Proofs.YtbfmfnfndmfeeaaDoor
open Go.Sort Go.ChangeShapes Go.WideShapes Go.ChangeAt Go.RowKit
open cal
section
variable {H : Type} {enc : TypeId × Value → H} {P : Program} {W : World}
/-- an array of integers among the listed variables, cell by cell -/
theorem tab_cell {n : String} {g len : Nat} {T E : TypeId} {k : IntKind} {sp : Nat → Bool} {f : Nat} {cs : Array Value} {p : List MemPlace} (l : List Int) (hg : P.globalNamed n = some g) (hv : W.var? P n = some cs)
    (ht : P.underlying T = some (.array len E)) (he : P.underlying E = some (.int k)) (hc : P.cellsOf E = 1) (hl : P.cellsOf T = len)
    (hd : DataW.trod enc P W 0 sp false f T cs.toList = some (.agg (l.map fun v => .lit (.int k v)), p)) (i : Nat) (hi : i < len) : W.cell? ⟨g, i, none⟩ = some (.int k (l.getD i 0)) := by
  obtain ⟨xs, m1, hx, hx1, hlen, hn3, hel⟩ := DataW.trod_array ht hd
  simp only [Prod.mk.injEq, DataW.agg.injEq] at hx1
  have h := hel i hi
  rw [hc, Nat.mul_one] at h
  have hxi : xs[i]? = some (xs[i]'(by omega)) := List.getElem?_eq_getElem (by omega)
  rw [hxi] at h
  obtain ⟨z, e1, e2, _⟩ := DataW.trod_int he h
  have hm : (xs.map (·.1))[i]? = some (DataW.lit (.int k z)) := by rw [List.getElem?_map, hxi]; exact congrArg (fun x : DataW H × List MemPlace => some x.1) e2
  rw [← hx1.1, List.getElem?_map] at hm
  have hz : l.getD i 0 = z := by
    rw [List.getD_eq_getElem?_getD]
    cases hq : l[i]? with
    | none => rw [hq] at hm; cases hm
    | some q => rw [hq] at hm; simp at hm; simpa using hm
  rw [World.var?_cell hg hv i, hz]
  have hc1 : cs.toList[i]? = some (.int k z) := by
    have h2 : (List.take 1 (List.drop i cs.toList))[0]? = some (.int k z) := by rw [e1]; rfl
    simpa [List.getElem?_take, List.getElem?_drop] using h2
  simpa using hc1
end
theorem gLen : Tryd.prog.globalNamed "cardnet/calendar.lengths" = some 0 := by kernel_rfl
theorem tLen : (Tryd.prog.globals[0]?).map (·.type) = some 54 := by kernel_rfl
theorem len_getD (m : Int) (h0 : 1 ≤ m) (h1 : m ≤ 12) : [31, 28, 31, 30, 31, 30, 31, 31, 30, 31, 30, 31].getD (m.toNat - 1) 0 = len0 m := by
  have hm : m = 1 ∨ m = 2 ∨ m = 3 ∨ m = 4 ∨ m = 5 ∨ m = 6 ∨ m = 7 ∨ m = 8 ∨ m = 9 ∨ m = 10 ∨ m = 11 ∨ m = 12 := by omega
  rcases hm with rfl | rfl | rfl | rfl | rfl | rfl | rfl | rfl | rfl | rfl | rfl | rfl <;> decide

theorem tabP_of_calendarTimes {W : World} (h : laidMetH Tryd.prog Rows.calendarTimesRow.laid W) : TabP W := by
  rw [MakeChecks.laidMetH_plain _ _ _ (by kernel_rfl)] at h
  have h2 := h.tail.tail
  exact Lib.tabIs_of_head (g := 3) (by kernel_rfl) (by kernel_rfl) Tryd.underlying78 Tryd.underlying65 (by kernel_rfl) (by kernel_rfl) h2
theorem tab_of_calendarTimes {W : World} (h : laidMetH Tryd.prog Rows.calendarTimesRow.laid W) : Tab W := by
  rw [MakeChecks.laidMetH_plain _ _ _ (by kernel_rfl)] at h
  obtain ⟨ps, ⟨g1, t1, cs1, f1, p1, q1, hg1, ht1, hv1, hd1, _, _⟩, _, _⟩ := h.tail.tail.tail
  obtain rfl := Option.some.inj (gLen.symm.trans (show Tryd.prog.globalNamed "cardnet/calendar.lengths" = some g1 from hg1))
  obtain rfl := Option.some.inj (tLen.symm.trans ht1)
  intro m h0 h1
  rw [← len_getD m h0 h1]
  exact tab_cell [31, 28, 31, 30, 31, 30, 31, 31, 30, 31, 30, 31] gLen (n := "cardnet/calendar.lengths") hv1 Tryd.underlying54 Tryd.underlying3 (by kernel_rfl) (by kernel_rfl) hd1 (m.toNat - 1) (by omega)

theorem tabP_of_calendarMonths {W : World} (h : laidMetH Tryd.prog Rows.calendarMonthsRow.laid W) : TabP W := by
  rw [MakeChecks.laidMetH_plain _ _ _ (by kernel_rfl)] at h
  have h2 := h.tail.tail
  exact Lib.tabIs_of_head (g := 3) (by kernel_rfl) (by kernel_rfl) Tryd.underlying78 Tryd.underlying65 (by kernel_rfl) (by kernel_rfl) h2
theorem tab_of_calendarMonths {W : World} (h : laidMetH Tryd.prog Rows.calendarMonthsRow.laid W) : Tab W := by
  rw [MakeChecks.laidMetH_plain _ _ _ (by kernel_rfl)] at h
  obtain ⟨ps, ⟨g1, t1, cs1, f1, p1, q1, hg1, ht1, hv1, hd1, _, _⟩, _, _⟩ := h.tail.tail.tail
  obtain rfl := Option.some.inj (gLen.symm.trans (show Tryd.prog.globalNamed "cardnet/calendar.lengths" = some g1 from hg1))
  obtain rfl := Option.some.inj (tLen.symm.trans ht1)
  intro m h0 h1
  rw [← len_getD m h0 h1]
  exact tab_cell [31, 28, 31, 30, 31, 30, 31, 31, 30, 31, 30, 31] gLen (n := "cardnet/calendar.lengths") hv1 Tryd.underlying54 Tryd.underlying3 (by kernel_rfl) (by kernel_rfl) hd1 (m.toNat - 1) (by omega)

theorem tabP_of_calendarParts {W : World} (h : laidMetH Tryd.prog Rows.calendarPartsRow.laid W) : TabP W := by
  rw [MakeChecks.laidMetH_plain _ _ _ (by kernel_rfl)] at h
  have h2 := h.tail.tail
  exact Lib.tabIs_of_head (g := 3) (by kernel_rfl) (by kernel_rfl) Tryd.underlying78 Tryd.underlying65 (by kernel_rfl) (by kernel_rfl) h2
theorem tab_of_calendarParts {W : World} (h : laidMetH Tryd.prog Rows.calendarPartsRow.laid W) : Tab W := by
  rw [MakeChecks.laidMetH_plain _ _ _ (by kernel_rfl)] at h
  obtain ⟨ps, ⟨g1, t1, cs1, f1, p1, q1, hg1, ht1, hv1, hd1, _, _⟩, _, _⟩ := h.tail.tail.tail
  obtain rfl := Option.some.inj (gLen.symm.trans (show Tryd.prog.globalNamed "cardnet/calendar.lengths" = some g1 from hg1))
  obtain rfl := Option.some.inj (tLen.symm.trans ht1)
  intro m h0 h1
  rw [← len_getD m h0 h1]
  exact tab_cell [31, 28, 31, 30, 31, 30, 31, 31, 30, 31, 30, 31] gLen (n := "cardnet/calendar.lengths") hv1 Tryd.underlying54 Tryd.underlying3 (by kernel_rfl) (by kernel_rfl) hd1 (m.toNat - 1) (by omega)

theorem tabP_of_calendarFollows {W : World} (h : laidMetH Tryd.prog Rows.calendarFollowsRow.laid W) : TabP W := by
  rw [MakeChecks.laidMetH_plain _ _ _ (by kernel_rfl)] at h
  have h2 := h.tail.tail
  exact Lib.tabIs_of_head (g := 3) (by kernel_rfl) (by kernel_rfl) Tryd.underlying78 Tryd.underlying65 (by kernel_rfl) (by kernel_rfl) h2
theorem tab_of_calendarFollows {W : World} (h : laidMetH Tryd.prog Rows.calendarFollowsRow.laid W) : Tab W := by
  rw [MakeChecks.laidMetH_plain _ _ _ (by kernel_rfl)] at h
  obtain ⟨ps, ⟨g1, t1, cs1, f1, p1, q1, hg1, ht1, hv1, hd1, _, _⟩, _, _⟩ := h.tail.tail.tail
  obtain rfl := Option.some.inj (gLen.symm.trans (show Tryd.prog.globalNamed "cardnet/calendar.lengths" = some g1 from hg1))
  obtain rfl := Option.some.inj (tLen.symm.trans ht1)
  intro m h0 h1
  rw [← len_getD m h0 h1]
  exact tab_cell [31, 28, 31, 30, 31, 30, 31, 31, 30, 31, 30, 31] gLen (n := "cardnet/calendar.lengths") hv1 Tryd.underlying54 Tryd.underlying3 (by kernel_rfl) (by kernel_rfl) hd1 (m.toNat - 1) (by omega)

theorem tabP_of_calendarDates {W : World} (h : laidMetH Tryd.prog Rows.calendarDatesRow.laid W) : TabP W := by
  rw [MakeChecks.laidMetH_plain _ _ _ (by kernel_rfl)] at h
  have h2 := h.tail.tail
  exact Lib.tabIs_of_head (g := 3) (by kernel_rfl) (by kernel_rfl) Tryd.underlying78 Tryd.underlying65 (by kernel_rfl) (by kernel_rfl) h2
theorem tab_of_calendarDates {W : World} (h : laidMetH Tryd.prog Rows.calendarDatesRow.laid W) : Tab W := by
  rw [MakeChecks.laidMetH_plain _ _ _ (by kernel_rfl)] at h
  obtain ⟨ps, ⟨g1, t1, cs1, f1, p1, q1, hg1, ht1, hv1, hd1, _, _⟩, _, _⟩ := h.tail.tail.tail.tail.tail
  obtain rfl := Option.some.inj (gLen.symm.trans (show Tryd.prog.globalNamed "cardnet/calendar.lengths" = some g1 from hg1))
  obtain rfl := Option.some.inj (tLen.symm.trans ht1)
  intro m h0 h1
  rw [← len_getD m h0 h1]
  exact tab_cell [31, 28, 31, 30, 31, 30, 31, 31, 30, 31, 30, 31] gLen (n := "cardnet/calendar.lengths") hv1 Tryd.underlying54 Tryd.underlying3 (by kernel_rfl) (by kernel_rfl) hd1 (m.toNat - 1) (by omega)

theorem tabP_of_calendarTexts {W : World} (h : laidMetH Tryd.prog Rows.calendarTextsRow.laid W) : TabP W := by
  rw [MakeChecks.laidMetH_plain _ _ _ (by kernel_rfl)] at h
  have h2 := h.tail.tail
  exact Lib.tabIs_of_head (g := 3) (by kernel_rfl) (by kernel_rfl) Tryd.underlying78 Tryd.underlying65 (by kernel_rfl) (by kernel_rfl) h2
theorem tab_of_calendarTexts {W : World} (h : laidMetH Tryd.prog Rows.calendarTextsRow.laid W) : Tab W := by
  rw [MakeChecks.laidMetH_plain _ _ _ (by kernel_rfl)] at h
  obtain ⟨ps, ⟨g1, t1, cs1, f1, p1, q1, hg1, ht1, hv1, hd1, _, _⟩, _, _⟩ := h.tail.tail.tail.tail.tail
  obtain rfl := Option.some.inj (gLen.symm.trans (show Tryd.prog.globalNamed "cardnet/calendar.lengths" = some g1 from hg1))
  obtain rfl := Option.some.inj (tLen.symm.trans ht1)
  intro m h0 h1
  rw [← len_getD m h0 h1]
  exact tab_cell [31, 28, 31, 30, 31, 30, 31, 31, 30, 31, 30, 31] gLen (n := "cardnet/calendar.lengths") hv1 Tryd.underlying54 Tryd.underlying3 (by kernel_rfl) (by kernel_rfl) hd1 (m.toNat - 1) (by omega)
end Go.Proofs.YtbfmfnfndmfeeaaDoor
