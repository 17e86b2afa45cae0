/- What the listed variables give the walks. -/
import Derived.Test.YtfiingnanofneaaDoorG
import Derived.ProofKit
import Derived.LaidMore
import Derived.OpenShut
import Derived.Stop.Joined
set_option linter.unusedVariables false
set_option linter.unusedSimpArgs false
namespace Go.Proofs.YtfiingnanofneaaDoor
open Go.Sort Go.ChangeShapes Go.WideShapes Go.ChangeAt Go.RowKit
section
variable {H : Type} {enc : TypeId × Value → H} {P : Program} {W : World}
/-- an array of integers among the listed variables, cell by cell -/
theorem tab_cell {n : String} {g len : Nat} {T E : TypeId} {k : IntKind} {sp : Nat → Bool} {f : Nat} {cs : Array Value} {p : List MemPlace} (l : List Int) (hg : P.globalNamed n = some g) (hv : W.var? P n = some cs)
    (ht : P.underlying T = some (.array len E)) (he : P.underlying E = some (.int k)) (hc : P.cellsOf E = 1) (hl : P.cellsOf T = len)
    (hd : DataW.trod enc P W 0 sp false f T cs.toList = some (.agg (l.map fun v => .lit (.int k v)), p)) (i : Nat) (hi : i < len) : W.cell? ⟨g, i, none⟩ = some (.int k (l.getD i 0)) := by
  obtain ⟨xs, m1, hx, hx1, hlen, hn3, hel⟩ := DataW.trod_array ht hd
  simp only [Prod.mk.injEq, DataW.agg.injEq] at hx1
  have h := hel i hi
  rw [hc, Nat.mul_one] at h
  have hxi : xs[i]? = some (xs[i]'(by omega)) := List.getElem?_eq_getElem (by omega)
  rw [hxi] at h
  obtain ⟨z, e1, e2, _⟩ := DataW.trod_int he h
  have hm : (xs.map (·.1))[i]? = some (DataW.lit (.int k z)) := by rw [List.getElem?_map, hxi]; exact congrArg (fun x : DataW H × List MemPlace => some x.1) e2
  rw [← hx1.1, List.getElem?_map] at hm
  have hz : l.getD i 0 = z := by
    rw [List.getD_eq_getElem?_getD]
    cases hq : l[i]? with
    | none => rw [hq] at hm; cases hm
    | some q => rw [hq] at hm; simp at hm; simpa using hm
  rw [World.var?_cell hg hv i, hz]
  have hc1 : cs.toList[i]? = some (.int k z) := by
    have h2 : (List.take 1 (List.drop i cs.toList))[0]? = some (.int k z) := by rw [e1]; rfl
    simpa [List.getElem?_take, List.getElem?_drop] using h2
  simpa using hc1
end
/-- the name of the table, as the row lists it -/
noncomputable def nTab : String := (Rows.bitmapOfRow.laid.map Prod.fst).getD 1 ""
theorem gTab : Tryd.prog.globalNamed nTab = some 4 := by kernel_rfl
theorem tTab : (Tryd.prog.globals[4]?).map (·.type) = some 89 := by kernel_rfl
theorem tab_of_laid {W : World} (h : laidMetH Tryd.prog Rows.bitmapOfRow.laid W) : Tab W := by
  rw [MakeChecks.laidMetH_plain _ _ _ (by kernel_rfl)] at h
  obtain ⟨ps, ⟨g0, t0, cs0, f0, p0, q0, hg0, ht0, hv0, hd0, ⟨g1, t1, cs1, f1, p1, q1, hg1, ht1, hv1, hd1, _, _⟩, _⟩, _, _⟩ := h
  obtain rfl := Option.some.inj (gTab.symm.trans (show Tryd.prog.globalNamed nTab = some g1 from hg1))
  obtain rfl := Option.some.inj (tTab.symm.trans ht1)
  exact tab_cell [0, 1, 56, 2, 57, 49, 28, 3, 61, 58, 42, 50, 38, 29, 17, 4, 62, 47, 59, 36, 45, 43, 51, 22, 53, 39, 33, 30, 24, 18, 12, 5, 63, 55, 48, 27, 60, 41, 37, 16, 46, 35, 44, 21, 52, 32, 23, 11, 54, 26, 40, 15, 34, 20, 31, 10, 25, 14, 19, 9, 13, 8, 7, 6] gTab (n := nTab) hv1 Tryd.underlying89 Tryd.underlying5 (by kernel_rfl) (by kernel_rfl) hd1 15 (by decide)
end Go.Proofs.YtfiingnanofneaaDoor
