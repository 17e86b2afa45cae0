/- What the listed variables give. -/
import Derived.Test.YtompeealmgdfhaaDoorY
import Derived.LaidMore
import Derived.Stop.LaidErr
import Derived.Stop.Joined
import Derived.Lib.LaidTab
import Derived.ChangeSame
set_option linter.unusedVariables false
set_option linter.unusedSimpArgs false
namespace Go.Proofs.YtompeealmgdfhaaDoor
open Go.Sort Go.ChangeShapes Go.WideShapes Go.ChangeAt Go.RowKit
open div
section
variable {H : Type} {enc : TypeId × Value → H} {P : Program} {W : World}
/-- an array of pairs (a text, a number) among the listed variables, cell by cell -/
theorem tab_pair {n : String} {g len : Nat} {T E : TypeId} {f0 f1 : Field} {k : IntKind} {sp : Nat → Bool} {f : Nat} {cs : Array Value} {p : List MemPlace} (l : List (List UInt8 × Int)) (hg : P.globalNamed n = some g) (hv : W.var? P n = some cs)
    (ht : P.underlying T = some (.array len E)) (he : P.underlying E = some (.struct #[f0, f1])) (h1 : P.underlying f0.type = some .string) (h2 : P.underlying f1.type = some (.int k)) (o0 : f0.offset = 0) (o1 : f1.offset = 1)
    (c0 : P.cellsOf f0.type = 1) (c1 : P.cellsOf f1.type = 1) (hc : P.cellsOf E = 2)
    (hd : DataW.trod enc P W 0 sp false f T cs.toList = some (.agg (l.map fun v => .agg [.lit (.string v.1), .lit (.int k v.2)]), p)) (i : Nat) (hi : i < len) :
    ∃ (s : ByteArray), s.data.toList = (l.getD i ([], 0)).1 ∧ W.cell? ⟨g, i * 2, none⟩ = some (.string s) ∧ W.cell? ⟨g, i * 2 + 1, none⟩ = some (.int k (l.getD i ([], 0)).2) := by
  obtain ⟨xs, m1, hx, hx1, hlen, hn3, hel⟩ := DataW.trod_array ht hd
  simp only [Prod.mk.injEq, DataW.agg.injEq] at hx1
  have h := hel i hi
  rw [hc] at h
  have hxi : xs[i]? = some (xs[i]'(by omega)) := List.getElem?_eq_getElem (by omega)
  rw [hxi] at h
  obtain ⟨y0, y1, m2, e1, e2, e3, e4⟩ := trod_struct2 he h
  obtain ⟨s, s1, s2, _⟩ := DataW.trod_string h1 e3
  obtain ⟨z, z1, z2, _⟩ := DataW.trod_int h2 e4
  have hm : (xs.map (·.1))[i]? = some (DataW.agg [y0.1, y1.1]) := by rw [List.getElem?_map, hxi]; exact congrArg (fun x : DataW H × List MemPlace => some x.1) e1
  rw [← hx1.1, List.getElem?_map] at hm
  rw [s2, z2] at hm
  rw [o0, c0] at s1
  rw [o1, c1] at z1
  have hq : (l.getD i ([], 0)).1 = s.data.toList ∧ (l.getD i ([], 0)).2 = z := by
    rw [List.getD_eq_getElem?_getD]
    cases hq : l[i]? with
    | none => rw [hq] at hm; cases hm
    | some q => rw [hq] at hm; simp at hm; simpa using hm
  have a0 : cs.toList[i * 2]? = some (.string s) := by
    have h2 : (List.take 1 (List.drop 0 (List.take 2 (List.drop (i * 2) cs.toList))))[0]? = some (.string s) := by rw [s1]; rfl
    simpa [List.getElem?_take, List.getElem?_drop] using h2
  have a1 : cs.toList[i * 2 + 1]? = some (.int k z) := by
    have h2 : (List.take 1 (List.drop 1 (List.take 2 (List.drop (i * 2) cs.toList))))[0]? = some (.int k z) := by rw [z1]; rfl
    simpa [List.getElem?_take, List.getElem?_drop] using h2
  refine ⟨s, hq.1.symm, ?_, ?_⟩
  · rw [World.var?_cell hg hv (i * 2)]; simpa using a0
  · rw [World.var?_cell hg hv (i * 2 + 1), hq.2]; simpa using a1
end
theorem gX : Tryd.prog.globalNamed "cardnet/money.exponents" = some 2 := by kernel_rfl
theorem tX : (Tryd.prog.globals[2]?).map (·.type) = some 86 := by kernel_rfl
def xl : List (List UInt8 × Int) := [([74, 80, 89], 0), ([75, 82, 87], 0), ([86, 78, 68], 0), ([67, 76, 80], 0), ([73, 83, 75], 0), ([66, 72, 68], 3), ([75, 87, 68], 3), ([74, 79, 68], 3), ([79, 77, 82], 3), ([84, 78, 68], 3)]
theorem xt_of {W : World} (h : ∀ i, i < 10 → ∃ (s : ByteArray), s.data.toList = (xl.getD i ([], 0)).1 ∧ W.cell? ⟨2, i * 2, none⟩ = some (.string s) ∧ W.cell? ⟨2, i * 2 + 1, none⟩ = some (.int .i64 (xl.getD i ([], 0)).2)) : XT W := by
  intro j v hv
  have hj : j < 20 := by
    rcases Nat.lt_or_ge j 20 with h | h
    · exact h
    · rw [List.getElem?_eq_none (by simpa [xtab] using h)] at hv; cases hv
  obtain ⟨s, s1, s2, s3⟩ := h (j / 2) (by omega)
  rw [Nat.zero_add]
  have hs : s = ⟨(xl.getD (j / 2) ([], 0)).1.toArray⟩ := by apply ByteArray.ext; rw [← s1]
  subst hs
  by_cases hp : j % 2 = 0
  · rw [show j / 2 * 2 = j by omega] at s2
    rw [s2, ← hv]
    clear s1 s2 s3 hv h
    have : j = 0 ∨ j = 2 ∨ j = 4 ∨ j = 6 ∨ j = 8 ∨ j = 10 ∨ j = 12 ∨ j = 14 ∨ j = 16 ∨ j = 18 := by omega
    rcases this with rfl | rfl | rfl | rfl | rfl | rfl | rfl | rfl | rfl | rfl <;> rfl
  · rw [show j / 2 * 2 + 1 = j by omega] at s3
    rw [s3, ← hv]
    clear s1 s2 s3 hv h
    have : j = 1 ∨ j = 3 ∨ j = 5 ∨ j = 7 ∨ j = 9 ∨ j = 11 ∨ j = 13 ∨ j = 15 ∨ j = 17 ∨ j = 19 := by omega
    rcases this with rfl | rfl | rfl | rfl | rfl | rfl | rfl | rfl | rfl | rfl <;> rfl
theorem tabP_of_Adds {W : World} (h : laidMetH Tryd.prog Rows.moneyAddsRow.laid W) : TabP W := by
  rw [MakeChecks.laidMetH_plain _ _ _ (by kernel_rfl)] at h
  have h2 := h.tail.tail
  exact Lib.tabIs_of_head (g := 6) (by kernel_rfl) (by kernel_rfl) Tryd.underlying113 Tryd.underlying53 (by kernel_rfl) (by kernel_rfl) h2
theorem xt_of_Adds {W : World} (h : laidMetH Tryd.prog Rows.moneyAddsRow.laid W) : XT W := by
  rw [MakeChecks.laidMetH_plain _ _ _ (by kernel_rfl)] at h
  obtain ⟨ps, ⟨g1, t1, cs1, f1, p1, q1, hg1, ht1, hv1, hd1, _, _⟩, _, _⟩ := h.tail.tail.tail.tail.tail
  obtain rfl := Option.some.inj (gX.symm.trans (show Tryd.prog.globalNamed "cardnet/money.exponents" = some g1 from hg1))
  obtain rfl := Option.some.inj (tX.symm.trans ht1)
  exact xt_of fun i hi => tab_pair xl gX (n := "cardnet/money.exponents") hv1 Tryd.underlying86 Tryd.underlying85 Tryd.underlying9 Tryd.underlying3 rfl rfl (by kernel_rfl) (by kernel_rfl) (by kernel_rfl) hd1 i hi
theorem tabP_of_Scales {W : World} (h : laidMetH Tryd.prog Rows.moneyScalesRow.laid W) : TabP W := by
  rw [MakeChecks.laidMetH_plain _ _ _ (by kernel_rfl)] at h
  have h2 := h.tail.tail
  exact Lib.tabIs_of_head (g := 6) (by kernel_rfl) (by kernel_rfl) Tryd.underlying113 Tryd.underlying53 (by kernel_rfl) (by kernel_rfl) h2
theorem xt_of_Scales {W : World} (h : laidMetH Tryd.prog Rows.moneyScalesRow.laid W) : XT W := by
  rw [MakeChecks.laidMetH_plain _ _ _ (by kernel_rfl)] at h
  obtain ⟨ps, ⟨g1, t1, cs1, f1, p1, q1, hg1, ht1, hv1, hd1, _, _⟩, _, _⟩ := h.tail.tail.tail.tail.tail
  obtain rfl := Option.some.inj (gX.symm.trans (show Tryd.prog.globalNamed "cardnet/money.exponents" = some g1 from hg1))
  obtain rfl := Option.some.inj (tX.symm.trans ht1)
  exact xt_of fun i hi => tab_pair xl gX (n := "cardnet/money.exponents") hv1 Tryd.underlying86 Tryd.underlying85 Tryd.underlying9 Tryd.underlying3 rfl rfl (by kernel_rfl) (by kernel_rfl) (by kernel_rfl) hd1 i hi
theorem tabP_of_Sums {W : World} (h : laidMetH Tryd.prog Rows.moneySumsRow.laid W) : TabP W := by
  rw [MakeChecks.laidMetH_plain _ _ _ (by kernel_rfl)] at h
  have h2 := h.tail.tail
  exact Lib.tabIs_of_head (g := 6) (by kernel_rfl) (by kernel_rfl) Tryd.underlying113 Tryd.underlying53 (by kernel_rfl) (by kernel_rfl) h2
theorem xt_of_Sums {W : World} (h : laidMetH Tryd.prog Rows.moneySumsRow.laid W) : XT W := by
  rw [MakeChecks.laidMetH_plain _ _ _ (by kernel_rfl)] at h
  obtain ⟨ps, ⟨g1, t1, cs1, f1, p1, q1, hg1, ht1, hv1, hd1, _, _⟩, _, _⟩ := h.tail.tail.tail.tail.tail
  obtain rfl := Option.some.inj (gX.symm.trans (show Tryd.prog.globalNamed "cardnet/money.exponents" = some g1 from hg1))
  obtain rfl := Option.some.inj (tX.symm.trans ht1)
  exact xt_of fun i hi => tab_pair xl gX (n := "cardnet/money.exponents") hv1 Tryd.underlying86 Tryd.underlying85 Tryd.underlying9 Tryd.underlying3 rfl rfl (by kernel_rfl) (by kernel_rfl) (by kernel_rfl) hd1 i hi
theorem tabP_of_Order {W : World} (h : laidMetH Tryd.prog Rows.moneyOrderRow.laid W) : TabP W := by
  rw [MakeChecks.laidMetH_plain _ _ _ (by kernel_rfl)] at h
  have h2 := h.tail.tail
  exact Lib.tabIs_of_head (g := 6) (by kernel_rfl) (by kernel_rfl) Tryd.underlying113 Tryd.underlying53 (by kernel_rfl) (by kernel_rfl) h2
theorem xt_of_Order {W : World} (h : laidMetH Tryd.prog Rows.moneyOrderRow.laid W) : XT W := by
  rw [MakeChecks.laidMetH_plain _ _ _ (by kernel_rfl)] at h
  obtain ⟨ps, ⟨g1, t1, cs1, f1, p1, q1, hg1, ht1, hv1, hd1, _, _⟩, _, _⟩ := h.tail.tail.tail.tail.tail
  obtain rfl := Option.some.inj (gX.symm.trans (show Tryd.prog.globalNamed "cardnet/money.exponents" = some g1 from hg1))
  obtain rfl := Option.some.inj (tX.symm.trans ht1)
  exact xt_of fun i hi => tab_pair xl gX (n := "cardnet/money.exponents") hv1 Tryd.underlying86 Tryd.underlying85 Tryd.underlying9 Tryd.underlying3 rfl rfl (by kernel_rfl) (by kernel_rfl) (by kernel_rfl) hd1 i hi
end Go.Proofs.YtompeealmgdfhaaDoor
