/- What the rows list, as the walks take it. -/
import Derived.Test.YtjkfckkmofcpdaaDoorEi
import Derived.LaidMore
import Derived.Stop.LaidErr
import Derived.Stop.Joined
import Derived.Lib.LaidTab
import Derived.ChangeSame
import Derived.OpenShut
set_option linter.unusedVariables false
set_option linter.unusedSimpArgs false
namespace Go.Proofs.YtjkfckkmofcpdaaDoor
open Go.Sort Go.ChangeShapes Go.WideShapes Go.ChangeAt Go.RowKit
section
variable {H : Type} {enc : TypeId × Value → H} {P : Program} {W : World}
theorem trod_struct5 {t : TypeId} {f0 f1 f2 f3 f4 : Field} {base fuel : Nat} {spare : Nat → Bool} {held : Bool} {cs : List Value} {x : DataW H × List MemPlace} (ht : P.underlying t = some (.struct #[f0, f1, f2, f3, f4])) (h : DataW.trod enc P W base spare held fuel t cs = some x) :
    ∃ y0 y1 y2 y3 y4 n, x.1 = .agg [y0.1, y1.1, y2.1, y3.1, y4.1] ∧ DataW.trod enc P W base spare held n f0.type ((cs.drop f0.offset).take (P.cellsOf f0.type)) = some y0 ∧
      DataW.trod enc P W base spare held n f1.type ((cs.drop f1.offset).take (P.cellsOf f1.type)) = some y1 ∧ DataW.trod enc P W base spare held n f2.type ((cs.drop f2.offset).take (P.cellsOf f2.type)) = some y2 ∧
      DataW.trod enc P W base spare held n f3.type ((cs.drop f3.offset).take (P.cellsOf f3.type)) = some y3 ∧ DataW.trod enc P W base spare held n f4.type ((cs.drop f4.offset).take (P.cellsOf f4.type)) = some y4 := by
  obtain ⟨xs, n, _, rfl, hl, hlen, hf⟩ := DataW.trod_struct ht h
  match xs, hlen with
  | [y0, y1, y2, y3, y4], _ => exact ⟨y0, y1, y2, y3, y4, n, by simp, by simpa using hf 0 f0 rfl, by simpa using hf 1 f1 rfl, by simpa using hf 2 f2 rfl, by simpa using hf 3 f3 rfl, by simpa using hf 4 f4 rfl⟩
abbrev Q5 := Int × List UInt8 × Int × Int × Int
theorem tab_spec {n : String} {g len : Nat} {T E : TypeId} {f0 f1 f2 f3 f4 : Field} {k : IntKind} {sp : Nat → Bool} {f : Nat} {cs : Array Value} {p : List MemPlace} (l : List Q5) (hg : P.globalNamed n = some g) (hv : W.var? P n = some cs)
    (ht : P.underlying T = some (.array len E)) (he : P.underlying E = some (.struct #[f0, f1, f2, f3, f4])) (h0 : P.underlying f0.type = some (.int k)) (h1 : P.underlying f1.type = some .string) (h2 : P.underlying f2.type = some (.int k)) (h3 : P.underlying f3.type = some (.int k)) (h4 : P.underlying f4.type = some (.int k))
    (o0 : f0.offset = 0) (o1 : f1.offset = 1) (o2 : f2.offset = 2) (o3 : f3.offset = 3) (o4 : f4.offset = 4)
    (c0 : P.cellsOf f0.type = 1) (c1 : P.cellsOf f1.type = 1) (c2 : P.cellsOf f2.type = 1) (c3 : P.cellsOf f3.type = 1) (c4 : P.cellsOf f4.type = 1) (hc : P.cellsOf E = 5)
    (hd : DataW.trod enc P W 0 sp false f T cs.toList = some (.agg (l.map fun v => .agg [.lit (.int k v.1), .lit (.string v.2.1), .lit (.int k v.2.2.1), .lit (.int k v.2.2.2.1), .lit (.int k v.2.2.2.2)]), p)) (i : Nat) (hi : i < len) :
    ∃ (s : ByteArray) (v : Q5), l[i]? = some v ∧ s.data.toList = v.2.1 ∧ W.cell? ⟨g, i * 5, none⟩ = some (.int k v.1) ∧ W.cell? ⟨g, i * 5 + 1, none⟩ = some (.string s) ∧ W.cell? ⟨g, i * 5 + 2, none⟩ = some (.int k v.2.2.1) ∧ W.cell? ⟨g, i * 5 + 3, none⟩ = some (.int k v.2.2.2.1) ∧ W.cell? ⟨g, i * 5 + 4, none⟩ = some (.int k v.2.2.2.2) := by
  obtain ⟨xs, m1, hx, hx1, hlen, hn3, hel⟩ := DataW.trod_array ht hd
  simp only [Prod.mk.injEq, DataW.agg.injEq] at hx1
  have h := hel i hi
  rw [hc] at h
  have hxi : xs[i]? = some (xs[i]'(by omega)) := List.getElem?_eq_getElem (by omega)
  rw [hxi] at h
  obtain ⟨y0, y1, y2, y3, y4, m2, e1, a0, a1, a2, a3, a4⟩ := trod_struct5 he h
  obtain ⟨z0, s0, t0, _⟩ := DataW.trod_int h0 a0
  obtain ⟨z1, s1, t1, _⟩ := DataW.trod_string h1 a1
  obtain ⟨z2, s2, t2, _⟩ := DataW.trod_int h2 a2
  obtain ⟨z3, s3, t3, _⟩ := DataW.trod_int h3 a3
  obtain ⟨z4, s4, t4, _⟩ := DataW.trod_int h4 a4
  have hm : (xs.map (·.1))[i]? = some (DataW.agg [y0.1, y1.1, y2.1, y3.1, y4.1]) := by rw [List.getElem?_map, hxi]; exact congrArg some e1
  rw [← hx1.1, List.getElem?_map] at hm
  rw [t0, t1, t2, t3, t4] at hm
  rw [o0, c0] at s0
  rw [o1, c1] at s1
  rw [o2, c2] at s2
  rw [o3, c3] at s3
  rw [o4, c4] at s4
  cases hq : l[i]? with
  | none => rw [hq] at hm; cases hm
  | some q =>
    rw [hq] at hm
    simp at hm
    obtain ⟨m0, m1, m2, m3, m4⟩ := hm
    have key : ∀ (j : Nat) (v : Value), j < 5 → List.take 1 (List.drop j (List.take 5 (List.drop (i * 5) cs.toList))) = [v] → cs.toList[i * 5 + j]? = some v := fun j v hj h => by
      have h2 : (List.take 1 (List.drop j (List.take 5 (List.drop (i * 5) cs.toList))))[0]? = some v := by rw [h]; rfl
      simpa [List.getElem?_take, List.getElem?_drop, hj] using h2
    have g0 := key 0 _ (by omega) s0
    have g1 := key 1 _ (by omega) s1
    have g2 := key 2 _ (by omega) s2
    have g3 := key 3 _ (by omega) s3
    have g4 := key 4 _ (by omega) s4
    refine ⟨z1, q, rfl, m1.symm, ?_, ?_, ?_, ?_, ?_⟩
    · rw [World.var?_cell hg hv (i * 5), m0]; simpa using g0
    · rw [World.var?_cell hg hv (i * 5 + 1)]; simpa using g1
    · rw [World.var?_cell hg hv (i * 5 + 2), m2]; simpa using g2
    · rw [World.var?_cell hg hv (i * 5 + 3), m3]; simpa using g3
    · rw [World.var?_cell hg hv (i * 5 + 4), m4]; simpa using g4
end
theorem gD : Tryd.prog.globalNamed "cardnet/element.dictionary" = some 0 := by kernel_rfl
theorem tD : (Tryd.prog.globals[0]?).map (·.type) = some 47 := by kernel_rfl
def dql : List Q5 := [(2, [99, 97, 114, 100], 1, 19, 2), (3, [112, 114, 111, 99, 101, 115, 115], 1, 6, 0), (4, [97, 109, 111, 117, 110, 116], 1, 12, 0), (7, [115, 101, 110, 116], 1, 13, 0), (11, [116, 114, 97, 99, 101], 1, 6, 0), (14, [101, 120, 112, 105, 114, 121], 1, 5, 0), (18, [99, 97, 116, 101, 103, 111, 114, 121], 1, 4, 0), (32, [97, 99, 113, 117, 105, 114, 101, 114], 2, 16, 2), (37, [114, 101, 102, 101, 114, 101, 110, 99, 101], 1, 12, 0), (38, [97, 112, 112, 114, 111, 118, 97, 108], 1, 6, 0), (39, [114, 101, 115, 112, 111, 110, 115, 101], 1, 2, 0), (41, [116, 101, 114, 109, 105, 110, 97, 108], 2, 8, 0), (42, [109, 101, 114, 99, 104, 97, 110, 116], 2, 16, 2), (48, [101, 120, 116, 114, 97], 2, 255, 3), (49, [99, 117, 114, 114, 101, 110, 99, 121], 2, 3, 0), (52, [99, 114, 121, 112, 116, 111, 103, 114, 97, 109], 3, 16, 0), (54, [112, 97, 114, 116, 105, 97, 108], 1, 12, 0), (55, [99, 111, 117, 110, 116, 101, 114], 1, 6, 0), (56, [111, 114, 105, 103, 105, 110, 97, 108], 1, 12, 0), (59, [110, 111, 110, 99, 101], 2, 8, 0), (70, [110, 101, 116, 119, 111, 114, 107], 1, 3, 0), (95, [114, 97, 105, 115, 101], 1, 12, 0), (100, [114, 101, 99, 101, 105, 118, 101, 114], 2, 16, 2)]
theorem dt_of {W : World} (h : ∀ i, i < 23 → ∃ (s : ByteArray) (v : Q5), dql[i]? = some v ∧ s.data.toList = v.2.1 ∧ W.cell? ⟨0, i * 5, none⟩ = some (.int .i64 v.1) ∧ W.cell? ⟨0, i * 5 + 1, none⟩ = some (.string s) ∧ W.cell? ⟨0, i * 5 + 2, none⟩ = some (.int .i64 v.2.2.1) ∧ W.cell? ⟨0, i * 5 + 3, none⟩ = some (.int .i64 v.2.2.2.1) ∧ W.cell? ⟨0, i * 5 + 4, none⟩ = some (.int .i64 v.2.2.2.2)) : DT W := by
  intro j v hv
  have hj : j < 115 := by
    rcases Nat.lt_or_ge j 115 with h | h
    · exact h
    · rw [List.getElem?_eq_none (by simpa [dtab] using h)] at hv; cases hv
  obtain ⟨s, q, hq, s0, c0, c1, c2, c3, c4⟩ := h (j / 5) (by omega)
  rw [Nat.zero_add]
  have hs : s = ⟨q.2.1.toArray⟩ := by apply ByteArray.ext; rw [← s0]
  subst hs
  have key : ∀ i : Fin 23, ∀ q, dql[i.val]? = some q → dtab[i.val * 5]? = some (.int .i64 q.1) ∧ dtab[i.val * 5 + 1]? = some (.string ⟨q.2.1.toArray⟩) ∧ dtab[i.val * 5 + 2]? = some (.int .i64 q.2.2.1) ∧ dtab[i.val * 5 + 3]? = some (.int .i64 q.2.2.2.1) ∧ dtab[i.val * 5 + 4]? = some (.int .i64 q.2.2.2.2) := by
    intro i q hq
    obtain ⟨i, hi⟩ := i
    have : i = 0 ∨ i = 1 ∨ i = 2 ∨ i = 3 ∨ i = 4 ∨ i = 5 ∨ i = 6 ∨ i = 7 ∨ i = 8 ∨ i = 9 ∨ i = 10 ∨ i = 11 ∨ i = 12 ∨ i = 13 ∨ i = 14 ∨ i = 15 ∨ i = 16 ∨ i = 17 ∨ i = 18 ∨ i = 19 ∨ i = 20 ∨ i = 21 ∨ i = 22 := by omega
    rcases this with rfl | rfl | rfl | rfl | rfl | rfl | rfl | rfl | rfl | rfl | rfl | rfl | rfl | rfl | rfl | rfl | rfl | rfl | rfl | rfl | rfl | rfl | rfl <;> (obtain rfl := Option.some.inj hq; exact ⟨rfl, rfl, rfl, rfl, rfl⟩)
  obtain ⟨k0, k1, k2, k3, k4⟩ := key ⟨j / 5, by omega⟩ q hq
  have hm : j % 5 = 0 ∨ j % 5 = 1 ∨ j % 5 = 2 ∨ j % 5 = 3 ∨ j % 5 = 4 := by omega
  rcases hm with hm | hm | hm | hm | hm
  · have e : j / 5 * 5 = j := by omega
    dsimp only at k0
    rw [e] at c0 k0
    rw [c0, ← k0, hv]
  · have e : j / 5 * 5 + 1 = j := by omega
    dsimp only at k1
    rw [e] at c1 k1
    rw [c1, ← k1, hv]
  · have e : j / 5 * 5 + 2 = j := by omega
    dsimp only at k2
    rw [e] at c2 k2
    rw [c2, ← k2, hv]
  · have e : j / 5 * 5 + 3 = j := by omega
    dsimp only at k3
    rw [e] at c3 k3
    rw [c3, ← k3, hv]
  · have e : j / 5 * 5 + 4 = j := by omega
    dsimp only at k4
    rw [e] at c4 k4
    rw [c4, ← k4, hv]
theorem tabP_of_Names {W : World} (h : laidMetH Tryd.prog Rows.elementNamesRow.laid W) : TabP W := by
  rw [MakeChecks.laidMetH_plain _ _ _ (by kernel_rfl)] at h
  exact Lib.tabIs_of_head (g := 4) (by kernel_rfl) (by kernel_rfl) Tryd.underlying129 Tryd.underlying50 (by kernel_rfl) (by kernel_rfl) h.tail.tail
theorem dt_of_Names {W : World} (h : laidMetH Tryd.prog Rows.elementNamesRow.laid W) : DT W := by
  rw [MakeChecks.laidMetH_plain _ _ _ (by kernel_rfl)] at h
  obtain ⟨ps, ⟨g1, t1, cs1, f1, p1, q1, hg1, ht1, hv1, hd1, _, _⟩, _, _⟩ := h.tail.tail.tail.tail.tail.tail
  obtain rfl := Option.some.inj (gD.symm.trans (show Tryd.prog.globalNamed "cardnet/element.dictionary" = some g1 from hg1))
  obtain rfl := Option.some.inj (tD.symm.trans ht1)
  exact dt_of fun i hi => tab_spec dql gD (n := "cardnet/element.dictionary") hv1 Tryd.underlying47 Tryd.underlying23 Tryd.underlying3 Tryd.underlying9 Tryd.underlying3 Tryd.underlying3 Tryd.underlying3 rfl rfl rfl rfl rfl (by kernel_rfl) (by kernel_rfl) (by kernel_rfl) (by kernel_rfl) (by kernel_rfl) (by kernel_rfl) hd1 i hi
end Go.Proofs.YtjkfckkmofcpdaaDoor
