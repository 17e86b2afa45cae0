/- What MoneyReads' row lists, as the walk takes it. -/
import Derived.Test.YtompeealmgdfhaaDoorTb
import Derived.Test.YtompeealmgdfhaaDoorMf
set_option linter.unusedVariables false
set_option linter.unusedSimpArgs false
namespace Go.Proofs.YtompeealmgdfhaaDoor
open Go.Sort Go.ChangeShapes Go.WideShapes Go.ChangeAt Go.RowKit
open div
section
variable {H : Type} {enc : TypeId × Value → H} {P : Program} {W : World}
/-- an error among the listed variables -/
theorem trod_err {t : TypeId} {m} {base fuel : Nat} {spare : Nat → Bool} {held : Bool} {cs : List Value} {x : DataW H × List MemPlace} (ht : P.underlying t = some (.interface m)) (h : DataW.trod enc P W base spare held fuel t cs = some x) : cs = [.nilIface] ∨ ∃ te pe, cs = [.iface te pe] := by
  cases fuel with
  | zero => simp [DataW.trod] at h
  | succ n =>
    unfold DataW.trod at h
    rw [ht] at h
    split at h <;> simp_all
end
theorem gE : Tryd.prog.globalNamed "strconv.ErrRange" = some 5 := by kernel_rfl
theorem tE : (Tryd.prog.globals[5]?).map (·.type) = some 78 := by kernel_rfl
theorem rt_of_Reads {W : World} (h : laidMetH Tryd.prog Rows.moneyReadsRow.laid W) : RT W := by
  rw [MakeChecks.laidMetH_plain _ _ _ (by kernel_rfl)] at h
  obtain ⟨ps, ⟨g1, t1, cs1, f1, p1, q1, hg1, ht1, hv1, hd1, _, _⟩, _, _⟩ := h.tail.tail.tail
  obtain rfl := Option.some.inj (gE.symm.trans (show Tryd.prog.globalNamed "strconv.ErrRange" = some g1 from hg1))
  obtain rfl := Option.some.inj (tE.symm.trans ht1)
  have hc := World.var?_cell gE hv1 0
  rcases trod_err Tryd.underlying78 hd1 with h2 | ⟨te, pe, h2⟩
  · exact ⟨.nilIface, by rw [hc, ← Array.getElem?_toList, h2]; rfl, .inl rfl⟩
  · exact ⟨.iface te pe, by rw [hc, ← Array.getElem?_toList, h2]; rfl, .inr ⟨te, pe, rfl⟩⟩
theorem tabP_of_Reads {W : World} (h : laidMetH Tryd.prog Rows.moneyReadsRow.laid W) : TabP W := by
  rw [MakeChecks.laidMetH_plain _ _ _ (by kernel_rfl)] at h
  have h2 := h.tail.tail
  exact Lib.tabIs_of_head (g := 6) (by kernel_rfl) (by kernel_rfl) Tryd.underlying113 Tryd.underlying53 (by kernel_rfl) (by kernel_rfl) h2
theorem xt_of_Reads {W : World} (h : laidMetH Tryd.prog Rows.moneyReadsRow.laid W) : XT W := by
  rw [MakeChecks.laidMetH_plain _ _ _ (by kernel_rfl)] at h
  obtain ⟨ps, ⟨g1, t1, cs1, f1, p1, q1, hg1, ht1, hv1, hd1, _, _⟩, _, _⟩ := h.tail.tail.tail.tail.tail
  obtain rfl := Option.some.inj (gX.symm.trans (show Tryd.prog.globalNamed "cardnet/money.exponents" = some g1 from hg1))
  obtain rfl := Option.some.inj (tX.symm.trans ht1)
  exact xt_of fun i hi => tab_pair xl gX (n := "cardnet/money.exponents") hv1 Tryd.underlying86 Tryd.underlying85 Tryd.underlying9 Tryd.underlying3 rfl rfl (by kernel_rfl) (by kernel_rfl) (by kernel_rfl) hd1 i hi
end Go.Proofs.YtompeealmgdfhaaDoor
