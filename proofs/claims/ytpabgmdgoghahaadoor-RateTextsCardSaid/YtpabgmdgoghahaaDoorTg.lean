/- What RateTexts' row lists, as the walk takes it. -/
import Derived.Test.YtpabgmdgoghahaaDoorTf
import Derived.ProofKit
import Derived.LaidMore
import Derived.OpenShut
import Derived.Stop.LaidErr
import Derived.Stop.Joined
set_option linter.unusedVariables false
set_option linter.unusedSimpArgs false
namespace Go.Proofs.YtpabgmdgoghahaaDoor
open Go.Sort Go.ChangeShapes Go.WideShapes Go.ChangeAt Go.RowKit
section
variable {H : Type} {enc : TypeId × Value → H} {P : Program} {W : World}
/-- an error among the listed variables -/
theorem trod_err {t : TypeId} {m} {base fuel : Nat} {spare : Nat → Bool} {held : Bool} {cs : List Value} {x : DataW H × List MemPlace} (ht : P.underlying t = some (.interface m)) (h : DataW.trod enc P W base spare held fuel t cs = some x) : cs = [.nilIface] ∨ ∃ te pe, cs = [.iface te pe] := by
  cases fuel with
  | zero => simp [DataW.trod] at h
  | succ n =>
    unfold DataW.trod at h
    rw [ht] at h
    split at h <;> simp_all
end
theorem tab_of_texts {W : World} (h : laidMetH Tryd.prog Rows.rateTextsRow.laid W) : Tab W := by
  rw [MakeChecks.laidMetH_plain _ _ _ (by kernel_rfl)] at h
  have h2 := h.tail.tail
  exact Lib.tabIs_of_head (g := 2) (by kernel_rfl) (by kernel_rfl) Tryd.underlying91 Tryd.underlying66 (by kernel_rfl) (by kernel_rfl) h2
theorem gE5 : Tryd.prog.globalNamed "strconv.ErrRange" = some 5 := by kernel_rfl
theorem tE5 : (Tryd.prog.globals[5]?).map (·.type) = some 75 := by kernel_rfl
theorem ec5_of_texts {W : World} (h : laidMetH Tryd.prog Rows.rateTextsRow.laid W) : EC 5 W := by
  rw [MakeChecks.laidMetH_plain _ _ _ (by kernel_rfl)] at h
  obtain ⟨ps, ⟨g1, t1, cs1, f1, p1, q1, hg1, ht1, hv1, hd1, _, _⟩, _, _⟩ := h.tail.tail.tail
  obtain rfl := Option.some.inj (gE5.symm.trans (show Tryd.prog.globalNamed "strconv.ErrRange" = some g1 from hg1))
  obtain rfl := Option.some.inj (tE5.symm.trans ht1)
  have hc := World.var?_cell gE5 hv1 0
  rcases trod_err Tryd.underlying75 hd1 with h2 | ⟨te, pe, h2⟩
  · exact ⟨.nilIface, by rw [hc, ← Array.getElem?_toList, h2]; rfl, .inl rfl⟩
  · exact ⟨.iface te pe, by rw [hc, ← Array.getElem?_toList, h2]; rfl, .inr ⟨te, pe, rfl⟩⟩
theorem gE4 : Tryd.prog.globalNamed "strconv.ErrSyntax" = some 4 := by kernel_rfl
theorem tE4 : (Tryd.prog.globals[4]?).map (·.type) = some 75 := by kernel_rfl
theorem ec4_of_texts {W : World} (h : laidMetH Tryd.prog Rows.rateTextsRow.laid W) : EC 4 W := by
  rw [MakeChecks.laidMetH_plain _ _ _ (by kernel_rfl)] at h
  obtain ⟨ps, ⟨g1, t1, cs1, f1, p1, q1, hg1, ht1, hv1, hd1, _, _⟩, _, _⟩ := h.tail.tail.tail.tail
  obtain rfl := Option.some.inj (gE4.symm.trans (show Tryd.prog.globalNamed "strconv.ErrSyntax" = some g1 from hg1))
  obtain rfl := Option.some.inj (tE4.symm.trans ht1)
  have hc := World.var?_cell gE4 hv1 0
  rcases trod_err Tryd.underlying75 hd1 with h2 | ⟨te, pe, h2⟩
  · exact ⟨.nilIface, by rw [hc, ← Array.getElem?_toList, h2]; rfl, .inl rfl⟩
  · exact ⟨.iface te pe, by rw [hc, ← Array.getElem?_toList, h2]; rfl, .inr ⟨te, pe, rfl⟩⟩
end Go.Proofs.YtpabgmdgoghahaaDoor
