/- A slice of strings that came in; the walk of ChecksumTotals. -/
import Derived.Test.YtdciiegdgpepbaaI
set_option linter.unusedVariables false
set_option linter.unusedSimpArgs false
namespace Go.Proofs.Ytdciiegdgpepbaa
open Go.ChangeShapes Go.WideShapes Go.ChangeAt Go.RowKit
def IsStrs (w : World) (a : Option Addr) (len cap : Nat) : Prop :=
  (a = none ∧ len = 0 ∧ cap = 0) ∨
  ∃ (x : Addr) (ss : List ByteArray), a = some x ∧ len ≤ cap ∧ cap ≤ maxLen ∧ ss.length = cap ∧ (∀ i, i < ss.length → w.cell? (x.add i) = some (.string (ss.getD i ByteArray.empty))) ∧ ∀ s ∈ ss, s.size ≤ maxLen
theorem strs_at {w : World} {a : Option Addr} {len cap : Nat} (h : IsStrs w a len cap) : len ≤ cap ∧ cap ≤ maxLen ∧ ∃ xs : Nat → ByteArray, StrAt w a len xs ∧ ∀ i, i < len → (xs i).size ≤ maxLen := by
  rcases h with ⟨rfl, rfl, rfl⟩ | ⟨x, ss, rfl, hl, hm, hlen, hc, hs⟩
  · exact ⟨Nat.le_refl _, Nat.zero_le _, fun _ => ByteArray.empty, fun i hi => absurd hi (Nat.not_lt_zero _), fun i hi => absurd hi (Nat.not_lt_zero _)⟩
  · refine ⟨hl, hm, fun i => ss.getD i ByteArray.empty, fun i hi => ?_, fun i hi => ?_⟩
    · have h0 := hc i (by omega)
      have z0 := hc 0 (by omega)
      obtain ⟨b, off, spot⟩ := x
      have hspot : spot = none := by simpa [Addr.add] using World.cell?_spot z0
      subst hspot
      rw [Go.WideShapes.add_plain] at h0
      exact ⟨b, off, rfl, block_lt_of_cell (a := ⟨b, off + i, none⟩) h0, h0⟩
    · refine hs _ ?_
      show ss.getD i ByteArray.empty ∈ ss
      rw [List.getD_eq_getElem?_getD, List.getElem?_eq_getElem (by omega)]
      exact List.getElem_mem _
theorem checksumTotals.walk (a : Option Addr) (len cap : Nat) (w : World) (h : IsStrs w a len cap) :
    Calls Try.prog 4 #[.slice a len cap] w fun e w' => e = .returned (.bool true) ∧ Below w.heap.size w w' := by
  obtain ⟨hl, hm, xs, hx, hz⟩ := strs_at h
  exact totals_walk a len cap xs w hx hz hl hm
end Go.Proofs.Ytdciiegdgpepbaa
