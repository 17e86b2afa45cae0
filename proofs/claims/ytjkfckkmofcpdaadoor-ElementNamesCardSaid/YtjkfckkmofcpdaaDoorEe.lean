/- Same of equal numbers. -/
import Derived.Test.YtjkfckkmofcpdaaDoorEd
set_option linter.unusedVariables false
set_option linter.unusedSimpArgs false
namespace Go.Proofs.YtjkfckkmofcpdaaDoor
open Go.Sort Go.ChangeShapes Go.WideShapes Go.ChangeAt Go.RowKit
/-- numbers anywhere in memory -/
def IntO (w : World) (a : Option Addr) (l : List Int) : Prop := ∀ (i : Nat) (h : i < l.length), ∃ g, a = some ⟨g, 0, none⟩ ∧ g < w.heap.size ∧ w.cell? ⟨g, i, none⟩ = some (.int .i64 l[i])
theorem Ints.o {w : World} {v : Value} {l : List Int} (h : Ints w v l) : ∃ a c, v = .slice a l.length c ∧ l.length ≤ c ∧ IntO w a l := by
  rcases h with ⟨rfl, rfl⟩ | ⟨g, rfl, hB⟩
  · exact ⟨none, 0, rfl, Nat.le_refl _, fun i h => absurd h (Nat.not_lt_zero _)⟩
  · refine ⟨_, _, rfl, Nat.le_refl _, fun i h => ⟨g, rfl, hB.lt, ?_⟩⟩
    rw [hB.cell i]
    simp [h]
theorem Ints.call {w w' : World} {v : Value} {l : List Int} (h : Ints w v l) (hb : Below w.heap.size w w') : Ints w' v l := by
  rcases h with h | ⟨g, hv, hB⟩
  · exact .inl h
  · exact .inr ⟨g, hv, hB.call hb⟩
set_option maxHeartbeats 2000000 in
set_option maxRecDepth 20000 in
theorem same_any (u v : Value) (l : List Int) (hl : l.length ≤ 1000) (w : World) (hu : Ints w u l) (hv : Ints w v l) : Calls Tryd.prog 13 #[u, v] w fun e w' => e = .returned (.bool true) ∧ Below w.heap.size w w' := by
  obtain ⟨a, ca, rfl, a1, hU⟩ := hu.o
  obtain ⟨b, cb, rfl, b1, hV⟩ := hv.o
  have HU := Lib.hid hU
  have HV := Lib.hid hV
  have hli : (l.length : Int) ≤ 1000 := by omega
  clear hu hv hU hV a1 b1
  go_enter Tryd.func13, Tryd.ntmps13
  go_wp2_with fail
  go_loopw [5] (fun x wr => ∃ (k m : Nat), k ≤ l.length ∧ x = .int .i64 k ∧ Hid (wr = w.drewN m)) (fun x _ => l.length - (intOf x).toNat)
  case atStart => exact ⟨0, 0, Nat.zero_le _, rfl, Lib.hid rfl⟩
  case round =>
    obtain ⟨k, m, hk, rfl, hw⟩ := hrel
    by_cases hlt : k < l.length
    · have hlt' : (k : Int) < (l.length : Int) := by omega
      obtain ⟨g, rfl, hg, c0⟩ := HU.out k hlt
      obtain ⟨q, rfl, hq, d0⟩ := HV.out k hlt
      generalize l[k] = K at *
      have s0 : wr.cell? ⟨g, k, none⟩ = some (.int .i64 K) := by rw [hw.out]; exact c0
      have t0 : wr.cell? ⟨q, k, none⟩ = some (.int .i64 K) := by rw [hw.out]; exact d0
      clear c0 d0 hg hq
      go_wp2_with fail
      go_quiet (fail)
      go_wp2_with fail
      go_roundw
      case rel => exact ⟨k + 1, m + nq, by omega, by go_num, Lib.hid (by rw [hw.out]; exact World.drewN_drewN _ _ _)⟩
      case measure => simp [intOf]; omega
    · have hge : ¬ (k : Int) < (l.length : Int) := by omega
      clear hlt
      go_wp2_with fail
      go_ret
      exact ⟨rfl, by rw [hw.out]; exact ⟨rfl, rfl, rfl, Nat.le_refl _, fun _ _ => rfl⟩⟩
end Go.Proofs.YtjkfckkmofcpdaaDoor
