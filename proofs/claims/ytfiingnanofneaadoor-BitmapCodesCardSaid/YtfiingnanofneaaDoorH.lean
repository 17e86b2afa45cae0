/- BitmapOf, BitmapJoins: the walks. -/
import Derived.Test.YtfiingnanofneaaDoorM
import Derived.OpenShut
set_option linter.unusedVariables false
set_option linter.unusedSimpArgs false
namespace Go.Proofs.YtfiingnanofneaaDoor
open Go.Sort Go.ChangeShapes Go.WideShapes Go.ChangeAt Go.RowKit
/-- what is told of a slice of integers that came in -/
def IsRow (k : IntKind) (w : World) (a : Option Addr) (len cap : Nat) (zs : List Int) : Prop :=
  (a = none ∧ len = 0 ∧ cap = 0 ∧ zs = []) ∨
  ∃ x, a = some x ∧ len ≤ cap ∧ cap ≤ maxLen ∧ zs.length = cap ∧ (∀ i, i < zs.length → w.cell? (x.add i) = some (.int k (zs.getD i 0))) ∧ ∀ n ∈ zs, (Lit.int k n).wf = true
theorem ints_of_row {w : World} {a : Option Addr} {len cap : Nat} {z : List Int} (h : IsRow .i64 w a len cap z) : Ints w a len cap (z.take len) := by
  rcases h with ⟨rfl, rfl, rfl, rfl⟩ | ⟨x, rfl, hl, hm, hz, hc, -⟩
  · exact ⟨rfl, Nat.le_refl _, Nat.zero_le _, fun i hi => absurd hi (Nat.not_lt_zero _)⟩
  · refine ⟨by simp; omega, hl, hm, fun i hi => ?_⟩
    obtain ⟨b, off, rfl, hb⟩ := ints_at hc (by omega)
    refine ⟨b, off, rfl, block_lt_of_cell (a := ⟨b, off + i, none⟩) (hb i (by omega)), ?_⟩
    rw [hb i (by omega)]
    congr 2
    rw [List.getD_eq_getElem?_getD, List.getD_eq_getElem?_getD, List.getElem?_take, if_pos hi]
theorem ofR_cases (zs : List Int) : ∃ a b E : Nat, ofR zs = .tuple #[bm a b, .int .i64 (E : Nat)] ∧ a < B64 ∧ b < B64 := by
  unfold ofR
  cases h : okZ zs
  · exact ⟨0, 0, 4, by rw [if_neg (by simp)]; rfl, by decide, by decide⟩
  · have hf := fold_lt zs h
    exact ⟨_, _, 0, by rw [if_pos rfl]; rfl, Nat.lt_trans hf.1 (by decide), hf.2⟩
namespace bitmapOf
set_option maxHeartbeats 1000000 in
theorem walk (a : Option Addr) (len cap : Nat) (z : List Int) (w : World) (hr : IsRow .i64 w a len cap z) (hT : Tab w) :
    Calls Tryd.prog 4 #[.slice a len cap] w fun e w' => e = .returned (.bool true) ∧ Below w.heap.size w w' := by
  have hi := ints_of_row hr
  have HI := Lib.hid hi
  have HT := Lib.hid hT
  obtain ⟨hl, hlc, hm, -⟩ := hi
  clear hr hT hl
  unfold maxLen at hm
  by_cases h : len ≤ 300
  · have h' : (len : Int) ≤ 300 := by omega
    obtain ⟨p, q, E, hR, hp, hq⟩ := ofR_cases (z.take len)
    have HR := Lib.hid hR
    clear hR
    unfold bm at HR
    go_enter Tryd.func4, Tryd.ntmps4
    go_wp2_with fail
    refine (of_any _ _ _ _ _ HI.out).mono ?_
    rintro e w1 ⟨rfl, hb1⟩
    rw [HR.out]
    have HB1 := Lib.hid hb1
    obtain ⟨d1, os1, rfl⟩ := regrow_of hb1
    clear hb1
    go_wp2_with fail
    refine (rof_any _ _ _ _ _ (HI.out.call (al HB1.out))).mono ?_
    rintro e w2 ⟨rfl, hb2⟩
    rw [HR.out]
    have HB2 := Lib.hid (below_call (al HB1.out) hb2)
    obtain ⟨d2, os2, rfl⟩ := regrow_of hb2
    clear hb2
    have HB3 := Lib.hid (al (o := .cells #[.int .u64 (p : Nat), .int .u64 (q : Nat)] 24) HB2.out)
    have HT3 := Lib.hid (HT.out.call HB3.out)
    go_wp2_with fail
    refine (awake_any _ HT3.out).mono ?_
    rintro e w3 ⟨rfl, hb3⟩
    have HB4 := Lib.hid (below_call HB3.out hb3)
    clear hb3
    go_wp2_with fail
    go_ret
    exact ⟨rfl, HB4.out⟩
  · have h' : 300 < (len : Int) := by omega
    go_enter Tryd.func4, Tryd.ntmps4
    go_wp2_with fail
    refine (awake_any _ HT.out).mono ?_
    rintro e w3 ⟨rfl, hb3⟩
    have HB4 := Lib.hid hb3
    clear hb3
    go_wp2_with fail
    go_ret
    exact ⟨rfl, HB4.out⟩
end bitmapOf
end Go.Proofs.YtfiingnanofneaaDoor
