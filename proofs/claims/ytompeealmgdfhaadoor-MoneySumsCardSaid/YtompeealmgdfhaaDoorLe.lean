/- The walk of MoneySums. -/
import Derived.Test.YtompeealmgdfhaaDoorLd
set_option linter.unusedVariables false
set_option linter.unusedSimpArgs false
namespace Go.Proofs.YtompeealmgdfhaaDoor
open Go.Sort Go.ChangeShapes Go.WideShapes Go.ChangeAt Go.RowKit
open div
theorem rsum_any (cur : ByteArray) (A : Option Addr) (len cap : Nat) (xs : Nat → Mn) (hc : cur.size ≤ maxLen) (hl : len ≤ 100) (w : World) (hz : MonsAt w A len xs) :
    Calls Tryd.prog 26 #[.string cur, .slice A len cap] w fun e w' => e = .returned (.tuple #[mo (stS cur xs len).s (stS cur xs len).c, .int .i64 (stS cur xs len).e]) ∧ Below w.heap.size w w' := by
  cases h : curL cur.data.toList
  · have e0 : stS cur xs 0 = ⟨0, ⟨#[]⟩, 11⟩ := by
      show st0 cur = _
      have e : mchk 0 cur = 11 := by unfold mchk; rw [h, if_pos rfl]
      unfold st0
      rw [e]
      rfl
    have e1 : stS cur xs len = ⟨0, ⟨#[]⟩, 11⟩ := by rw [stS_stop (k := 0) (by rw [e0]; rfl) len (Nat.zero_le _), e0]
    rw [e1]
    exact rsum_bad cur A len cap xs hc hl w hz h
  · exact rsum_ok cur A len cap xs hc hl w hz h
/-- what is told of a slice of amounts that came in -/
def IsRecs23 (w : World) (a : Option Addr) (len cap : Nat) : Prop :=
  (a = none ∧ len = 0 ∧ cap = 0) ∨
  ∃ x : Addr, a = some x ∧ len ≤ cap ∧ cap ≤ maxLen ∧ ∀ i, i < len → ∃ (x0 : Int) (x1 : ByteArray), w.cell? (x.add (i * 2 + 0)) = some (.int .i64 x0) ∧ (Lit.int .i64 x0).wf = true ∧ w.cell? (x.add (i * 2 + 1)) = some (.string x1) ∧ x1.size ≤ maxLen
theorem mons_of {w : World} {a : Option Addr} {len cap : Nat} (h : IsRecs23 w a len cap) : len ≤ cap ∧ cap ≤ maxLen ∧ ∃ xs, MonsAt w a len xs := by
  rcases h with ⟨rfl, rfl, rfl⟩ | ⟨x, rfl, hl, hm, hc⟩
  · exact ⟨Nat.le_refl _, Nat.zero_le _, fun _ => ⟨0, ⟨#[]⟩⟩, fun i hi => absurd hi (Nat.not_lt_zero _)⟩
  · refine ⟨hl, hm, ?_⟩
    have key : ∀ i, i < len → ∃ r : Mn, ∃ b off, some x = some (⟨b, off, none⟩ : Addr) ∧ b < w.heap.size ∧ w.cell? ⟨b, off + i * 2, none⟩ = some (.int .i64 r.a) ∧ w.cell? ⟨b, off + i * 2 + 1, none⟩ = some (.string r.c) ∧ r.c.size ≤ maxLen := fun i hi => by
      obtain ⟨x0, x1, h0, _, h1, s1⟩ := hc i hi
      obtain ⟨b, off, spot⟩ := x
      obtain ⟨y0, _, z0, _⟩ := hc 0 (by omega)
      have hspot : spot = none := by simpa [Addr.add] using World.cell?_spot z0
      subst hspot
      rw [Go.WideShapes.add_plain] at h0 h1
      exact ⟨⟨x0, x1⟩, b, off, rfl, block_lt_of_cell (a := ⟨b, off + (i * 2 + 0), none⟩) h0, h0, h1, s1⟩
    exact ⟨fun i => if h : i < len then (key i h).choose else ⟨0, ⟨#[]⟩⟩, fun i hi => by
      have := (key i hi).choose_spec
      simpa only [dif_pos hi] using this⟩
namespace moneySums
set_option maxHeartbeats 4000000 in
set_option maxRecDepth 20000 in
theorem walk (cur : ByteArray) (A : Option Addr) (len cap : Nat) (w : World) (hc : cur.size ≤ maxLen) (hr : IsRecs23 w A len cap) (hX : XT w) (hP : TabP w) :
    Calls Tryd.prog 7 #[.string cur, .slice A len cap] w fun e w' => e = .returned (.bool true) ∧ Below w.heap.size w w' := by
  obtain ⟨hlc, hm, xs, hz⟩ := mons_of hr
  have HZ := Lib.hid hz
  have HX := Lib.hid hX
  have HP := Lib.hid hP
  have AW : Hid (∀ w, XT w → TabP w → _) := Lib.hid awake_any
  have hlm : len ≤ maxLen := Nat.le_trans hlc hm
  unfold maxLen at hlm
  by_cases c0 : 100 < len
  · have c0' : decide ((100 : Int) < (len : Int)) = true := decide_eq_true (by omega)
    clear c0 hc hr hX hP hz
    go_enter Tryd.func7, Tryd.ntmps7
    go_wp2_with fail
    refine (AW.out _ HX.out HP.out).mono ?_
    rintro e w1 ⟨rfl, hb⟩
    have HB := Lib.hid hb
    clear hb
    go_wp2_with fail
    go_ret
    exact ⟨rfl, HB.out⟩
  · have c0' : decide ((100 : Int) < (len : Int)) = false := decide_eq_false (by omega)
    have S1 := Lib.hid (fun w hz => sum_any cur A len cap xs hc (by omega) w hz)
    have S2 := Lib.hid (fun w hz => rsum_any cur A len cap xs hc (by omega) w hz)
    generalize stS cur xs len = t at *
    obtain ⟨v, s, E⟩ := t
    unfold mo at *
    clear c0 hc hr hX hP hz
    go_enter Tryd.func7, Tryd.ntmps7
    go_wp2_with fail
    refine (S1.out _ HZ.out).mono ?_
    rintro e v1 ⟨rfl, hb⟩
    have HB1 := Lib.hid (bre2 (Below.refl w.heap.size w) (Nat.le_refl _) hb)
    clear hb
    go_wp2_with fail
    have R1 := Lib.hid (Blk.new v1 23 #[.int .i64 v, .string s])
    refine (S2.out _ (HZ.out.call (al HB1.out))).mono ?_
    rintro e v2 ⟨rfl, hb⟩
    replace R1 := Lib.hid (R1.out.call hb)
    have HB2 := Lib.hid (bre2 (al HB1.out) (Nat.le_refl _) hb)
    clear hb
    have R1c0 := (R1.out.cell 0).trans (show _ = some (Value.int .i64 v) from rfl)
    have R1c1 := (R1.out.cell 1).trans (show _ = some (Value.string s) from rfl)
    have R1l := R1.out.lt
    have R1f := R1.out.frozen
    go_wp2_with fail
    clear R1c0 R1c1 R1l R1f
    have R2 := Lib.hid (Blk.new v2 23 #[.int .i64 v, .string s])
    replace R1 := Lib.hid (R1.out.alloc (.cells #[.int .i64 v, .string s] 23))
    refine (AW.out _ (HX.out.call (al HB2.out)) (HP.out.call (al HB2.out))).mono ?_
    rintro e v3 ⟨rfl, hb⟩
    replace R1 := Lib.hid (R1.out.call hb)
    replace R2 := Lib.hid (R2.out.call hb)
    have HB3 := Lib.hid (bre2 (al HB2.out) (Nat.le_refl _) hb)
    clear hb
    have R1c0 := (R1.out.cell 0).trans (show _ = some (Value.int .i64 v) from rfl)
    have R1c1 := (R1.out.cell 1).trans (show _ = some (Value.string s) from rfl)
    have R1l := R1.out.lt
    have R1f := R1.out.frozen
    have R2c0 := (R2.out.cell 0).trans (show _ = some (Value.int .i64 v) from rfl)
    have R2c1 := (R2.out.cell 1).trans (show _ = some (Value.string s) from rfl)
    have R2l := R2.out.lt
    have R2f := R2.out.frozen
    go_wp2_with fail
    go_ret
    exact ⟨rfl, HB3.out⟩
end moneySums
end Go.Proofs.YtompeealmgdfhaaDoor
