/- Steps of a scanner; LexerScanners where the text or the steps are too long. -/
import Derived.Test.YtikmaljhfckbgaaDoorSc
import Derived.Deep.RegionHeld3
import Derived.Test.YtikmaljhfckbgaaDoorY
set_option linter.unusedVariables false
set_option linter.unusedSimpArgs false
namespace Go.Proofs.YtikmaljhfckbgaaDoor
open Go.Sort Go.ChangeShapes Go.WideShapes Go.ChangeAt Go.RowKit
/-- what is told of a slice of steps that came in -/
def IsRecs41 (w : World) (a : Option Addr) (len cap : Nat) : Prop :=
  (a = none ∧ len = 0 ∧ cap = 0) ∨
  ∃ x : Addr, a = some x ∧ len ≤ cap ∧ cap ≤ maxLen ∧ ∀ i, i < len → ∃ (x0 : Int) (x1 : ByteArray), w.cell? (x.add (i * 2 + 0)) = some (.int .u8 x0) ∧ (Lit.int .u8 x0).wf = true ∧ w.cell? (x.add (i * 2 + 1)) = some (.string x1) ∧ x1.size ≤ maxLen
structure Sq where
  c : Int
  m : ByteArray
def SqAt (w : World) (A : Option Addr) (len : Nat) (xs : Nat → Sq) : Prop :=
  ∀ i, i < len → ∃ b off, A = some ⟨b, off, none⟩ ∧ b < w.heap.size ∧ w.cell? ⟨b, off + i * 2, none⟩ = some (.int .u8 (xs i).c) ∧ w.cell? ⟨b, off + i * 2 + 1, none⟩ = some (.string (xs i).m)
theorem sqs_of {w : World} {a : Option Addr} {len cap : Nat} (h : IsRecs41 w a len cap) : len ≤ cap ∧ cap ≤ maxLen ∧ ∃ xs, SqAt w a len xs := by
  rcases h with ⟨rfl, rfl, rfl⟩ | ⟨x, rfl, hl, hm, hc⟩
  · exact ⟨Nat.le_refl _, Nat.zero_le _, fun _ => ⟨0, ⟨#[]⟩⟩, fun i hi => absurd hi (Nat.not_lt_zero _)⟩
  · refine ⟨hl, hm, ?_⟩
    have key : ∀ i, i < len → ∃ r : Sq, ∃ b off, some x = some (⟨b, off, none⟩ : Addr) ∧ b < w.heap.size ∧ w.cell? ⟨b, off + i * 2, none⟩ = some (.int .u8 r.c) ∧ w.cell? ⟨b, off + i * 2 + 1, none⟩ = some (.string r.m) := fun i hi => by
      obtain ⟨x0, x1, h0, f0, h1, -⟩ := hc i hi
      obtain ⟨b, off, spot⟩ := x
      obtain ⟨y0, _, z0, _⟩ := hc 0 (by omega)
      have hspot : spot = none := by simpa [Addr.add] using World.cell?_spot z0
      subst hspot
      rw [Go.WideShapes.add_plain] at h0 h1
      exact ⟨⟨x0, x1⟩, b, off, rfl, block_lt_of_cell (a := ⟨b, off + (i * 2 + 0), none⟩) h0, h0, h1⟩
    exact ⟨fun i => if h : i < len then (key i h).choose else ⟨0, ⟨#[]⟩⟩, fun i hi => by
      have := (key i hi).choose_spec
      simpa only [dif_pos hi] using this⟩
/-- what the round's drawing region may lean on -/
abbrev SQ (b o : Nat) (c : Int) (m : ByteArray) (w' : World) : Prop := w'.cell? ⟨b, o, none⟩ = some (.int .u8 c) ∧ w'.cell? ⟨b, o + 1, none⟩ = some (.string m)
theorem SQ.drew {b o : Nat} {c : Int} {m : ByteArray} {w' : World} (h : SQ b o c m w') : SQ b o c m w'.drew := h
theorem SQ.below {b o B : Nat} {c : Int} {m : ByteArray} {w' w1 : World} (h : SQ b o c m w') (hb : Below B w' w1) (hg : b < B) : SQ b o c m w1 := ⟨(hb.cell (p := ⟨b, _, none⟩) hg).trans h.1, (hb.cell (p := ⟨b, _, none⟩) hg).trans h.2⟩
set_option maxHeartbeats 2000000 in
set_option maxRecDepth 100000 in
theorem scLonga (s : ByteArray) (A : Option Addr) (len cap : Nat) (w : World) (h : decide ((1000 : Int) < (s.size : Int)) = true) (hs : s.size ≤ maxLen) (hl : len ≤ maxLen) (hT : LT w) : Calls Tryd.prog 6 #[.string s, .slice A len cap] w fun e w' => e = .returned (.bool true) ∧ Below w.heap.size w w' := by
  have HT := Lib.hid hT
  have HAW := Lib.hid awake_any
  unfold maxLen at hs hl
  clear hT
  go_enter Tryd.func6, Tryd.ntmps6
  go_wp2_with fail
  refine (HAW.out _ (HT.out.call (Below.refl w.heap.size w))).mono ?_
  rintro e wz ⟨rfl, hbz⟩
  have BZ := Lib.hid (below_call (Below.refl w.heap.size w) hbz)
  clear hbz
  go_wp2_with fail
  go_ret
  exact ⟨rfl, BZ.out⟩
set_option maxHeartbeats 2000000 in
set_option maxRecDepth 100000 in
theorem scLongb (s : ByteArray) (A : Option Addr) (len cap : Nat) (w : World) (h0 : decide ((1000 : Int) < (s.size : Int)) = false) (h : decide ((60 : Int) < (len : Int)) = true) (hs : s.size ≤ maxLen) (hl : len ≤ maxLen) (hT : LT w) : Calls Tryd.prog 6 #[.string s, .slice A len cap] w fun e w' => e = .returned (.bool true) ∧ Below w.heap.size w w' := by
  have HT := Lib.hid hT
  have HAW := Lib.hid awake_any
  unfold maxLen at hs hl
  clear hT
  go_enter Tryd.func6, Tryd.ntmps6
  go_wp2_with fail
  refine (HAW.out _ (HT.out.call (Below.refl w.heap.size w))).mono ?_
  rintro e wz ⟨rfl, hbz⟩
  have BZ := Lib.hid (below_call (Below.refl w.heap.size w) hbz)
  clear hbz
  go_wp2_with fail
  go_ret
  exact ⟨rfl, BZ.out⟩
end Go.Proofs.YtikmaljhfckbgaaDoor
