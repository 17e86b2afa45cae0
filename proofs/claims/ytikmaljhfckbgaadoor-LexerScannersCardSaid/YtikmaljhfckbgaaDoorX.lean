/- The walk of LexerPrints. -/
import Derived.Test.YtikmaljhfckbgaaDoorW
set_option linter.unusedVariables false
set_option linter.unusedSimpArgs false
namespace Go.Proofs.YtikmaljhfckbgaaDoor
open Go.Sort Go.ChangeShapes Go.WideShapes Go.ChangeAt Go.RowKit
def IsRecs30 (w : World) (a : Option Addr) (len cap : Nat) : Prop :=
  (a = none ∧ len = 0 ∧ cap = 0) ∨
  ∃ x : Addr, a = some x ∧ len ≤ cap ∧ cap ≤ maxLen ∧ ∀ i, i < len → ∃ (x0 : Int) (x1 : ByteArray) (x2 x3 : Int), w.cell? (x.add (i * 4 + 0)) = some (.int .i64 x0) ∧ (Lit.int .i64 x0).wf = true ∧ w.cell? (x.add (i * 4 + 1)) = some (.string x1) ∧ x1.size ≤ maxLen ∧
    w.cell? (x.add (i * 4 + 2)) = some (.int .i64 x2) ∧ (Lit.int .i64 x2).wf = true ∧ w.cell? (x.add (i * 4 + 3)) = some (.int .i64 x3) ∧ (Lit.int .i64 x3).wf = true
theorem wf_i64 {a : Int} (h : (Lit.int .i64 a).wf = true) : -9223372036854775808 ≤ a ∧ a ≤ 9223372036854775807 := by simp [Lit.wf, IntKind.min, IntKind.max, IntKind.signed, IntKind.bits] at h; omega
theorem recs_of {w : World} {a : Option Addr} {len cap : Nat} (h : IsRecs30 w a len cap) : len ≤ cap ∧ cap ≤ maxLen ∧ ∃ l : List Lx, l.length = len ∧ LxO w a l ∧ ∀ (i : Nat) (h : i < l.length), l[i].t.size ≤ maxLen ∧ -9223372036854775808 ≤ l[i].v ∧ l[i].v ≤ 9223372036854775807 := by
  rcases h with ⟨rfl, rfl, rfl⟩ | ⟨x, rfl, hl, hm, hc⟩
  · exact ⟨Nat.le_refl _, Nat.zero_le _, [], rfl, fun i hi => absurd hi (Nat.not_lt_zero _), fun i hi => absurd hi (Nat.not_lt_zero _)⟩
  · refine ⟨hl, hm, ?_⟩
    have key : ∀ i, i < len → ∃ r : Lx, ∃ b off, some x = some (⟨b, off, none⟩ : Addr) ∧ b < w.heap.size ∧ w.cell? ⟨b, off + i * 4, none⟩ = some (.int .i64 r.k) ∧ w.cell? ⟨b, off + i * 4 + 1, none⟩ = some (.string r.t) ∧ w.cell? ⟨b, off + i * 4 + 2, none⟩ = some (.int .i64 r.v) ∧ w.cell? ⟨b, off + i * 4 + 3, none⟩ = some (.int .i64 r.p) ∧ r.t.size ≤ maxLen ∧ -9223372036854775808 ≤ r.v ∧ r.v ≤ 9223372036854775807 := fun i hi => by
      obtain ⟨x0, x1, x2, x3, h0, _, h1, s1, h2, f2, h3, _⟩ := hc i hi
      obtain ⟨b, off, spot⟩ := x
      obtain ⟨y0, _, _, _, z0, _⟩ := hc 0 (by omega)
      have hspot : spot = none := by simpa [Addr.add] using World.cell?_spot z0
      subst hspot
      rw [Go.WideShapes.add_plain] at h0 h1 h2 h3
      exact ⟨⟨x0, x1, x2, x3⟩, b, off, rfl, block_lt_of_cell (a := ⟨b, off + (i * 4 + 0), none⟩) h0, h0, h1, h2, h3, s1, wf_i64 f2⟩
    have hl2 : ((List.range len).map fun i => if h : i < len then (key i h).choose else ⟨0, ⟨#[]⟩, 0, 0⟩).length = len := by simp
    have hget : ∀ i (h : i < len) (h2 : i < ((List.range len).map fun i => if h : i < len then (key i h).choose else (⟨0, ⟨#[]⟩, 0, 0⟩ : Lx)).length), ((List.range len).map fun i => if h : i < len then (key i h).choose else (⟨0, ⟨#[]⟩, 0, 0⟩ : Lx))[i] = (key i h).choose := fun i h h2 => by
      rw [List.getElem_map, List.getElem_range, dif_pos h]
    refine ⟨_, hl2, fun i hi => ?_, fun i hi => ?_⟩
    · have hi' : i < len := by rw [← hl2]; exact hi
      obtain ⟨b, off, e, hb, c0, c1, c2, c3, _⟩ := (key i hi').choose_spec
      refine ⟨b, off, e, hb, ?_⟩
      rw [hget i hi' hi]
      exact ⟨c0, c1, c2, c3⟩
    · have hi' : i < len := by rw [← hl2]; exact hi
      obtain ⟨b, off, e, hb, c0, c1, c2, c3, c4⟩ := (key i hi').choose_spec
      rw [hget i hi' hi]
      exact c4
set_option maxHeartbeats 2000000 in
set_option maxRecDepth 100000 in
theorem printsLong (A : Option Addr) (cap : Nat) (l : List Lx) (w : World) (hc : l.length ≤ cap) (hm : cap ≤ maxLen) (h : decide ((100 : Int) < (l.length : Int)) = true) (hT : LT w) : Calls Tryd.prog 4 #[.slice A l.length cap] w fun e w' => e = .returned (.bool true) ∧ Below w.heap.size w w' := by
  have HT := Lib.hid hT
  have HAW := Lib.hid awake_any
  clear hT
  unfold maxLen at hm
  go_enter Tryd.func4, Tryd.ntmps4
  go_wp2_with fail
  refine (HAW.out _ (HT.out.call (Below.refl w.heap.size w))).mono ?_
  rintro e wz ⟨rfl, hbz⟩
  have BZ := Lib.hid (below_call (Below.refl w.heap.size w) hbz)
  clear hbz
  go_wp2_with fail
  go_ret
  exact ⟨rfl, BZ.out⟩
set_option maxHeartbeats 2000000 in
set_option maxRecDepth 100000 in
theorem printsShort (A : Option Addr) (cap : Nat) (l : List Lx) (w : World) (hc : l.length ≤ cap) (hm : cap ≤ maxLen) (h : decide ((100 : Int) < (l.length : Int)) = false) (hl : l.length ≤ 100) (hL : LxO w A l) (hF : ∀ (i : Nat) (h : i < l.length), l[i].t.size ≤ maxLen ∧ -9223372036854775808 ≤ l[i].v ∧ l[i].v ≤ 9223372036854775807) (hT : LT w) : Calls Tryd.prog 4 #[.slice A l.length cap] w fun e w' => e = .returned (.bool true) ∧ Below w.heap.size w w' := by
  have HT := Lib.hid hT
  have HAW := Lib.hid awake_any
  clear hT
  have HLX := Lib.hid hL
  have HF := Lib.hid hF
  have HP := Lib.hid (fun w h1 h2 h3 => print_any A cap l hc hm h1 w h2 h3)
  have HQ := Lib.hid (fun w h1 h2 h3 => rprint_any A cap l hc hm h1 w h2 h3)
  have hs : ((prt l).toList == (prt l).toList) = true := beq_self_eq_true _
  generalize prt l = S at *
  have hli : (l.length : Int) ≤ 100 := by omega
  clear hL hF
  unfold maxLen at hm
  go_enter Tryd.func4, Tryd.ntmps4
  go_wp2_with fail
  go_loop [3] (fun x => ∃ k : Nat, k ≤ l.length ∧ x = .int .i64 k ∧ Hid (∀ (i : Nat) (h : i < l.length), i < k → l[i].t.size ≤ 200)) (fun x => l.length - (intOf x).toNat)
  case atStart => exact ⟨0, Nat.zero_le _, rfl, Lib.hid (fun i _ h => absurd h (Nat.not_lt_zero _))⟩
  case round =>
    obtain ⟨k, hk, rfl, HA⟩ := hrel
    by_cases hlt : k < l.length
    · have hlt' : (k : Int) < (l.length : Int) := by omega
      obtain ⟨g, off, rfl, hg, c0, c1, c2, c3⟩ := HLX.out k hlt
      by_cases h2 : 200 < l[k].t.size
      · have d1 : decide ((200 : Int) < (l[k].t.size : Int)) = true := decide_eq_true (by omega)
        generalize l[k].t = T at *
        clear c0 c2 c3 h2
        go_wp2_with fail
        refine (HAW.out _ (HT.out.call (Below.refl w.heap.size w))).mono ?_
        rintro e wz ⟨rfl, hbz⟩
        have BZ := Lib.hid (below_call (Below.refl w.heap.size w) hbz)
        clear hbz
        go_wp2_with fail
        go_ret
        exact ⟨rfl, BZ.out⟩
      · have d1 : decide ((200 : Int) < (l[k].t.size : Int)) = false := decide_eq_false (by omega)
        have HA2 : Hid (∀ (i : Nat) (h : i < l.length), i < k + 1 → l[i].t.size ≤ 200) := Lib.hid (fun i h hi => by
          by_cases he : i = k
          · subst he; omega
          · exact HA.out i h (by omega))
        generalize l[k].t = T at *
        clear c0 c2 c3 h2
        go_wp2_with fail
        go_round
        case rel => exact ⟨k + 1, by omega, by go_num, HA2⟩
        case measure => simp [intOf]; omega
    · have hge : ¬ (k : Int) < (l.length : Int) := by omega
      obtain rfl : k = l.length := by omega
      have HOK := Lib.hid (show okL l from ⟨by omega, fun i h => ⟨by have := HA.out i h h; omega, (HF.out i h).2⟩⟩)
      clear hlt
      go_wp2_with fail
      refine (HP.out _ HOK.out HLX.out HT.out).mono ?_
      rintro e w1 ⟨rfl, b1⟩
      have B1 := Lib.hid b1
      clear b1
      go_wp2_with fail
      refine (HQ.out _ HOK.out (HLX.out.call B1.out) (HT.out.call B1.out)).mono ?_
      rintro e w2 ⟨rfl, b2⟩
      have B2 := Lib.hid (below_call B1.out b2)
      clear b2
      go_wp2_with fail
      refine (HAW.out _ (HT.out.call B2.out)).mono ?_
      rintro e wz ⟨rfl, hbz⟩
      have BZ := Lib.hid (below_call B2.out hbz)
      clear hbz
      go_wp2_with fail
      go_ret
      exact ⟨rfl, BZ.out⟩
theorem lexerPrints.walk (A : Option Addr) (len cap : Nat) (w : World) (h : IsRecs30 w A len cap) (hT : LT w) : Calls Tryd.prog 4 #[.slice A len cap] w fun e w' => e = .returned (.bool true) ∧ Below w.heap.size w w' := by
  obtain ⟨hc, hm, l, rfl, hL, hF⟩ := recs_of h
  by_cases h100 : 100 < l.length
  · exact printsLong A cap l w hc hm (decide_eq_true (by omega)) hT
  · exact printsShort A cap l w hc hm (decide_eq_false (by omega)) (by omega) hL hF hT
end Go.Proofs.YtikmaljhfckbgaaDoor
