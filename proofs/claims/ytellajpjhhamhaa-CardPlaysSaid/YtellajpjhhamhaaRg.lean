/- CardPlays: New of both; the walk. -/
import Derived.Test.YtellajpjhhamhaaRf
set_option linter.unusedVariables false
set_option linter.unusedSimpArgs false
namespace Go.Proofs.Ytellajpjhhamhaa
open Go.ChangeShapes Go.WideShapes Go.ChangeAt Go.RowKit
theorem wf_u8 {a : Int} (h : (Lit.int .u8 a).wf = true) : 0 ≤ a ∧ a < 256 := by simp [Lit.wf, IntKind.min, IntKind.max, IntKind.signed, IntKind.bits] at h; omega
/-- what is told of a slice of calls that came in -/
def IsRecs35 (w : World) (a : Option Addr) (len cap : Nat) : Prop :=
  (a = none ∧ len = 0 ∧ cap = 0) ∨
  ∃ x : Addr, a = some x ∧ len ≤ cap ∧ cap ≤ maxLen ∧ ∀ i, i < len → ∃ (x0 x1 x2 x3 : Int), w.cell? (x.add (i * 4 + 0)) = some (.int .u8 x0) ∧ (Lit.int .u8 x0).wf = true ∧ w.cell? (x.add (i * 4 + 1)) = some (.int .i64 x1) ∧ (Lit.int .i64 x1).wf = true ∧
    w.cell? (x.add (i * 4 + 2)) = some (.int .i64 x2) ∧ (Lit.int .i64 x2).wf = true ∧ w.cell? (x.add (i * 4 + 3)) = some (.int .i64 x3) ∧ (Lit.int .i64 x3).wf = true
theorem recs_at {w : World} {a : Option Addr} {len cap : Nat} (h : IsRecs35 w a len cap) : len ≤ cap ∧ cap ≤ maxLen ∧
    ∀ i, i < len → ∃ b off k n u f, a = some ⟨b, off, none⟩ ∧ b < w.heap.size ∧ 0 ≤ k ∧ k ≤ 255 ∧ w.cell? ⟨b, off + i * 4, none⟩ = some (.int .u8 k) ∧ w.cell? ⟨b, off + i * 4 + 1, none⟩ = some (.int .i64 n) ∧
      w.cell? ⟨b, off + i * 4 + 2, none⟩ = some (.int .i64 u) ∧ w.cell? ⟨b, off + i * 4 + 3, none⟩ = some (.int .i64 f) := by
  rcases h with ⟨rfl, rfl, rfl⟩ | ⟨x, rfl, hl, hm, hc⟩
  · exact ⟨Nat.le_refl _, Nat.zero_le _, fun i hi => absurd hi (Nat.not_lt_zero _)⟩
  · refine ⟨hl, hm, fun i hi => ?_⟩
    obtain ⟨x0, x1, x2, x3, h0, g0, h1, -, h2, -, h3, -⟩ := hc i hi
    obtain ⟨y0, _, _, _, z0, _⟩ := hc 0 (by omega)
    obtain ⟨b, off, spot⟩ := x
    have hspot : spot = none := by simpa [Addr.add] using World.cell?_spot z0
    subst hspot
    rw [Go.WideShapes.add_plain] at h0 h1 h2 h3
    obtain ⟨q0, q1⟩ := wf_u8 g0
    exact ⟨b, off, x0, x1, x2, x3, rfl, block_lt_of_cell (a := ⟨b, off + (i * 4 + 0), none⟩) h0, q0, by omega, h0, h1, h2, h3⟩
theorem newBoth (nm : ByteArray) (ex am cn : Int) (hs : nm.size ≤ 100) : (∃ E : Int, (∀ w, Calls Try.prog 9 #[.string nm, .int .i64 ex, .int .i64 am, .int .i64 cn] w fun e w' => e = .returned (.tuple #[.pointer none, .int .i64 E]) ∧ Below w.heap.size w w') ∧ (∀ w, Calls Try.prog 10 #[.string nm, .int .i64 ex, .int .i64 am, .int .i64 cn] w fun e w' => e = .returned (.tuple #[.pointer none, .int .i64 E]) ∧ Below w.heap.size w w')) ∨ (∃ s : Cs, s.ok ∧ (∀ w, Calls Try.prog 9 #[.string nm, .int .i64 ex, .int .i64 am, .int .i64 cn] w fun e w' => ∃ g, e = .returned (.tuple #[.pointer (some ⟨g, 0, none⟩), .int .i64 0]) ∧ w.heap.size ≤ g ∧ g < w'.heap.size ∧ Blk w' g 57 (pc s) ∧ Below w.heap.size w w') ∧ (∀ w, Calls Try.prog 10 #[.string nm, .int .i64 ex, .int .i64 am, .int .i64 cn] w fun e w' => ∃ g, e = .returned (.tuple #[.pointer (some ⟨g, 0, none⟩), .int .i64 0]) ∧ w.heap.size ≤ g ∧ g < w'.heap.size ∧ Blk w' g 60 (rcs s) ∧ Below w.heap.size w w')) := by
  by_cases h0 : chkP nm = 0
  · by_cases h1 : 0 ≤ ex ∧ ex ≤ 99999
    · by_cases h2 : 0 ≤ am ∧ am ≤ 999999999999
      · by_cases h3 : cn < 0
        · exact .inl ⟨4, fun w => new9_neg nm ex am cn w hs h0 h1 h2 h3, fun w => new10_neg nm ex am cn w hs h0 h1 h2 h3⟩
        · by_cases h4 : 1000 < cn
          · exact .inl ⟨4, fun w => new9_big nm ex am cn w hs h0 h1 h2 h4, fun w => new10_big nm ex am cn w hs h0 h1 h2 h4⟩
          · exact .inr ⟨⟨nm, ex, 1, am, cn, false, 0, 0, 0⟩, ⟨⟨Int.le_refl 0, (by decide : (0 : Int) ≤ 999999999999)⟩, ⟨Int.le_refl 0, (by decide : (0 : Int) ≤ 1000)⟩, h2.2, by dsimp only; omega⟩, fun w => new9_ok nm ex am cn w hs h0 h1 h2 (by omega) (by omega), fun w => new10_ok nm ex am cn w hs h0 h1 h2 (by omega) (by omega)⟩
      · exact .inl ⟨4, fun w => new9_am nm ex am cn w hs h0 h1 h2, fun w => new10_am nm ex am cn w hs h0 h1 h2⟩
    · exact .inl ⟨14, fun w => new9_date nm ex am cn w hs h0 h1, fun w => new10_date nm ex am cn w hs h0 h1⟩
  · exact .inl ⟨chkP nm, fun w => new9_chk nm ex am cn w hs _ rfl h0, fun w => new10_chk nm ex am cn w hs _ rfl h0⟩
abbrev gv (nm : ByteArray) (ex am cn : Int) : Array Value := #[.string nm, .int .i64 ex, .int .i64 am, .int .i64 cn]
set_option maxHeartbeats 2000000 in
theorem cpLonga (nm : ByteArray) (ex am cn : Int) (A : Option Addr) (len cap : Nat) (w : World) (c0 : decide ((100 : Int) < (nm.size : Int)) = true) (hs : nm.size ≤ maxLen) (hl : len ≤ maxLen) : Calls Try.prog 3 #[.agg #[.string nm, .int .i64 ex, .int .i64 am, .int .i64 cn], .slice A len cap] w fun e w' => e = .returned (.bool true) ∧ Below w.heap.size w w' := by
  have HA := Lib.hid awake_any
  have HB0 := Lib.hid (al_ (w := w) (o := .cells (gv nm ex am cn) 23))
  dsimp only [gv] at HB0
  unfold maxLen at hs hl
  go_enter Try.func3, Try.ntmps3
  go_wp2_with fail
  refine (HA.out _).mono ?_
  rintro e w1 ⟨rfl, hb⟩
  have HB := Lib.hid (below_call HB0.out hb)
  clear hb
  go_wp2_with fail
  go_ret
  exact ⟨rfl, HB.out⟩
set_option maxHeartbeats 2000000 in
theorem cpLongb (nm : ByteArray) (ex am cn : Int) (A : Option Addr) (len cap : Nat) (w : World) (c0 : decide ((100 : Int) < (nm.size : Int)) = false) (c1 : decide ((80 : Int) < (len : Int)) = true) (hs : nm.size ≤ maxLen) (hl : len ≤ maxLen) : Calls Try.prog 3 #[.agg #[.string nm, .int .i64 ex, .int .i64 am, .int .i64 cn], .slice A len cap] w fun e w' => e = .returned (.bool true) ∧ Below w.heap.size w w' := by
  have HA := Lib.hid awake_any
  have HB0 := Lib.hid (al_ (w := w) (o := .cells (gv nm ex am cn) 23))
  dsimp only [gv] at HB0
  unfold maxLen at hs hl
  go_enter Try.func3, Try.ntmps3
  go_wp2_with fail
  refine (HA.out _).mono ?_
  rintro e w1 ⟨rfl, hb⟩
  have HB := Lib.hid (below_call HB0.out hb)
  clear hb
  go_wp2_with fail
  go_ret
  exact ⟨rfl, HB.out⟩
set_option maxHeartbeats 4000000 in
set_option maxRecDepth 20000 in
theorem cpGood (nm : ByteArray) (ex am cn : Int) (A : Option Addr) (len cap : Nat) (w : World) (c0 : decide ((100 : Int) < (nm.size : Int)) = false) (c1 : decide ((80 : Int) < (len : Int)) = false) (h1 : nm.size ≤ 100) (h2 : len ≤ 80) (hr : IsRecs35 w A len cap) (s : Cs) (hok : s.ok) (hN9 : (∀ w, Calls Try.prog 9 #[.string nm, .int .i64 ex, .int .i64 am, .int .i64 cn] w fun e w' => ∃ g, e = .returned (.tuple #[.pointer (some ⟨g, 0, none⟩), .int .i64 0]) ∧ w.heap.size ≤ g ∧ g < w'.heap.size ∧ Blk w' g 57 (pc s) ∧ Below w.heap.size w w')) (hN10 : (∀ w, Calls Try.prog 10 #[.string nm, .int .i64 ex, .int .i64 am, .int .i64 cn] w fun e w' => ∃ g, e = .returned (.tuple #[.pointer (some ⟨g, 0, none⟩), .int .i64 0]) ∧ w.heap.size ≤ g ∧ g < w'.heap.size ∧ Blk w' g 60 (rcs s) ∧ Below w.heap.size w w')) : Calls Try.prog 3 #[.agg #[.string nm, .int .i64 ex, .int .i64 am, .int .i64 cn], .slice A len cap] w fun e w' => e = .returned (.bool true) ∧ Below w.heap.size w w' := by
  have HZ := Lib.hid (recs_at hr).2.2
  have HA := Lib.hid awake_any
  have h1i : (nm.size : Int) ≤ 100 := by omega
  have h2i : (len : Int) ≤ 80 := by omega
  have HF0 := Lib.hid (Blk.new w 23 (gv nm ex am cn))
  have HB0 := Lib.hid (al_ (w := w) (o := .cells (gv nm ex am cn) 23))
  have N9 := Lib.hid hN9
  have N10 := Lib.hid hN10
  clear hr hN9 hN10
  dsimp only [gv] at HB0 HF0
  have HOK := Lib.hid (show okO (some s) from hok)
  clear hok
  go_enter Try.func3, Try.ntmps3
  go_wp2_with fail
  refine (N9.out _).mono ?_
  rintro e w1 ⟨g, rfl, hg, hgl, hk, hb⟩
  have HF1 := Lib.hid (HF0.out.call hb)
  have HG1 := Lib.hid (show CAt 57 pc g w1 (.pointer (some ⟨g, 0, none⟩)) (some s) from ⟨hgl, rfl, hk⟩)
  have HB1 := Lib.hid (below_call HB0.out hb)
  have HBG := Lib.hid (Nat.le_trans HB0.out.size hg)
  have HGL := Lib.hid hgl
  have cx0 : w1.cell? ⟨w.heap.size, 0, none⟩ = some (.string nm) := HF1.out.cell 0
  have cx1 : w1.cell? ⟨w.heap.size, 1, none⟩ = some (.int .i64 ex) := HF1.out.cell 1
  have cx2 : w1.cell? ⟨w.heap.size, 2, none⟩ = some (.int .i64 am) := HF1.out.cell 2
  have cx3 : w1.cell? ⟨w.heap.size, 3, none⟩ = some (.int .i64 cn) := HF1.out.cell 3
  have hlx := HF1.out.lt
  clear hg hgl hk hb
  go_wp2_with fail
  refine (N10.out _).mono ?_
  rintro e w2 ⟨f, rfl, hf, hfl, hk, hb⟩
  have HG2 := Lib.hid (HG1.out.call hb)
  have HH2 := Lib.hid (show CAt 60 rcs f w2 (.pointer (some ⟨f, 0, none⟩)) (some s) from ⟨hfl, rfl, hk⟩)
  have HB2 := Lib.hid (below_call HB1.out hb)
  have HBF := Lib.hid (Nat.le_trans HB1.out.size hf)
  have HD1 : Hid (g ≠ f) := Lib.hid (by have := HGL.out; omega)
  have HD2 : Hid (f ≠ g) := Lib.hid (Ne.symm HD1.out)
  clear hf hfl hk hb HG1 HB1 HGL HB0 HF0 HF1 N9 N10 cx0 cx1 cx2 cx3 hlx
  go_wp2_with fail
  generalize Value.pointer (some ⟨g, 0, none⟩) = va at *
  generalize Value.pointer (some ⟨f, 0, none⟩) = vb at *
  go_loopw [9] (fun y wr => ∃ i : Nat, Hid (i ≤ len) ∧ y = .int .i64 i ∧ Hid (Below w.heap.size w wr) ∧ ∃ S : Option Cs, Hid (okO S) ∧ Hid (CAt 57 pc g wr va S) ∧ Hid (CAt 60 rcs f wr vb S)) (fun y _ => len - (intOf y).toNat)
  case atStart => exact ⟨0, Lib.hid (Nat.zero_le _), rfl, HB2, _, HOK, HG2, HH2⟩
  case round =>
    obtain ⟨i, hi, rfl, hB, S, hS, hGr, hHr⟩ := hrel
    have hi1 := hi.out
    by_cases hik : i < len
    · have hlt : (i : Int) < (len : Int) := by omega
      obtain ⟨b, off, c, ev, da, m, rfl, hbw, -, -, g0, g1, g2, g3⟩ := HZ.out i hik
      have k0 := (hB.out.cell (p := ⟨b, _, none⟩) hbw).trans g0
      have k1 := (hB.out.cell (p := ⟨b, _, none⟩) hbw).trans g1
      have k2 := (hB.out.cell (p := ⟨b, _, none⟩) hbw).trans g2
      have k3 := (hB.out.cell (p := ⟨b, _, none⟩) hbw).trans g3
      have hle1 : Hid (i + 1 ≤ len) := Lib.hid (by omega)
      have HPL := Lib.hid (play_any w.heap.size g f va vb S c ev da m wr hS.out HBG.out HBF.out (.inr HD1.out) (.inr HD2.out) hGr.out hHr.out)
      clear g0 g1 g2 g3 HZ hi1 hbw
      go_wp2_with fail
      refine HPL.out.mono ?_
      rintro z u1 ⟨rfl, S', hok, hs1, hs2, hb⟩
      obtain ⟨x, T1, T2⟩ := stepState S'
      have HX1 := Lib.hid T1
      have HX2 := Lib.hid T2
      have HOK1 := Lib.hid hok
      have HG3 := Lib.hid hs1
      have HH3 := Lib.hid hs2
      have HB3 := Lib.hid (hB.out.trans hb)
      clear T1 T2 hok hs1 hs2 hb
      go_wp2_with fail
      refine (HX1.out _ _ _ HG3.out).mono ?_
      rintro z u2 ⟨rfl, hs1, hb1, hk1⟩
      have HG4 := Lib.hid hs1
      have HH4 := Lib.hid (HH3.out.keep hk1 hb1.size (.inr HD2.out))
      have HB4 := Lib.hid (HB3.out.trans (hb1.mono HBG.out))
      clear hs1 hb1 hk1
      go_wp2_with fail
      refine (HX2.out _ _ _ HH4.out).mono ?_
      rintro z u3 ⟨rfl, hs2, hb2, hk2⟩
      have HG5 := Lib.hid (HG4.out.keep hk2 hb2.size (.inr HD1.out))
      have HH5 := Lib.hid hs2
      have HB5 := Lib.hid (HB4.out.trans (hb2.mono HBF.out))
      clear hs2 hb2 hk2
      go_wp2_with fail
      go_roundw
      case rel => exact ⟨i + 1, hle1, by go_num, HB5, _, HOK1, HG5, HH5⟩
      case measure => have := hle1.out; simp [intOf]; omega
    · have hge : ¬ (i : Int) < (len : Int) := by omega
      obtain ⟨t, T1, T2⟩ := stepNumber S
      obtain ⟨x, T3, T4⟩ := stepExpiry S
      have HX1 := Lib.hid T1
      have HX2 := Lib.hid T2
      have HX3 := Lib.hid T3
      have HX4 := Lib.hid T4
      have hq : (t.toList == t.toList) = true := by simp
      clear T1 T2 T3 T4
      go_wp2_with fail
      refine (HX1.out _ _ _ hGr.out).mono ?_
      rintro z u2 ⟨rfl, hs1, hb1, hk1⟩
      have HG4 := Lib.hid hs1
      have HH4 := Lib.hid (hHr.out.keep hk1 hb1.size (.inr HD2.out))
      have HB4 := Lib.hid (hB.out.trans (hb1.mono HBG.out))
      clear hs1 hb1 hk1
      go_wp2_with fail
      refine (HX2.out _ _ _ HH4.out).mono ?_
      rintro z u3 ⟨rfl, hs2, hb2, hk2⟩
      have HG5 := Lib.hid (HG4.out.keep hk2 hb2.size (.inr HD1.out))
      have HH5 := Lib.hid hs2
      have HB5 := Lib.hid (HB4.out.trans (hb2.mono HBF.out))
      clear hs2 hb2 hk2
      go_wp2_with fail
      refine (HX3.out _ _ _ HG5.out).mono ?_
      rintro z u4 ⟨rfl, hs1, hb1, hk1⟩
      have HH6 := Lib.hid (HH5.out.keep hk1 hb1.size (.inr HD2.out))
      have HB6 := Lib.hid (HB5.out.trans (hb1.mono HBG.out))
      clear hs1 hb1 hk1
      go_wp2_with fail
      refine (HX4.out _ _ _ HH6.out).mono ?_
      rintro z u5 ⟨rfl, hs2, hb2, hk2⟩
      have HB7 := Lib.hid (HB6.out.trans (hb2.mono HBF.out))
      clear hs2 hb2 hk2
      go_wp2_with fail
      refine (HA.out _).mono ?_
      rintro e w9 ⟨rfl, hb⟩
      have HB9 := Lib.hid (below_call HB7.out hb)
      clear hb
      go_wp2_with fail
      go_ret
      exact ⟨rfl, HB9.out⟩
set_option maxHeartbeats 4000000 in
set_option maxRecDepth 20000 in
theorem cpBad (nm : ByteArray) (ex am cn : Int) (A : Option Addr) (len cap : Nat) (w : World) (c0 : decide ((100 : Int) < (nm.size : Int)) = false) (c1 : decide ((80 : Int) < (len : Int)) = false) (h1 : nm.size ≤ 100) (h2 : len ≤ 80) (hr : IsRecs35 w A len cap) (E : Int) (hN9 : (∀ w, Calls Try.prog 9 #[.string nm, .int .i64 ex, .int .i64 am, .int .i64 cn] w fun e w' => e = .returned (.tuple #[.pointer none, .int .i64 E]) ∧ Below w.heap.size w w')) (hN10 : (∀ w, Calls Try.prog 10 #[.string nm, .int .i64 ex, .int .i64 am, .int .i64 cn] w fun e w' => e = .returned (.tuple #[.pointer none, .int .i64 E]) ∧ Below w.heap.size w w')) : Calls Try.prog 3 #[.agg #[.string nm, .int .i64 ex, .int .i64 am, .int .i64 cn], .slice A len cap] w fun e w' => e = .returned (.bool true) ∧ Below w.heap.size w w' := by
  have HZ := Lib.hid (recs_at hr).2.2
  have HA := Lib.hid awake_any
  have h1i : (nm.size : Int) ≤ 100 := by omega
  have h2i : (len : Int) ≤ 80 := by omega
  have HF0 := Lib.hid (Blk.new w 23 (gv nm ex am cn))
  have HB0 := Lib.hid (al_ (w := w) (o := .cells (gv nm ex am cn) 23))
  have N9 := Lib.hid hN9
  have N10 := Lib.hid hN10
  clear hr hN9 hN10
  dsimp only [gv] at HB0 HF0
  have hEE : (E != E) = false := by simp
  go_enter Try.func3, Try.ntmps3
  go_wp2_with fail
  refine (N9.out _).mono ?_
  rintro e w1 ⟨rfl, hb⟩
  have HF1 := Lib.hid (HF0.out.call hb)
  have HB1 := Lib.hid (below_call HB0.out hb)
  have cx0 : w1.cell? ⟨w.heap.size, 0, none⟩ = some (.string nm) := HF1.out.cell 0
  have cx1 : w1.cell? ⟨w.heap.size, 1, none⟩ = some (.int .i64 ex) := HF1.out.cell 1
  have cx2 : w1.cell? ⟨w.heap.size, 2, none⟩ = some (.int .i64 am) := HF1.out.cell 2
  have cx3 : w1.cell? ⟨w.heap.size, 3, none⟩ = some (.int .i64 cn) := HF1.out.cell 3
  have hlx := HF1.out.lt
  clear hb
  go_wp2_with fail
  refine (N10.out _).mono ?_
  rintro e w2 ⟨rfl, hb⟩
  have HG2 := Lib.hid (show CAt 57 pc w.heap.size w2 (.pointer none) none from ⟨Nat.lt_of_lt_of_le hlx hb.size, rfl⟩)
  have HH2 := Lib.hid (show CAt 60 rcs w.heap.size w2 (.pointer none) none from ⟨Nat.lt_of_lt_of_le hlx hb.size, rfl⟩)
  have HB2 := Lib.hid (below_call HB1.out hb)
  have HBG := Lib.hid (Nat.le_refl w.heap.size)
  have HBF := Lib.hid (Nat.le_refl w.heap.size)
  have HOK := Lib.hid (show okO none from trivial)
  clear hb HB1 HB0 HF0 HF1 N9 N10 cx0 cx1 cx2 cx3 hlx
  go_wp2_with fail
  go_loopw [9] (fun y wr => ∃ i : Nat, Hid (i ≤ len) ∧ y = .int .i64 i ∧ Hid (Below w.heap.size w wr) ∧ ∃ S : Option Cs, Hid (okO S) ∧ Hid (CAt 57 pc w.heap.size wr (.pointer none) S) ∧ Hid (CAt 60 rcs w.heap.size wr (.pointer none) S)) (fun y _ => len - (intOf y).toNat)
  case atStart => exact ⟨0, Lib.hid (Nat.zero_le _), rfl, HB2, _, HOK, HG2, HH2⟩
  case round =>
    obtain ⟨i, hi, rfl, hB, S, hS, hGr, hHr⟩ := hrel
    have hi1 := hi.out
    by_cases hik : i < len
    · have hlt : (i : Int) < (len : Int) := by omega
      obtain ⟨b, off, c, ev, da, m, rfl, hbw, -, -, g0, g1, g2, g3⟩ := HZ.out i hik
      have k0 := (hB.out.cell (p := ⟨b, _, none⟩) hbw).trans g0
      have k1 := (hB.out.cell (p := ⟨b, _, none⟩) hbw).trans g1
      have k2 := (hB.out.cell (p := ⟨b, _, none⟩) hbw).trans g2
      have k3 := (hB.out.cell (p := ⟨b, _, none⟩) hbw).trans g3
      have hle1 : Hid (i + 1 ≤ len) := Lib.hid (by omega)
      have HPL := Lib.hid (play_any w.heap.size w.heap.size w.heap.size (.pointer none) (.pointer none) S c ev da m wr hS.out HBG.out HBF.out (.inl rfl) (.inl rfl) hGr.out hHr.out)
      clear g0 g1 g2 g3 HZ hi1 hbw
      go_wp2_with fail
      refine HPL.out.mono ?_
      rintro z u1 ⟨rfl, S', hok, hs1, hs2, hb⟩
      obtain ⟨x, T1, T2⟩ := stepState S'
      have HX1 := Lib.hid T1
      have HX2 := Lib.hid T2
      have HOK1 := Lib.hid hok
      have HG3 := Lib.hid hs1
      have HH3 := Lib.hid hs2
      have HB3 := Lib.hid (hB.out.trans hb)
      clear T1 T2 hok hs1 hs2 hb
      go_wp2_with fail
      refine (HX1.out _ _ _ HG3.out).mono ?_
      rintro z u2 ⟨rfl, hs1, hb1, hk1⟩
      have HG4 := Lib.hid hs1
      have HH4 := Lib.hid (HH3.out.keep hk1 hb1.size (.inl rfl))
      have HB4 := Lib.hid (HB3.out.trans (hb1.mono HBG.out))
      clear hs1 hb1 hk1
      go_wp2_with fail
      refine (HX2.out _ _ _ HH4.out).mono ?_
      rintro z u3 ⟨rfl, hs2, hb2, hk2⟩
      have HG5 := Lib.hid (HG4.out.keep hk2 hb2.size (.inl rfl))
      have HH5 := Lib.hid hs2
      have HB5 := Lib.hid (HB4.out.trans (hb2.mono HBF.out))
      clear hs2 hb2 hk2
      go_wp2_with fail
      go_roundw
      case rel => exact ⟨i + 1, hle1, by go_num, HB5, _, HOK1, HG5, HH5⟩
      case measure => have := hle1.out; simp [intOf]; omega
    · have hge : ¬ (i : Int) < (len : Int) := by omega
      obtain ⟨t, T1, T2⟩ := stepNumber S
      obtain ⟨x, T3, T4⟩ := stepExpiry S
      have HX1 := Lib.hid T1
      have HX2 := Lib.hid T2
      have HX3 := Lib.hid T3
      have HX4 := Lib.hid T4
      have hq : (t.toList == t.toList) = true := by simp
      clear T1 T2 T3 T4
      go_wp2_with fail
      refine (HX1.out _ _ _ hGr.out).mono ?_
      rintro z u2 ⟨rfl, hs1, hb1, hk1⟩
      have HG4 := Lib.hid hs1
      have HH4 := Lib.hid (hHr.out.keep hk1 hb1.size (.inl rfl))
      have HB4 := Lib.hid (hB.out.trans (hb1.mono HBG.out))
      clear hs1 hb1 hk1
      go_wp2_with fail
      refine (HX2.out _ _ _ HH4.out).mono ?_
      rintro z u3 ⟨rfl, hs2, hb2, hk2⟩
      have HG5 := Lib.hid (HG4.out.keep hk2 hb2.size (.inl rfl))
      have HH5 := Lib.hid hs2
      have HB5 := Lib.hid (HB4.out.trans (hb2.mono HBF.out))
      clear hs2 hb2 hk2
      go_wp2_with fail
      refine (HX3.out _ _ _ HG5.out).mono ?_
      rintro z u4 ⟨rfl, hs1, hb1, hk1⟩
      have HH6 := Lib.hid (HH5.out.keep hk1 hb1.size (.inl rfl))
      have HB6 := Lib.hid (HB5.out.trans (hb1.mono HBG.out))
      clear hs1 hb1 hk1
      go_wp2_with fail
      refine (HX4.out _ _ _ HH6.out).mono ?_
      rintro z u5 ⟨rfl, hs2, hb2, hk2⟩
      have HB7 := Lib.hid (HB6.out.trans (hb2.mono HBF.out))
      clear hs2 hb2 hk2
      go_wp2_with fail
      refine (HA.out _).mono ?_
      rintro e w9 ⟨rfl, hb⟩
      have HB9 := Lib.hid (below_call HB7.out hb)
      clear hb
      go_wp2_with fail
      go_ret
      exact ⟨rfl, HB9.out⟩
theorem cardPlays.walk (nm : ByteArray) (ex am cn : Int) (A : Option Addr) (len cap : Nat) (w : World) (hs : nm.size ≤ maxLen) (_ : (Lit.int .i64 ex).wf = true) (_ : (Lit.int .i64 am).wf = true) (_ : (Lit.int .i64 cn).wf = true) (hr : IsRecs35 w A len cap) : Calls Try.prog 3 #[.agg #[.string nm, .int .i64 ex, .int .i64 am, .int .i64 cn], .slice A len cap] w fun e w' => e = .returned (.bool true) ∧ Below w.heap.size w w' := by
  have hlc := (recs_at hr).1
  have hcm := (recs_at hr).2.1
  by_cases h1 : 100 < nm.size
  · exact cpLonga nm ex am cn A len cap w (decide_eq_true (by omega)) hs (by omega)
  have c0 : decide ((100 : Int) < (nm.size : Int)) = false := decide_eq_false (by omega)
  by_cases h2 : 80 < len
  · exact cpLongb nm ex am cn A len cap w c0 (decide_eq_true (by omega)) hs (by omega)
  have c1 : decide ((80 : Int) < (len : Int)) = false := decide_eq_false (by omega)
  rcases newBoth nm ex am cn (by omega) with ⟨E, n1, n2⟩ | ⟨s, hok, n1, n2⟩
  · exact cpBad nm ex am cn A len cap w c0 c1 (by omega) (by omega) hr E n1 n2
  · exact cpGood nm ex am cn A len cap w c0 c1 (by omega) (by omega) hr s hok n1 n2
end Go.Proofs.Ytellajpjhhamhaa
