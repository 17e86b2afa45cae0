/- LexerScanners, ok -/
import Derived.Test.YtikmaljhfckbgaaDoorSd
import Derived.Deep.RegionHeld3
import Derived.Test.YtikmaljhfckbgaaDoorY
set_option linter.unusedVariables false
set_option linter.unusedSimpArgs false
namespace Go.Proofs.YtikmaljhfckbgaaDoor
open Go.Sort Go.ChangeShapes Go.WideShapes Go.ChangeAt Go.RowKit
set_option maxHeartbeats 8000000 in
set_option maxRecDepth 100000 in
theorem scGood (s : ByteArray) (A : Option Addr) (len cap : Nat) (w : World) (h1 : s.size ≤ 1000) (h2 : len ≤ 60) (d1 : decide ((1000 : Int) < (s.size : Int)) = false) (d2 : decide ((60 : Int) < (len : Int)) = false) (xs : Nat → Sq) (hz : SqAt w A len xs) (hT : LT w) (x : Lx) (l : List Lx) (p : Int) (hl : l.length + 1 ≤ 5000)
    (N17 : Hid (∀ W, LT W → Calls Tryd.prog 10 #[.string s] W (SPost W.heap.size W ⟨x :: l, 0, p⟩))) (N18 : Hid (∀ W, Calls Tryd.prog 11 #[.string s] W (SPost W.heap.size W ⟨x :: l, 0, p⟩))) : Calls Tryd.prog 6 #[.string s, .slice A len cap] w fun e w' => e = .returned (.bool true) ∧ Below w.heap.size w w' := by
  have HZ := Lib.hid hz
  have HT := Lib.hid hT
  have HA := Lib.hid awake_any
  have h1i : (s.size : Int) ≤ 1000 := by omega
  have h2i : (len : Int) ≤ 60 := by omega
  clear hT hz
  have H17 := Lib.hid (fun W h => new17_ok s x l p hl W (Lib.hid (N17.out W h)))
  have H18 := Lib.hid (fun W => new18_ok s x l p hl W (Lib.hid (N18.out W)))
  clear hl N17 N18
  go_enter Tryd.func6, Tryd.ntmps6
  go_wp2_with fail
  refine (H17.out _ HT.out).mono ?_
  rintro e w1 ⟨g, q, rfl, hg, hq, hgl, hql, hsp, hb⟩
  have HG1 := Lib.hid hsp
  have HB1 := Lib.hid hb
  have HBG := Lib.hid hg
  have HGL := Lib.hid (And.intro hgl hql)
  clear hsp hb hq hg hgl hql
  go_wp2_with fail
  refine (H18.out _).mono ?_
  rintro e w2 ⟨f, r, rfl, hf, hr, -, -, hsp, hb⟩
  have HG2 := Lib.hid (HG1.out.call hb)
  have HH2 := Lib.hid hsp
  have HB2 := Lib.hid (below_call HB1.out hb)
  have HBF := Lib.hid (Nat.le_trans HB1.out.size hf)
  have HD1 := Lib.hid (show (Value.pointer (some ⟨g, 0, none⟩)) = .pointer none ∨ (g ≠ f ∧ q ≠ f) from .inr ⟨by have := HGL.out.1; omega, by have := HGL.out.2; omega⟩)
  have HD2 := Lib.hid (show (Value.pointer (some ⟨f, 0, none⟩)) = .pointer none ∨ (f ≠ g ∧ r ≠ g) from .inr ⟨by have := HGL.out.1; omega, by have := HGL.out.1; omega⟩)
  clear hsp hb hf hr HG1 HB1 HGL H17 H18
  go_wp2_with fail
  generalize Value.pointer (some ⟨g, 0, none⟩) = va at *
  generalize Value.pointer (some ⟨f, 0, none⟩) = vb at *
  go_loopw [11] (fun y wr => ∃ i : Nat, Hid (i ≤ len) ∧ y = .int .i64 i ∧ Hid (Below w.heap.size w wr) ∧ ∃ S : Sp, Hid (ScP 57 g q wr va S) ∧ Hid (ScP 59 f r wr vb S)) (fun y _ => len - (intOf y).toNat)
  case atStart => exact ⟨0, Lib.hid (Nat.zero_le _), rfl, HB2, _, HG2, HH2⟩
  case round =>
    obtain ⟨i, hi, rfl, hB, S, hGr, hHr⟩ := hrel
    have hi1 := hi.out
    have Q19 := Lib.hid (fun W h => peek19_any g q va S W h)
    have Q20 := Lib.hid (fun W h => peek20_any f r vb S W h)
    by_cases hik : i < len
    · have hlt : (i : Int) < (len : Int) := by omega
      obtain ⟨b, off, rfl, hbw, g0, g1⟩ := HZ.out i hik
      have k0 : wr.cell? ⟨b, off + i * 2, none⟩ = some (.int .u8 (xs i).c) := (hB.out.cell (p := ⟨b, off + i * 2, none⟩) hbw).trans g0
      have k1 : wr.cell? ⟨b, off + i * 2 + 1, none⟩ = some (.string (xs i).m) := (hB.out.cell (p := ⟨b, off + i * 2 + 1, none⟩) hbw).trans g1
      have hle1 : Hid (i + 1 ≤ len) := Lib.hid (by omega)
      have HBW := Lib.hid hbw
      clear g0 g1 HZ hi1
      generalize (xs i).c = c at *
      generalize (xs i).m = m at *
      by_cases w0 : c = 0
      · subst w0
        obtain ⟨X, hX⟩ : ∃ X, S.hd = X := ⟨_, rfl⟩
        simp only [hX] at Q19 Q20
        clear hX
        obtain ⟨K, T, V, P⟩ := X
        dsimp only [Lx.val] at Q19 Q20
        go_wp2_with fail
        refine (Q19.out _ hGr.out).mono ?_
        rintro z u1 ⟨rfl, hb1⟩
        have HG3 := Lib.hid (hGr.out.call hb1)
        have HH3 := Lib.hid (hHr.out.call hb1)
        have HB3 := Lib.hid (below_call hB.out hb1)
        clear hb1
        go_wp2_with fail
        refine (Q20.out _ HH3.out).mono ?_
        rintro z u2 ⟨rfl, hb2⟩
        have HG4 := Lib.hid (HG3.out.call hb2)
        have HH4 := Lib.hid (HH3.out.call hb2)
        have HB4 := Lib.hid (below_call HB3.out hb2)
        clear hb2
        go_wp2_with fail
        go_roundw
        case rel => exact ⟨i + 1, hle1, by go_num, HB4, _, HG4, HH4⟩
        case measure => have := hle1.out; simp [intOf]; omega
      by_cases w1' : c = 1
      · subst w1'
        have Q21 := Lib.hid (fun W h => next21_any g q va S W h)
        have Q22 := Lib.hid (fun W h => next22_any f r vb S W h)
        generalize S.tl = S2 at *
        obtain ⟨X, hX⟩ : ∃ X, S.hd = X := ⟨_, rfl⟩
        simp only [hX] at Q21 Q22
        clear hX
        obtain ⟨K, T, V, P⟩ := X
        dsimp only [Lx.val] at Q21 Q22
        go_wp2_with fail
        refine (Q21.out _ hGr.out).mono ?_
        rintro z u1 ⟨rfl, hs1, hb1, hk1⟩
        have HG3 := Lib.hid hs1
        have HH3 := Lib.hid (hHr.out.keep hk1 hb1.size HD2.out)
        have HB3 := Lib.hid (hB.out.trans (hb1.mono HBG.out))
        clear hs1 hb1 hk1
        go_wp2_with fail
        refine (Q22.out _ HH3.out).mono ?_
        rintro z u2 ⟨rfl, hs2, hb2, hk2⟩
        have HG4 := Lib.hid (HG3.out.keep hk2 hb2.size HD1.out)
        have HH4 := Lib.hid hs2
        have HB4 := Lib.hid (HB3.out.trans (hb2.mono HBF.out))
        clear hs2 hb2 hk2
        go_wp2_with fail
        go_roundw
        case rel => exact ⟨i + 1, hle1, by go_num, HB4, _, HG4, HH4⟩
        case measure => have := hle1.out; simp [intOf]; omega
      by_cases w2' : c = 2
      · subst w2'
        have M1 := Lib.hid (fun W h => say23_any g q va S m W h)
        have M2 := Lib.hid (fun W h => say24_any f r vb S m W h)
        unfold APost at M1 M2
        generalize acs S 4 m = S2 at *
        generalize acc S 4 m = D at *
        have S0 : SQ b (off + i * 2) 2 m wr := ⟨k0, k1⟩
        have hbg : b < g := Nat.lt_of_lt_of_le HBW.out HBG.out
        have hbf : b < f := Nat.lt_of_lt_of_le HBW.out HBF.out
        clear Q19 Q20
        go_wp2_with fail
        clear k0 k1
        go_region_held3 (fun w' => w'.cell? ⟨b, off + i * 2, none⟩ = some (.int .u8 2) ∧ w'.cell? ⟨b, off + i * 2 + 1, none⟩ = some (.string m))
          (first | (refine SQ.drew ?_; assumption) | (refine SQ.below ?_ hb1 hbg; assumption) | (refine SQ.below ?_ hb2 hbf; assumption))
          (first
            | (go_at_call 23; refine (M1.out _ (hGr.out.drew 1)).mono ?_; rintro z u1 ⟨rfl, hs1, hb1, hk1⟩)
            | (go_at_call 24; refine (M2.out _ (ScP.keep (hHr.out.drew 1) hk1 hb1.size HD2.out)).mono ?_; rintro z u2 ⟨rfl, hs2, hb2, hk2⟩))
        all_goals
          have HG4 := Lib.hid (hs1.keep hk2 hb2.size HD1.out)
          have HH4 := Lib.hid hs2
          have HB4 := Lib.hid (((bdn hB.out 1).trans (hb1.mono HBG.out)).trans (hb2.mono HBF.out))
          clear hs1 hb1 hk1 hs2 hb2 hk2 S0
          go_wp2_with fail
          go_roundw
          case rel => exact ⟨i + 1, hle1, by go_num, HB4, _, HG4, HH4⟩
          case measure => have := hle1.out; simp [intOf]; omega
      have M1 := Lib.hid (fun W h => say25_any g q va S m W h)
      have M2 := Lib.hid (fun W h => say26_any f r vb S m W h)
      unfold APost at M1 M2
      generalize acs S 1 m = S2 at *
      generalize acc S 1 m = D at *
      have f0 : (c == 0) = false := beq_eq_false_iff_ne.2 w0
      have f1 : (c == 1) = false := beq_eq_false_iff_ne.2 w1'
      have f2 : (c == 2) = false := beq_eq_false_iff_ne.2 w2'
      have S0 : SQ b (off + i * 2) c m wr := ⟨k0, k1⟩
      have hbg : b < g := Nat.lt_of_lt_of_le HBW.out HBG.out
      have hbf : b < f := Nat.lt_of_lt_of_le HBW.out HBF.out
      clear Q19 Q20
      go_wp2_with fail
      clear k0 k1
      go_region_held3 (fun w' => w'.cell? ⟨b, off + i * 2, none⟩ = some (.int .u8 c) ∧ w'.cell? ⟨b, off + i * 2 + 1, none⟩ = some (.string m))
        (first | (refine SQ.drew ?_; assumption) | (refine SQ.below ?_ hb1 hbg; assumption) | (refine SQ.below ?_ hb2 hbf; assumption))
        (first
          | (go_at_call 25; refine (M1.out _ (hGr.out.drew 1)).mono ?_; rintro z u1 ⟨rfl, hs1, hb1, hk1⟩)
          | (go_at_call 26; refine (M2.out _ (ScP.keep (hHr.out.drew 1) hk1 hb1.size HD2.out)).mono ?_; rintro z u2 ⟨rfl, hs2, hb2, hk2⟩))
      all_goals
        have HG4 := Lib.hid (hs1.keep hk2 hb2.size HD1.out)
        have HH4 := Lib.hid hs2
        have HB4 := Lib.hid (((bdn hB.out 1).trans (hb1.mono HBG.out)).trans (hb2.mono HBF.out))
        clear hs1 hb1 hk1 hs2 hb2 hk2 S0
        go_wp2_with fail
        go_roundw
        case rel => exact ⟨i + 1, hle1, by go_num, HB4, _, HG4, HH4⟩
        case measure => have := hle1.out; simp [intOf]; omega
    · have hge : ¬ (i : Int) < (len : Int) := by omega
      obtain ⟨X, hX⟩ : ∃ X, S.hd = X := ⟨_, rfl⟩
      simp only [hX] at Q19 Q20
      clear hX
      obtain ⟨K, T, V, P⟩ := X
      dsimp only [Lx.val] at Q19 Q20
      go_wp2_with fail
      refine (Q19.out _ hGr.out).mono ?_
      rintro z u1 ⟨rfl, hb1⟩
      have HH3 := Lib.hid (hHr.out.call hb1)
      have HB3 := Lib.hid (below_call hB.out hb1)
      clear hb1
      go_wp2_with fail
      refine (Q20.out _ HH3.out).mono ?_
      rintro z u2 ⟨rfl, hb2⟩
      have HB4 := Lib.hid (below_call HB3.out hb2)
      have HT4 := Lib.hid (HT.out.call HB4.out)
      clear hb2
      go_wp2_with fail
      refine (HA.out _ HT4.out).mono ?_
      rintro e w9 ⟨rfl, hb⟩
      have HB9 := Lib.hid (below_call HB4.out hb)
      clear hb
      go_wp2_with fail
      go_ret
      exact ⟨rfl, HB9.out⟩
end Go.Proofs.YtikmaljhfckbgaaDoor
