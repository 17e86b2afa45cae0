/- One step at both cards. -/
import Derived.Test.YtellajpjhhamhaaRe
import Derived.Deep.RegionHeld3
set_option linter.unusedVariables false
set_option linter.unusedSimpArgs false
namespace Go.Proofs.Ytellajpjhhamhaa
open Go.ChangeShapes Go.WideShapes Go.ChangeAt Go.RowKit
abbrev pk (c ev da am : Int) : Array Value := #[.int .u8 c, .int .i64 ev, .int .i64 da, .int .i64 am]
theorem bdn {B : Nat} {a w : World} (h : Below B a w) (n : Nat) : Below B a (w.drewN n) := h.trans ⟨rfl, rfl, rfl, Nat.le_refl _, fun _ _ => rfl⟩
/-- what a drawing region may lean on -/
abbrev SQ (f : Nat) (c ev da am : Int) (w' : World) : Prop := w'.cell? ⟨f, 1, none⟩ = some (.int .i64 ev) ∧ w'.cell? ⟨f, 2, none⟩ = some (.int .i64 da) ∧ w'.cell? ⟨f, 3, none⟩ = some (.int .i64 am) ∧ Blk w' f 35 (pk c ev da am)
theorem SQ.mk {f : Nat} {c ev da am : Int} {w' : World} (h : Blk w' f 35 (pk c ev da am)) : SQ f c ev da am w' := ⟨h.cell 1, h.cell 2, h.cell 3, h⟩
theorem SQ.drew {f : Nat} {c ev da am : Int} {w' : World} (h : SQ f c ev da am w') : SQ f c ev da am w'.drew := h
theorem SQ.keep {f g : Nat} {c ev da am : Int} {w' w1 : World} (h : SQ f c ev da am w') (hk : Kp g w' w1) (hg : f ≠ g) : SQ f c ev da am w1 := SQ.mk (hk.blk h.2.2.2 hg)
set_option maxHeartbeats 4000000 in
theorem play_0 (B g f : Nat) (va vb : Value) (S : Option Cs) (ev da am : Int) (w : World) (hS : okO S) (hbg : B ≤ g) (hbf : B ≤ f) (hd1 : va = .pointer none ∨ g ≠ f) (hd2 : vb = .pointer none ∨ f ≠ g) (hG : CAt 57 pc g w va S) (hH : CAt 60 rcs f w vb S) : Calls Try.prog 11 #[va, vb, .agg #[.int .u8 0, .int .i64 ev, .int .i64 da, .int .i64 am]] w fun e w' => e = .returned (.bool true) ∧ ∃ S', okO S' ∧ CAt 57 pc g w' va S' ∧ CAt 60 rcs f w' vb S' ∧ Below B w w' := by
  obtain ⟨x, S', hok, H1, H2⟩ := stepDo S ev hS
  have HP := Lib.hid H1
  have HQ := Lib.hid H2
  have HOK := Lib.hid hok
  have HBG := Lib.hid hbg
  have HBF := Lib.hid hbf
  have HD1 := Lib.hid hd1
  have HD2 := Lib.hid hd2
  have HF1 := Lib.hid (Blk.new w 35 (pk 0 ev da am))
  have HGF := Lib.hid (hG.call (al_ (o := .cells (pk 0 ev da am) 35)))
  have HHF := Lib.hid (hH.call (al_ (o := .cells (pk 0 ev da am) 35)))
  have HB0 := Lib.hid ((al_ (w := w) (o := .cells (pk 0 ev da am) 35)).mono (Nat.le_trans hbg (Nat.le_of_lt hG.1)))
  have hn1 := Nat.ne_of_gt hG.1
  have hn2 := Nat.ne_of_gt hH.1
  clear hS hok H1 H2 hd1 hd2 hG hH hbg hbf
  dsimp only [pk] at HF1 HGF HHF HB0
  go_enter Try.func11, Try.ntmps11
  go_wp2_with fail
  have S0 : SQ w.heap.size 0 ev da am _ := SQ.mk HF1.out
  generalize w.alloc (.cells #[.int .u8 0, .int .i64 ev, .int .i64 da, .int .i64 am] 35) = W0 at *
  generalize w.heap.size = n at *
  go_region_held3 (fun w' => w'.cell? ⟨n, 1, none⟩ = some (.int .i64 ev) ∧ w'.cell? ⟨n, 2, none⟩ = some (.int .i64 da) ∧ w'.cell? ⟨n, 3, none⟩ = some (.int .i64 am) ∧ Blk w' n 35 (pk 0 ev da am))
    (first | (refine SQ.drew ?_; assumption) | (refine SQ.keep ?_ hk1 hn1; assumption) | (refine SQ.keep ?_ hk2 hn2; assumption))
    (first
      | (go_at_call 20; refine (HP.out _ _ _ (HGF.out.drew 1)).mono ?_; rintro z u1 ⟨rfl, hs1, hb1, hk1⟩)
      | (go_at_call 30; refine (HQ.out _ _ _ (CAt.keep (HHF.out.drew 1) hk1 hb1.size HD2.out)).mono ?_; rintro z u2 ⟨rfl, hs2, hb2, hk2⟩))
  all_goals
    have HG4 := Lib.hid (hs1.keep hk2 hb2.size HD1.out)
    have HH4 := Lib.hid hs2
    have HB4 := Lib.hid (((bdn HB0.out 1).trans (hb1.mono HBG.out)).trans (hb2.mono HBF.out))
    clear hs1 hb1 hk1 hs2 hb2 hk2 S0
    go_wp2_with fail
    go_ret
    exact ⟨rfl, S', HOK.out, HG4.out, HH4.out, HB4.out⟩
set_option maxHeartbeats 4000000 in
theorem play_1 (B g f : Nat) (va vb : Value) (S : Option Cs) (ev da am : Int) (w : World) (hS : okO S) (hbg : B ≤ g) (hbf : B ≤ f) (hd1 : va = .pointer none ∨ g ≠ f) (hd2 : vb = .pointer none ∨ f ≠ g) (hG : CAt 57 pc g w va S) (hH : CAt 60 rcs f w vb S) : Calls Try.prog 11 #[va, vb, .agg #[.int .u8 1, .int .i64 ev, .int .i64 da, .int .i64 am]] w fun e w' => e = .returned (.bool true) ∧ ∃ S', okO S' ∧ CAt 57 pc g w' va S' ∧ CAt 60 rcs f w' vb S' ∧ Below B w w' := by
  obtain ⟨x, H1, H2⟩ := stepUsable S da
  obtain ⟨S', hSS⟩ : ∃ S', S' = S := ⟨_, rfl⟩
  have hok : okO S' := by rw [hSS]; exact hS
  subst hSS
  have HP := Lib.hid H1
  have HQ := Lib.hid H2
  have HOK := Lib.hid hok
  have HBG := Lib.hid hbg
  have HBF := Lib.hid hbf
  have HD1 := Lib.hid hd1
  have HD2 := Lib.hid hd2
  have HF1 := Lib.hid (Blk.new w 35 (pk 1 ev da am))
  have HGF := Lib.hid (hG.call (al_ (o := .cells (pk 1 ev da am) 35)))
  have HHF := Lib.hid (hH.call (al_ (o := .cells (pk 1 ev da am) 35)))
  have HB0 := Lib.hid ((al_ (w := w) (o := .cells (pk 1 ev da am) 35)).mono (Nat.le_trans hbg (Nat.le_of_lt hG.1)))
  have hn1 := Nat.ne_of_gt hG.1
  have hn2 := Nat.ne_of_gt hH.1
  clear hS hok H1 H2 hd1 hd2 hG hH hbg hbf
  dsimp only [pk] at HF1 HGF HHF HB0
  go_enter Try.func11, Try.ntmps11
  go_wp2_with fail
  have S0 : SQ w.heap.size 1 ev da am _ := SQ.mk HF1.out
  generalize w.alloc (.cells #[.int .u8 1, .int .i64 ev, .int .i64 da, .int .i64 am] 35) = W0 at *
  generalize w.heap.size = n at *
  go_region_held3 (fun w' => w'.cell? ⟨n, 1, none⟩ = some (.int .i64 ev) ∧ w'.cell? ⟨n, 2, none⟩ = some (.int .i64 da) ∧ w'.cell? ⟨n, 3, none⟩ = some (.int .i64 am) ∧ Blk w' n 35 (pk 1 ev da am))
    (first | (refine SQ.drew ?_; assumption) | (refine SQ.keep ?_ hk1 hn1; assumption) | (refine SQ.keep ?_ hk2 hn2; assumption))
    (first
      | (go_at_call 31; refine (HP.out _ _ _ (HGF.out.drew 1)).mono ?_; rintro z u1 ⟨rfl, hs1, hb1, hk1⟩)
      | (go_at_call 32; refine (HQ.out _ _ _ (CAt.keep (HHF.out.drew 1) hk1 hb1.size HD2.out)).mono ?_; rintro z u2 ⟨rfl, hs2, hb2, hk2⟩))
  all_goals
    have HG4 := Lib.hid (hs1.keep hk2 hb2.size HD1.out)
    have HH4 := Lib.hid hs2
    have HB4 := Lib.hid (((bdn HB0.out 1).trans (hb1.mono HBG.out)).trans (hb2.mono HBF.out))
    clear hs1 hb1 hk1 hs2 hb2 hk2 S0
    go_wp2_with fail
    go_ret
    exact ⟨rfl, S', HOK.out, HG4.out, HH4.out, HB4.out⟩
set_option maxHeartbeats 4000000 in
theorem play_2 (B g f : Nat) (va vb : Value) (S : Option Cs) (ev da am : Int) (w : World) (hS : okO S) (hbg : B ≤ g) (hbf : B ≤ f) (hd1 : va = .pointer none ∨ g ≠ f) (hd2 : vb = .pointer none ∨ f ≠ g) (hG : CAt 57 pc g w va S) (hH : CAt 60 rcs f w vb S) : Calls Try.prog 11 #[va, vb, .agg #[.int .u8 2, .int .i64 ev, .int .i64 da, .int .i64 am]] w fun e w' => e = .returned (.bool true) ∧ ∃ S', okO S' ∧ CAt 57 pc g w' va S' ∧ CAt 60 rcs f w' vb S' ∧ Below B w w' := by
  obtain ⟨x, S', hok, H1, H2⟩ := stepUse S da am hS
  have HP := Lib.hid H1
  have HQ := Lib.hid H2
  have HOK := Lib.hid hok
  have HBG := Lib.hid hbg
  have HBF := Lib.hid hbf
  have HD1 := Lib.hid hd1
  have HD2 := Lib.hid hd2
  have HF1 := Lib.hid (Blk.new w 35 (pk 2 ev da am))
  have HGF := Lib.hid (hG.call (al_ (o := .cells (pk 2 ev da am) 35)))
  have HHF := Lib.hid (hH.call (al_ (o := .cells (pk 2 ev da am) 35)))
  have HB0 := Lib.hid ((al_ (w := w) (o := .cells (pk 2 ev da am) 35)).mono (Nat.le_trans hbg (Nat.le_of_lt hG.1)))
  have hn1 := Nat.ne_of_gt hG.1
  have hn2 := Nat.ne_of_gt hH.1
  clear hS hok H1 H2 hd1 hd2 hG hH hbg hbf
  dsimp only [pk] at HF1 HGF HHF HB0
  go_enter Try.func11, Try.ntmps11
  go_wp2_with fail
  have S0 : SQ w.heap.size 2 ev da am _ := SQ.mk HF1.out
  generalize w.alloc (.cells #[.int .u8 2, .int .i64 ev, .int .i64 da, .int .i64 am] 35) = W0 at *
  generalize w.heap.size = n at *
  go_region_held3 (fun w' => w'.cell? ⟨n, 1, none⟩ = some (.int .i64 ev) ∧ w'.cell? ⟨n, 2, none⟩ = some (.int .i64 da) ∧ w'.cell? ⟨n, 3, none⟩ = some (.int .i64 am) ∧ Blk w' n 35 (pk 2 ev da am))
    (first | (refine SQ.drew ?_; assumption) | (refine SQ.keep ?_ hk1 hn1; assumption) | (refine SQ.keep ?_ hk2 hn2; assumption))
    (first
      | (go_at_call 21; refine (HP.out _ _ _ (HGF.out.drew 1)).mono ?_; rintro z u1 ⟨rfl, hs1, hb1, hk1⟩)
      | (go_at_call 33; refine (HQ.out _ _ _ (CAt.keep (HHF.out.drew 1) hk1 hb1.size HD2.out)).mono ?_; rintro z u2 ⟨rfl, hs2, hb2, hk2⟩))
  all_goals
    have HG4 := Lib.hid (hs1.keep hk2 hb2.size HD1.out)
    have HH4 := Lib.hid hs2
    have HB4 := Lib.hid (((bdn HB0.out 1).trans (hb1.mono HBG.out)).trans (hb2.mono HBF.out))
    clear hs1 hb1 hk1 hs2 hb2 hk2 S0
    go_wp2_with fail
    go_ret
    exact ⟨rfl, S', HOK.out, HG4.out, HH4.out, HB4.out⟩
set_option maxHeartbeats 4000000 in
theorem play_3 (B g f : Nat) (va vb : Value) (S : Option Cs) (ev da am : Int) (w : World) (hS : okO S) (hbg : B ≤ g) (hbf : B ≤ f) (hd1 : va = .pointer none ∨ g ≠ f) (hd2 : vb = .pointer none ∨ f ≠ g) (hG : CAt 57 pc g w va S) (hH : CAt 60 rcs f w vb S) : Calls Try.prog 11 #[va, vb, .agg #[.int .u8 3, .int .i64 ev, .int .i64 da, .int .i64 am]] w fun e w' => e = .returned (.bool true) ∧ ∃ S', okO S' ∧ CAt 57 pc g w' va S' ∧ CAt 60 rcs f w' vb S' ∧ Below B w w' := by
  obtain ⟨x, S', hok, H1, H2⟩ := stepUndo S da am hS
  have HP := Lib.hid H1
  have HQ := Lib.hid H2
  have HOK := Lib.hid hok
  have HBG := Lib.hid hbg
  have HBF := Lib.hid hbf
  have HD1 := Lib.hid hd1
  have HD2 := Lib.hid hd2
  have HF1 := Lib.hid (Blk.new w 35 (pk 3 ev da am))
  have HGF := Lib.hid (hG.call (al_ (o := .cells (pk 3 ev da am) 35)))
  have HHF := Lib.hid (hH.call (al_ (o := .cells (pk 3 ev da am) 35)))
  have HB0 := Lib.hid ((al_ (w := w) (o := .cells (pk 3 ev da am) 35)).mono (Nat.le_trans hbg (Nat.le_of_lt hG.1)))
  have hn1 := Nat.ne_of_gt hG.1
  have hn2 := Nat.ne_of_gt hH.1
  clear hS hok H1 H2 hd1 hd2 hG hH hbg hbf
  dsimp only [pk] at HF1 HGF HHF HB0
  go_enter Try.func11, Try.ntmps11
  go_wp2_with fail
  have S0 : SQ w.heap.size 3 ev da am _ := SQ.mk HF1.out
  generalize w.alloc (.cells #[.int .u8 3, .int .i64 ev, .int .i64 da, .int .i64 am] 35) = W0 at *
  generalize w.heap.size = n at *
  go_region_held3 (fun w' => w'.cell? ⟨n, 1, none⟩ = some (.int .i64 ev) ∧ w'.cell? ⟨n, 2, none⟩ = some (.int .i64 da) ∧ w'.cell? ⟨n, 3, none⟩ = some (.int .i64 am) ∧ Blk w' n 35 (pk 3 ev da am))
    (first | (refine SQ.drew ?_; assumption) | (refine SQ.keep ?_ hk1 hn1; assumption) | (refine SQ.keep ?_ hk2 hn2; assumption))
    (first
      | (go_at_call 23; refine (HP.out _ _ _ (HGF.out.drew 1)).mono ?_; rintro z u1 ⟨rfl, hs1, hb1, hk1⟩)
      | (go_at_call 34; refine (HQ.out _ _ _ (CAt.keep (HHF.out.drew 1) hk1 hb1.size HD2.out)).mono ?_; rintro z u2 ⟨rfl, hs2, hb2, hk2⟩))
  all_goals
    have HG4 := Lib.hid (hs1.keep hk2 hb2.size HD1.out)
    have HH4 := Lib.hid hs2
    have HB4 := Lib.hid (((bdn HB0.out 1).trans (hb1.mono HBG.out)).trans (hb2.mono HBF.out))
    clear hs1 hb1 hk1 hs2 hb2 hk2 S0
    go_wp2_with fail
    go_ret
    exact ⟨rfl, S', HOK.out, HG4.out, HH4.out, HB4.out⟩
set_option maxHeartbeats 4000000 in
theorem play_4 (B g f : Nat) (va vb : Value) (S : Option Cs) (c ev da am : Int) (w : World) (hS : okO S) (hbg : B ≤ g) (hbf : B ≤ f) (hd1 : va = .pointer none ∨ g ≠ f) (hd2 : vb = .pointer none ∨ f ≠ g) (hG : CAt 57 pc g w va S) (hH : CAt 60 rcs f w vb S) (f0 : (c == 0) = false) (f1 : (c == 1) = false) (f2 : (c == 2) = false) (f3 : (c == 3) = false) : Calls Try.prog 11 #[va, vb, .agg #[.int .u8 c, .int .i64 ev, .int .i64 da, .int .i64 am]] w fun e w' => e = .returned (.bool true) ∧ ∃ S', okO S' ∧ CAt 57 pc g w' va S' ∧ CAt 60 rcs f w' vb S' ∧ Below B w w' := by
  obtain ⟨x, y, H1, H2⟩ := stepUsed S da
  obtain ⟨S', hSS⟩ : ∃ S', S' = S := ⟨_, rfl⟩
  have hok : okO S' := by rw [hSS]; exact hS
  subst hSS
  have HP := Lib.hid H1
  have HQ := Lib.hid H2
  have HOK := Lib.hid hok
  have HBG := Lib.hid hbg
  have HBF := Lib.hid hbf
  have HD1 := Lib.hid hd1
  have HD2 := Lib.hid hd2
  have HF1 := Lib.hid (Blk.new w 35 (pk c ev da am))
  have HGF := Lib.hid (hG.call (al_ (o := .cells (pk c ev da am) 35)))
  have HHF := Lib.hid (hH.call (al_ (o := .cells (pk c ev da am) 35)))
  have HB0 := Lib.hid ((al_ (w := w) (o := .cells (pk c ev da am) 35)).mono (Nat.le_trans hbg (Nat.le_of_lt hG.1)))
  have hn1 := Nat.ne_of_gt hG.1
  have hn2 := Nat.ne_of_gt hH.1
  clear hS hok H1 H2 hd1 hd2 hG hH hbg hbf
  dsimp only [pk] at HF1 HGF HHF HB0
  go_enter Try.func11, Try.ntmps11
  go_wp2_with fail
  refine (HP.out _ _ _ HGF.out).mono ?_
  rintro z u1 ⟨rfl, hs1, hb1, hk1⟩
  have HG3 := Lib.hid hs1
  have HH3 := Lib.hid (HHF.out.keep hk1 hb1.size HD2.out)
  have HB3 := Lib.hid (HB0.out.trans (hb1.mono HBG.out))
  have hX := hk1.blk HF1.out hn1
  have c2 : u1.cell? ⟨w.heap.size, 2, none⟩ = some (.int .i64 da) := hX.cell 2
  have hl := hX.lt
  clear hs1 hb1 hk1 hX
  go_wp2_with fail
  refine (HQ.out _ _ _ HH3.out).mono ?_
  rintro z u2 ⟨rfl, hs2, hb2, hk2⟩
  have HG4 := Lib.hid (HG3.out.keep hk2 hb2.size HD1.out)
  have HH4 := Lib.hid hs2
  have HB4 := Lib.hid (HB3.out.trans (hb2.mono HBF.out))
  clear hs2 hb2 hk2
  go_wp2_with fail
  go_ret
  exact ⟨rfl, S', HOK.out, HG4.out, HH4.out, HB4.out⟩
theorem play_any (B g f : Nat) (va vb : Value) (S : Option Cs) (c ev da am : Int) (w : World) (hS : okO S) (hbg : B ≤ g) (hbf : B ≤ f) (hd1 : va = .pointer none ∨ g ≠ f) (hd2 : vb = .pointer none ∨ f ≠ g) (hG : CAt 57 pc g w va S) (hH : CAt 60 rcs f w vb S) : Calls Try.prog 11 #[va, vb, .agg #[.int .u8 c, .int .i64 ev, .int .i64 da, .int .i64 am]] w fun e w' => e = .returned (.bool true) ∧ ∃ S', okO S' ∧ CAt 57 pc g w' va S' ∧ CAt 60 rcs f w' vb S' ∧ Below B w w' := by
  by_cases h0 : c = 0
  · subst h0; exact play_0 B g f va vb S ev da am w hS hbg hbf hd1 hd2 hG hH
  by_cases h1 : c = 1
  · subst h1; exact play_1 B g f va vb S ev da am w hS hbg hbf hd1 hd2 hG hH
  by_cases h2 : c = 2
  · subst h2; exact play_2 B g f va vb S ev da am w hS hbg hbf hd1 hd2 hG hH
  by_cases h3 : c = 3
  · subst h3; exact play_3 B g f va vb S ev da am w hS hbg hbf hd1 hd2 hG hH
  exact play_4 B g f va vb S c ev da am w hS hbg hbf hd1 hd2 hG hH (beq_eq_false_iff_ne.2 h0) (beq_eq_false_iff_ne.2 h1) (beq_eq_false_iff_ne.2 h2) (beq_eq_false_iff_ne.2 h3)
end Go.Proofs.Ytellajpjhhamhaa
