/- The walk of WireReads. -/
import Derived.Test.YtknipjjmpdnomaaGreatDoorR
import Derived.Test.YtknipjjmpdnomaaGreatDoorS
import Derived.Deep.RegionHeld3
set_option linter.unusedVariables false
set_option linter.unusedSimpArgs false
namespace Go.Proofs.YtknipjjmpdnomaaGreatDoor
open Go.Sort Go.ChangeShapes Go.WideShapes Go.ChangeAt Go.RowKit
/-- what is told of a slice of reads that came in -/
def IsRecs35 (w : World) (a : Option Addr) (len cap : Nat) : Prop :=
  (a = none ∧ len = 0 ∧ cap = 0) ∨
  ∃ x : Addr, a = some x ∧ len ≤ cap ∧ cap ≤ maxLen ∧ ∀ i, i < len → ∃ (x0 x1 x2 : Int), w.cell? (x.add (i * 3 + 0)) = some (.int .u8 x0) ∧ (Lit.int .u8 x0).wf = true ∧ w.cell? (x.add (i * 3 + 1)) = some (.int .i64 x1) ∧ (Lit.int .i64 x1).wf = true ∧ w.cell? (x.add (i * 3 + 2)) = some (.int .i64 x2) ∧ (Lit.int .i64 x2).wf = true
structure Rq where
  d : Int
  n : Int
  m : Int
def RqAt (w : World) (A : Option Addr) (len : Nat) (xs : Nat → Rq) : Prop :=
  ∀ i, i < len → ∃ b off, A = some ⟨b, off, none⟩ ∧ b < w.heap.size ∧ w.cell? ⟨b, off + i * 3, none⟩ = some (.int .u8 (xs i).d) ∧ w.cell? ⟨b, off + i * 3 + 1, none⟩ = some (.int .i64 (xs i).n) ∧ w.cell? ⟨b, off + i * 3 + 2, none⟩ = some (.int .i64 (xs i).m) ∧ 0 ≤ (xs i).d
theorem rqs_of {w : World} {a : Option Addr} {len cap : Nat} (h : IsRecs35 w a len cap) : len ≤ cap ∧ cap ≤ maxLen ∧ ∃ xs, RqAt w a len xs := by
  rcases h with ⟨rfl, rfl, rfl⟩ | ⟨x, rfl, hl, hm, hc⟩
  · exact ⟨Nat.le_refl _, Nat.zero_le _, fun _ => ⟨0, 0, 0⟩, fun i hi => absurd hi (Nat.not_lt_zero _)⟩
  · refine ⟨hl, hm, ?_⟩
    have key : ∀ i, i < len → ∃ r : Rq, ∃ b off, some x = some (⟨b, off, none⟩ : Addr) ∧ b < w.heap.size ∧ w.cell? ⟨b, off + i * 3, none⟩ = some (.int .u8 r.d) ∧ w.cell? ⟨b, off + i * 3 + 1, none⟩ = some (.int .i64 r.n) ∧ w.cell? ⟨b, off + i * 3 + 2, none⟩ = some (.int .i64 r.m) ∧ 0 ≤ r.d := fun i hi => by
      obtain ⟨x0, x1, x2, h0, f0, h1, -, h2, -⟩ := hc i hi
      obtain ⟨b, off, spot⟩ := x
      obtain ⟨y0, _, _, z0, _⟩ := hc 0 (by omega)
      have hspot : spot = none := by simpa [Addr.add] using World.cell?_spot z0
      subst hspot
      rw [Go.WideShapes.add_plain] at h0 h1 h2
      exact ⟨⟨x0, x1, x2⟩, b, off, rfl, block_lt_of_cell (a := ⟨b, off + (i * 3 + 0), none⟩) h0, h0, h1, h2, (wf_u8 f0).1⟩
    exact ⟨fun i => if h : i < len then (key i h).choose else ⟨0, 0, 0⟩, fun i hi => by
      have := (key i hi).choose_spec
      simpa only [dif_pos hi] using this⟩
abbrev rq (d n m : Int) : Array Value := #[.int .u8 d, .int .i64 n, .int .i64 m]
theorem cellq {w : World} {g : Nat} {d n m : Int} (h : Blk w g 35 (rq d n m)) : w.cell? ⟨g, 0, none⟩ = some (.int .u8 d) ∧ w.cell? ⟨g, 1, none⟩ = some (.int .i64 n) ∧ w.cell? ⟨g, 2, none⟩ = some (.int .i64 m) ∧ g < w.heap.size :=
  ⟨h.cell 0, h.cell 1, h.cell 2, h.lt⟩
/-- what the round's drawing region may lean on -/
abbrev SQ (f : Nat) (d n m : Int) (w' : World) : Prop := w'.cell? ⟨f, 1, none⟩ = some (.int .i64 n) ∧ w'.cell? ⟨f, 2, none⟩ = some (.int .i64 m) ∧ Blk w' f 35 (rq d n m)
theorem SQ.mk {f : Nat} {d n m : Int} {w' : World} (h : Blk w' f 35 (rq d n m)) : SQ f d n m w' := ⟨h.cell 1, h.cell 2, h⟩
theorem SQ.drew {f : Nat} {d n m : Int} {w' : World} (h : SQ f d n m w') : SQ f d n m w'.drew := SQ.mk (blk_dn h.2.2 1)
theorem SQ.keep {f g : Nat} {d n m : Int} {w' w1 : World} (h : SQ f d n m w') (hk : Keeps g w' w1) (hg : f ≠ g) : SQ f d n m w1 := SQ.mk (hk _ _ _ hg h.2.2)
set_option maxHeartbeats 4000000 in
set_option maxRecDepth 20000 in
theorem wireReads.walk (s : ByteArray) (A : Option Addr) (len cap : Nat) (w : World) (hs : s.size ≤ maxLen) (hr : IsRecs35 w A len cap) (hT : TabP w) (hE : ErP w) (hW3 : 3 ≤ w.heap.size) :
    Calls Tryz.prog 3 #[.string s, .slice A len cap] w fun e w' => e = .returned (.bool true) ∧ Below w.heap.size w w' := by
  obtain ⟨hlc, hcm, xs, hz⟩ := rqs_of hr
  have HT := Lib.hid hT
  have HER := Lib.hid hE
  have HZ := Lib.hid hz
  have HA := Lib.hid awake_any
  have hlm : len ≤ maxLen := Nat.le_trans hlc hcm
  unfold maxLen at hs hlm
  clear hr hT hE hz hcm hlc
  by_cases c0 : 1000 < s.size
  · have c0' : decide ((1000 : Int) < (s.size : Int)) = true := decide_eq_true (by omega)
    clear c0
    go_enter Tryz.func3, Tryz.ntmps3
    go_wp2_with fail
    refine (HA.out _ HT.out).mono ?_
    rintro e w1 ⟨rfl, hb⟩
    have HB := Lib.hid hb
    clear hb
    go_wp2_with fail
    go_ret
    exact ⟨rfl, HB.out⟩
  have c0' : decide ((1000 : Int) < (s.size : Int)) = false := decide_eq_false (by omega)
  have c0n : s.size ≤ 1000 := by omega
  have c0m : (s.size : Int) ≤ 1000 := by omega
  clear c0 hs
  by_cases c1 : 50 < len
  · have c1' : decide ((50 : Int) < (len : Int)) = true := decide_eq_true (by omega)
    clear c1
    go_enter Tryz.func3, Tryz.ntmps3
    go_wp2_with fail
    refine (HA.out _ HT.out).mono ?_
    rintro e w1 ⟨rfl, hb⟩
    have HB := Lib.hid hb
    clear hb
    go_wp2_with fail
    go_ret
    exact ⟨rfl, HB.out⟩
  have c1' : decide ((50 : Int) < (len : Int)) = false := decide_eq_false (by omega)
  have c1n : len ≤ 50 := by omega
  have c1m : (len : Int) ≤ 50 := by omega
  clear c1 hlm
  have HS1 := Lib.hid c0n
  have H5 := Lib.hid newr_any
  have H6 := Lib.hid rnew_any
  have N7 := Lib.hid numNil
  have N8 := Lib.hid alphaNil
  have N9 := Lib.hid varNil
  have N10 := Lib.hid takeNil
  have N11 := Lib.hid left_nil
  have N12 := Lib.hid err_nil
  have N13 := Lib.hid end_nil
  have T7 := Lib.hid (fun a e n ha => stepNum s a e n c0n ha)
  have T8 := Lib.hid (fun a e n ha => stepAlpha s a e n c0n ha)
  have T9 := Lib.hid (fun a e n m ha => stepVar s a e n m c0n ha)
  have T10 := Lib.hid (fun a e n ha => stepTake s a e n c0n ha)
  have L11 := Lib.hid (fun g a e ha w h => left_any g s a e (by omega) ha w h)
  have L12 := Lib.hid (fun g (a e : Int) w h => err_any g s a e w h)
  have L13 := Lib.hid (fun g a e ha w h => end_gen g a s e (by omega) ha w h)
  have L18 := Lib.hid rleft_any
  have L19 := Lib.hid rerr_any
  have L20 := Lib.hid rend_any
  have HX0 : Hid (s = s.extract 0 s.size) := Lib.hid (ls_ext (by rw [ls_ex, List.drop_zero, Nat.sub_zero, List.take_of_length_le (by rw [← ls_size]; exact Nat.le_refl _)]))
  have hcat : ((⟨#[]⟩ : ByteArray) ++ ⟨#[]⟩ ++ ⟨#[]⟩).toList = [] := by rw [ByteArray.toList_eq]; decide +kernel
  have HW3 := Lib.hid hW3
  clear c0n hW3
  go_enter Tryz.func3, Tryz.ntmps3
  go_wp2_with fail
  refine (H5.out _ _).mono ?_
  rintro e w1 ⟨rfl, hw⟩
  have HG1 := Lib.hid (show Blk w1 w.heap.size 42 (rd s 0 0) by rw [hw]; exact Blk.new _ _ _)
  have B1 := Lib.hid (show Below w.heap.size w w1 by rw [hw]; exact al_)
  clear hw
  go_wp2_with fail
  refine (H6.out _ _).mono ?_
  rintro e w2 ⟨rfl, hw⟩
  have HG2 := Lib.hid (show Blk w2 w.heap.size 42 (rd s 0 0) by rw [hw]; exact HG1.out.alloc _)
  have HH2 := Lib.hid (show Blk w2 w1.heap.size 44 (rr s 0) by rw [hw]; exact Blk.new _ _ _)
  have B2 := Lib.hid (show Below w.heap.size w w2 by rw [hw]; exact B1.out.alloc B1.out.size _)
  have HNE := Lib.hid (show w.heap.size < w1.heap.size from HG1.out.lt)
  clear hw
  go_wp2_with fail
  refine (N7.out _ _ (HER.out.call B2.out)).mono ?_
  rintro e w3 ⟨rfl, hb⟩
  have B3 := Lib.hid (below_call B2.out hb)
  have HG3 := Lib.hid (HG2.out.call hb)
  have HH3 := Lib.hid (HH2.out.call hb)
  clear hb
  go_wp2_with fail
  refine (N8.out _ _).mono ?_
  rintro e w4 ⟨rfl, hb⟩
  have B4 := Lib.hid (below_call B3.out hb)
  have HG4 := Lib.hid (HG3.out.call hb)
  have HH4 := Lib.hid (HH3.out.call hb)
  clear hb
  go_wp2_with fail
  refine (N9.out _ _ _).mono ?_
  rintro e w5 ⟨rfl, hb⟩
  have B5 := Lib.hid (below_call B4.out hb)
  have HG5 := Lib.hid (HG4.out.call hb)
  have HH5 := Lib.hid (HH4.out.call hb)
  clear hb
  go_wp2_with fail
  refine (N10.out _ _).mono ?_
  rintro e w6 ⟨rfl, hb⟩
  have B6 := Lib.hid (below_call B5.out hb)
  have HG6 := Lib.hid (HG5.out.call hb)
  have HH6 := Lib.hid (HH5.out.call hb)
  clear hb
  go_wp2_with (first | (go_at_call 11; (with_reducible refine (N11.out _).mono ?_); rintro e w' ⟨rfl, rfl⟩) | (go_at_call 12; (with_reducible refine (N12.out _).mono ?_); rintro e w' ⟨rfl, rfl⟩) | (go_at_call 13; (with_reducible refine (N13.out _).mono ?_); rintro e w' ⟨rfl, rfl⟩))
  go_loopw [8] (fun y wr => ∃ i : Nat, Hid (i ≤ len) ∧ y = .int .i64 i ∧ Hid (Below w.heap.size w wr) ∧ ∃ (a : Nat) (e : Int), Hid (a ≤ s.size) ∧ Hid (Blk wr w.heap.size 42 (rd s a e)) ∧ Hid (Blk wr w1.heap.size 44 (rr (s.extract a s.size) e))) (fun y _ => len - (intOf y).toNat)
  case atStart => exact ⟨0, Lib.hid (Nat.zero_le _), rfl, by assumption, 0, 0, Lib.hid (Nat.zero_le _), by assumption, Lib.hid (by rw [← HX0.out]; first | exact HH6.out | (have := HH6; exact this.out))⟩
  case round =>
    obtain ⟨i, hi, rfl, hB, a, e, ha, hGr, hHr⟩ := hrel
    have hi1 := hi.out
    by_cases hik : i < len
    · have hlt : (i : Int) < (len : Int) := by omega
      obtain ⟨b, off, rfl, hbw, g0, g1, g2, hd0⟩ := HZ.out i hik
      have k0 : wr.cell? ⟨b, off + i * 3, none⟩ = some (.int .u8 (xs i).d) := (hB.out.cell (p := ⟨b, off + i * 3, none⟩) hbw).trans g0
      have k1 : wr.cell? ⟨b, off + i * 3 + 1, none⟩ = some (.int .i64 (xs i).n) := (hB.out.cell (p := ⟨b, off + i * 3 + 1, none⟩) hbw).trans g1
      have k2 : wr.cell? ⟨b, off + i * 3 + 2, none⟩ = some (.int .i64 (xs i).m) := (hB.out.cell (p := ⟨b, off + i * 3 + 2, none⟩) hbw).trans g2
      have hle1 : Hid (i + 1 ≤ len) := Lib.hid (by omega)
      have h44 : (xs i).d % 4 = 0 ∨ (xs i).d % 4 = 1 ∨ (xs i).d % 4 = 2 ∨ (xs i).d % 4 = 3 := by omega
      clear g0 g1 g2 HZ hi1
      generalize (xs i).d = d at *
      generalize (xs i).n = n at *
      generalize (xs i).m = m at *
      have HF1 := Lib.hid (Blk.new wr 35 (rq d n m))
      have HGF := Lib.hid (hGr.out.alloc (.cells #[.int .u8 d, .int .i64 n, .int .i64 m] 35))
      have HHF := Lib.hid (hHr.out.alloc (.cells #[.int .u8 d, .int .i64 n, .int .i64 m] 35))
      have HBF := Lib.hid (hB.out.alloc hB.out.size (.cells #[.int .u8 d, .int .i64 n, .int .i64 m] 35))
      have HN1 := Lib.hid (Ne.symm (Nat.ne_of_lt hGr.out.lt))
      have HN2 := Lib.hid (Ne.symm (Nat.ne_of_lt hHr.out.lt))
      rcases h44 with h4 | h4 | h4 | h4
      · obtain ⟨x, a', e', ha', hp, hq⟩ := T7.out a e n ha.out
        have HP := Lib.hid hp
        have HQ := Lib.hid hq
        have HA' := Lib.hid ha'
        have R11 := Lib.hid (fun W h => L11.out w.heap.size a' e' ha' W h)
        have R12 := Lib.hid (fun W h => L12.out w.heap.size a' e' W h)
        have R13 := Lib.hid (fun W h => L13.out w.heap.size a' e' ha' W h)
        have R18 := Lib.hid (fun W h => L18.out w1.heap.size (s.extract a' s.size) e' W h)
        have R19 := Lib.hid (fun W h => L19.out w1.heap.size (s.extract a' s.size) e' W h)
        have R20 := Lib.hid (fun W h => L20.out w1.heap.size (s.extract a' s.size) e' W h)
        rw [tail_size s a' ha'] at R18 R20
        have e0 : Int.tmod d 4 = 0 := by rw [Int.tmod_eq_emod_of_nonneg hd0]; exact h4
        have e1 : d % 4 = 0 := h4
        have HERF := Lib.hid (HER.out.call (bdn HBF.out 1))
        clear hp hq ha' h4 T7 T8 T9 T10 N7 N8 N9 N10 N11 N12 N13 H5 H6 L11 L12 L13 L18 L19 L20
        go_wp2_with fail
        clear k0 k1 k2
        have S0 : SQ wr.heap.size d n m _ := SQ.mk HF1.out
        have hn1 := HN1.out
        have hn2 := HN2.out
        have hn3 := Ne.symm (Nat.ne_of_lt HNE.out)
        generalize wr.heap.size = f at *
        generalize wr.alloc (.cells #[.int .u8 d, .int .i64 n, .int .i64 m] 35) = W0 at *
        go_region_held3 (fun w' => w'.cell? ⟨f, 1, none⟩ = some (.int .i64 n) ∧ w'.cell? ⟨f, 2, none⟩ = some (.int .i64 m) ∧ Blk w' f 35 (rq d n m))
          (first | (exact SQ.drew (by assumption)) | (exact SQ.keep (g := w.heap.size) (by assumption) hp1 hn1) | (exact SQ.keep (g := w1.heap.size) (by assumption) hp2 hn2))
          (first
            | (go_at_call 7; refine (HP.out _ _ HW3.out HERF.out (blk_dn HGF.out 1)).mono ?_; rintro z u1 ⟨rfl, hk1, hb1, hp1⟩)
            | (go_at_call 14; refine (HQ.out _ _ (hp1 _ _ _ hn3 (blk_dn HHF.out 1))).mono ?_; rintro z u2 ⟨rfl, hk2, hb2, hp2⟩))
        all_goals
          have HG3 := Lib.hid (hk1.below hb2 HNE.out)
          have HH3 := Lib.hid hk2
          have HB3 := Lib.hid (((bdn HBF.out 1).trans hb1).trans (hb2.mono (Nat.le_of_lt HNE.out)))
          clear hk1 hb1 hp1 hk2 hb2 hp2 S0
          go_wp2_with fail
          refine (R11.out _ HG3.out).mono ?_
          rintro z u3 ⟨rfl, hb⟩
          have HG4 := Lib.hid (HG3.out.call hb)
          have HH4 := Lib.hid (HH3.out.call hb)
          have HB4 := Lib.hid (below_call HB3.out hb)
          clear hb
          go_wp2_with (first | (go_at_call 18; (with_reducible refine (R18.out _ HH4.out).mono ?_); rintro z w' ⟨rfl, rfl⟩) | (go_at_call 12; (with_reducible refine (R12.out _ HG4.out).mono ?_); rintro z w' ⟨rfl, rfl⟩) | (go_at_call 19; (with_reducible refine (R19.out _ HH4.out).mono ?_); rintro z w' ⟨rfl, rfl⟩))
          refine (R13.out _ HG4.out).mono ?_
          rintro z u5 ⟨rfl, hb⟩
          have HG5 := Lib.hid (HG4.out.call hb)
          have HH5 := Lib.hid (HH4.out.call hb)
          have HB5 := Lib.hid (below_call HB4.out hb)
          clear hb
          go_wp2_with (go_at_call 20; refine (R20.out _ HH5.out).mono ?_; rintro z w' ⟨rfl, rfl⟩)
          go_roundw
          case rel => exact ⟨i + 1, hle1, by go_num, HB5, a', e', HA', HG5, HH5⟩
          case measure => have := hle1.out; simp [intOf]; omega
      · obtain ⟨x, a', e', ha', hp, hq⟩ := T8.out a e n ha.out
        have HP := Lib.hid hp
        have HQ := Lib.hid hq
        have HA' := Lib.hid ha'
        have R11 := Lib.hid (fun W h => L11.out w.heap.size a' e' ha' W h)
        have R12 := Lib.hid (fun W h => L12.out w.heap.size a' e' W h)
        have R13 := Lib.hid (fun W h => L13.out w.heap.size a' e' ha' W h)
        have R18 := Lib.hid (fun W h => L18.out w1.heap.size (s.extract a' s.size) e' W h)
        have R19 := Lib.hid (fun W h => L19.out w1.heap.size (s.extract a' s.size) e' W h)
        have R20 := Lib.hid (fun W h => L20.out w1.heap.size (s.extract a' s.size) e' W h)
        rw [tail_size s a' ha'] at R18 R20
        have e0 : Int.tmod d 4 = 1 := by rw [Int.tmod_eq_emod_of_nonneg hd0]; exact h4
        have e1 : d % 4 = 1 := h4
        have HERF := Lib.hid (HER.out.call (bdn HBF.out 1))
        clear hp hq ha' h4 T7 T8 T9 T10 N7 N8 N9 N10 N11 N12 N13 H5 H6 L11 L12 L13 L18 L19 L20
        go_wp2_with fail
        clear k0 k1 k2
        have S0 : SQ wr.heap.size d n m _ := SQ.mk HF1.out
        have hn1 := HN1.out
        have hn2 := HN2.out
        have hn3 := Ne.symm (Nat.ne_of_lt HNE.out)
        generalize wr.heap.size = f at *
        generalize wr.alloc (.cells #[.int .u8 d, .int .i64 n, .int .i64 m] 35) = W0 at *
        go_region_held3 (fun w' => w'.cell? ⟨f, 1, none⟩ = some (.int .i64 n) ∧ w'.cell? ⟨f, 2, none⟩ = some (.int .i64 m) ∧ Blk w' f 35 (rq d n m))
          (first | (exact SQ.drew (by assumption)) | (exact SQ.keep (g := w.heap.size) (by assumption) hp1 hn1) | (exact SQ.keep (g := w1.heap.size) (by assumption) hp2 hn2))
          (first
            | (go_at_call 8; refine (HP.out _ _ (blk_dn HGF.out 1)).mono ?_; rintro z u1 ⟨rfl, hk1, hb1, hp1⟩)
            | (go_at_call 15; refine (HQ.out _ _ (hp1 _ _ _ hn3 (blk_dn HHF.out 1))).mono ?_; rintro z u2 ⟨rfl, hk2, hb2, hp2⟩))
        all_goals
          have HG3 := Lib.hid (hk1.below hb2 HNE.out)
          have HH3 := Lib.hid hk2
          have HB3 := Lib.hid (((bdn HBF.out 1).trans hb1).trans (hb2.mono (Nat.le_of_lt HNE.out)))
          clear hk1 hb1 hp1 hk2 hb2 hp2 S0
          go_wp2_with fail
          refine (R11.out _ HG3.out).mono ?_
          rintro z u3 ⟨rfl, hb⟩
          have HG4 := Lib.hid (HG3.out.call hb)
          have HH4 := Lib.hid (HH3.out.call hb)
          have HB4 := Lib.hid (below_call HB3.out hb)
          clear hb
          go_wp2_with (first | (go_at_call 18; (with_reducible refine (R18.out _ HH4.out).mono ?_); rintro z w' ⟨rfl, rfl⟩) | (go_at_call 12; (with_reducible refine (R12.out _ HG4.out).mono ?_); rintro z w' ⟨rfl, rfl⟩) | (go_at_call 19; (with_reducible refine (R19.out _ HH4.out).mono ?_); rintro z w' ⟨rfl, rfl⟩))
          refine (R13.out _ HG4.out).mono ?_
          rintro z u5 ⟨rfl, hb⟩
          have HG5 := Lib.hid (HG4.out.call hb)
          have HH5 := Lib.hid (HH4.out.call hb)
          have HB5 := Lib.hid (below_call HB4.out hb)
          clear hb
          go_wp2_with (go_at_call 20; refine (R20.out _ HH5.out).mono ?_; rintro z w' ⟨rfl, rfl⟩)
          go_roundw
          case rel => exact ⟨i + 1, hle1, by go_num, HB5, a', e', HA', HG5, HH5⟩
          case measure => have := hle1.out; simp [intOf]; omega
      · obtain ⟨x, a', e', ha', hp, hq⟩ := T9.out a e n m ha.out
        have HP := Lib.hid hp
        have HQ := Lib.hid hq
        have HA' := Lib.hid ha'
        have R11 := Lib.hid (fun W h => L11.out w.heap.size a' e' ha' W h)
        have R12 := Lib.hid (fun W h => L12.out w.heap.size a' e' W h)
        have R13 := Lib.hid (fun W h => L13.out w.heap.size a' e' ha' W h)
        have R18 := Lib.hid (fun W h => L18.out w1.heap.size (s.extract a' s.size) e' W h)
        have R19 := Lib.hid (fun W h => L19.out w1.heap.size (s.extract a' s.size) e' W h)
        have R20 := Lib.hid (fun W h => L20.out w1.heap.size (s.extract a' s.size) e' W h)
        rw [tail_size s a' ha'] at R18 R20
        have e0 : Int.tmod d 4 = 2 := by rw [Int.tmod_eq_emod_of_nonneg hd0]; exact h4
        have e1 : d % 4 = 2 := h4
        have HERF := Lib.hid (HER.out.call (bdn HBF.out 1))
        clear hp hq ha' h4 T7 T8 T9 T10 N7 N8 N9 N10 N11 N12 N13 H5 H6 L11 L12 L13 L18 L19 L20
        go_wp2_with fail
        clear k0 k1 k2
        have S0 : SQ wr.heap.size d n m _ := SQ.mk HF1.out
        have hn1 := HN1.out
        have hn2 := HN2.out
        have hn3 := Ne.symm (Nat.ne_of_lt HNE.out)
        generalize wr.heap.size = f at *
        generalize wr.alloc (.cells #[.int .u8 d, .int .i64 n, .int .i64 m] 35) = W0 at *
        go_region_held3 (fun w' => w'.cell? ⟨f, 1, none⟩ = some (.int .i64 n) ∧ w'.cell? ⟨f, 2, none⟩ = some (.int .i64 m) ∧ Blk w' f 35 (rq d n m))
          (first | (exact SQ.drew (by assumption)) | (exact SQ.keep (g := w.heap.size) (by assumption) hp1 hn1) | (exact SQ.keep (g := w1.heap.size) (by assumption) hp2 hn2))
          (first
            | (go_at_call 9; refine (HP.out _ _ (blk_dn HGF.out 1)).mono ?_; rintro z u1 ⟨rfl, hk1, hb1, hp1⟩)
            | (go_at_call 16; refine (HQ.out _ _ (hp1 _ _ _ hn3 (blk_dn HHF.out 1))).mono ?_; rintro z u2 ⟨rfl, hk2, hb2, hp2⟩))
        all_goals
          have HG3 := Lib.hid (hk1.below hb2 HNE.out)
          have HH3 := Lib.hid hk2
          have HB3 := Lib.hid (((bdn HBF.out 1).trans hb1).trans (hb2.mono (Nat.le_of_lt HNE.out)))
          clear hk1 hb1 hp1 hk2 hb2 hp2 S0
          go_wp2_with fail
          refine (R11.out _ HG3.out).mono ?_
          rintro z u3 ⟨rfl, hb⟩
          have HG4 := Lib.hid (HG3.out.call hb)
          have HH4 := Lib.hid (HH3.out.call hb)
          have HB4 := Lib.hid (below_call HB3.out hb)
          clear hb
          go_wp2_with (first | (go_at_call 18; (with_reducible refine (R18.out _ HH4.out).mono ?_); rintro z w' ⟨rfl, rfl⟩) | (go_at_call 12; (with_reducible refine (R12.out _ HG4.out).mono ?_); rintro z w' ⟨rfl, rfl⟩) | (go_at_call 19; (with_reducible refine (R19.out _ HH4.out).mono ?_); rintro z w' ⟨rfl, rfl⟩))
          refine (R13.out _ HG4.out).mono ?_
          rintro z u5 ⟨rfl, hb⟩
          have HG5 := Lib.hid (HG4.out.call hb)
          have HH5 := Lib.hid (HH4.out.call hb)
          have HB5 := Lib.hid (below_call HB4.out hb)
          clear hb
          go_wp2_with (go_at_call 20; refine (R20.out _ HH5.out).mono ?_; rintro z w' ⟨rfl, rfl⟩)
          go_roundw
          case rel => exact ⟨i + 1, hle1, by go_num, HB5, a', e', HA', HG5, HH5⟩
          case measure => have := hle1.out; simp [intOf]; omega
      · obtain ⟨x, a', e', ha', hp, hq⟩ := T10.out a e n ha.out
        have HP := Lib.hid hp
        have HQ := Lib.hid hq
        have HA' := Lib.hid ha'
        have R11 := Lib.hid (fun W h => L11.out w.heap.size a' e' ha' W h)
        have R12 := Lib.hid (fun W h => L12.out w.heap.size a' e' W h)
        have R13 := Lib.hid (fun W h => L13.out w.heap.size a' e' ha' W h)
        have R18 := Lib.hid (fun W h => L18.out w1.heap.size (s.extract a' s.size) e' W h)
        have R19 := Lib.hid (fun W h => L19.out w1.heap.size (s.extract a' s.size) e' W h)
        have R20 := Lib.hid (fun W h => L20.out w1.heap.size (s.extract a' s.size) e' W h)
        rw [tail_size s a' ha'] at R18 R20
        have e0 : Int.tmod d 4 = 3 := by rw [Int.tmod_eq_emod_of_nonneg hd0]; exact h4
        have e1 : d % 4 = 3 := h4
        have HERF := Lib.hid (HER.out.call (bdn HBF.out 1))
        clear hp hq ha' h4 T7 T8 T9 T10 N7 N8 N9 N10 N11 N12 N13 H5 H6 L11 L12 L13 L18 L19 L20
        go_wp2_with fail
        clear k0 k1 k2
        have S0 : SQ wr.heap.size d n m _ := SQ.mk HF1.out
        have hn1 := HN1.out
        have hn2 := HN2.out
        have hn3 := Ne.symm (Nat.ne_of_lt HNE.out)
        generalize wr.heap.size = f at *
        generalize wr.alloc (.cells #[.int .u8 d, .int .i64 n, .int .i64 m] 35) = W0 at *
        go_region_held3 (fun w' => w'.cell? ⟨f, 1, none⟩ = some (.int .i64 n) ∧ w'.cell? ⟨f, 2, none⟩ = some (.int .i64 m) ∧ Blk w' f 35 (rq d n m))
          (first | (exact SQ.drew (by assumption)) | (exact SQ.keep (g := w.heap.size) (by assumption) hp1 hn1) | (exact SQ.keep (g := w1.heap.size) (by assumption) hp2 hn2))
          (first
            | (go_at_call 10; refine (HP.out _ _ (blk_dn HGF.out 1)).mono ?_; rintro z u1 ⟨rfl, hk1, hb1, hp1⟩)
            | (go_at_call 17; refine (HQ.out _ _ (hp1 _ _ _ hn3 (blk_dn HHF.out 1))).mono ?_; rintro z u2 ⟨rfl, hk2, hb2, hp2⟩))
        all_goals
          have HG3 := Lib.hid (hk1.below hb2 HNE.out)
          have HH3 := Lib.hid hk2
          have HB3 := Lib.hid (((bdn HBF.out 1).trans hb1).trans (hb2.mono (Nat.le_of_lt HNE.out)))
          clear hk1 hb1 hp1 hk2 hb2 hp2 S0
          go_wp2_with fail
          refine (R11.out _ HG3.out).mono ?_
          rintro z u3 ⟨rfl, hb⟩
          have HG4 := Lib.hid (HG3.out.call hb)
          have HH4 := Lib.hid (HH3.out.call hb)
          have HB4 := Lib.hid (below_call HB3.out hb)
          clear hb
          go_wp2_with (first | (go_at_call 18; (with_reducible refine (R18.out _ HH4.out).mono ?_); rintro z w' ⟨rfl, rfl⟩) | (go_at_call 12; (with_reducible refine (R12.out _ HG4.out).mono ?_); rintro z w' ⟨rfl, rfl⟩) | (go_at_call 19; (with_reducible refine (R19.out _ HH4.out).mono ?_); rintro z w' ⟨rfl, rfl⟩))
          refine (R13.out _ HG4.out).mono ?_
          rintro z u5 ⟨rfl, hb⟩
          have HG5 := Lib.hid (HG4.out.call hb)
          have HH5 := Lib.hid (HH4.out.call hb)
          have HB5 := Lib.hid (below_call HB4.out hb)
          clear hb
          go_wp2_with (go_at_call 20; refine (R20.out _ HH5.out).mono ?_; rintro z w' ⟨rfl, rfl⟩)
          go_roundw
          case rel => exact ⟨i + 1, hle1, by go_num, HB5, a', e', HA', HG5, HH5⟩
          case measure => have := hle1.out; simp [intOf]; omega
    · have hge : ¬ (i : Int) < (len : Int) := by omega
      have hTN := Lib.hid (HT.out.call hB.out)
      go_wp2_with fail
      refine (HA.out _ hTN.out).mono ?_
      rintro e w9 ⟨rfl, hb⟩
      have HB9 := Lib.hid (below_call hB.out hb)
      clear hb
      go_wp2_with fail
      go_ret
      exact ⟨rfl, HB9.out⟩
end Go.Proofs.YtknipjjmpdnomaaGreatDoor
