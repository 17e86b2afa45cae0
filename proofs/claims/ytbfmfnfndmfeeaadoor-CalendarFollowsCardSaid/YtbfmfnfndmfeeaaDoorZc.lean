/- The walk of CalendarFollows. -/
import Derived.Test.YtbfmfnfndmfeeaaDoorZb
import Derived.Test.YtbfmfnfndmfeeaaDoorM
import Derived.OpenShut
set_option linter.unusedVariables false
set_option linter.unusedSimpArgs false
namespace Go.Proofs.YtbfmfnfndmfeeaaDoor
open Go.Sort Go.ChangeShapes Go.WideShapes Go.ChangeAt Go.RowKit
open cal
/-- what is told of a slice of integers that came in -/
def IsRow (k : IntKind) (w : World) (a : Option Addr) (len cap : Nat) (zs : List Int) : Prop :=
  (a = none ∧ len = 0 ∧ cap = 0 ∧ zs = []) ∨
  ∃ x, a = some x ∧ len ≤ cap ∧ cap ≤ maxLen ∧ zs.length = cap ∧ (∀ i, i < zs.length → w.cell? (x.add i) = some (.int k (zs.getD i 0))) ∧ ∀ n ∈ zs, (Lit.int k n).wf = true
theorem ints_of_row {w : World} {a : Option Addr} {len cap : Nat} {z : List Int} (h : IsRow .i64 w a len cap z) : Ints w a len cap (z.take len) := by
  rcases h with ⟨rfl, rfl, rfl, rfl⟩ | ⟨x, rfl, hl, hm, hz, hc, -⟩
  · exact ⟨rfl, Nat.le_refl _, Nat.zero_le _, fun i hi => absurd hi (Nat.not_lt_zero _)⟩
  · refine ⟨by simp; omega, hl, hm, fun i hi => ?_⟩
    obtain ⟨b, off, rfl, hb⟩ := ints_at hc (by omega)
    refine ⟨b, off, rfl, block_lt_of_cell (a := ⟨b, off + i, none⟩) (hb i (by omega)), ?_⟩
    rw [hb i (by omega)]
    congr 2
    rw [List.getD_eq_getElem?_getD, List.getD_eq_getElem?_getD, List.getElem?_take, if_pos hi]
theorem bel2 {w W w1 : World} {B : Nat} (h : Below B w W) (hB : B ≤ w.heap.size) (hb : Below W.heap.size W w1) : Below B w w1 := h.trans (hb.mono (Nat.le_trans hB h.size))
theorem first_bad (p : Nat → Bool) (n : Nat) : (∀ i, i < n → p i = true) ∨ ∃ k, k < n ∧ p k = false ∧ ∀ i, i < k → p i = true := by
  induction n with
  | zero => exact .inl fun i hi => absurd hi (Nat.not_lt_zero _)
  | succ n ih =>
    rcases ih with h | ⟨k, h1, h2, h3⟩
    · cases hn : p n
      · exact .inr ⟨n, Nat.lt_succ_self _, hn, h⟩
      · exact .inl fun i hi => by
          rcases Nat.lt_or_ge i n with h4 | h4
          · exact h i h4
          · obtain rfl : i = n := by omega
            exact hn
    · exact .inr ⟨k, by omega, h2, h3⟩
namespace calendarFollows
set_option maxHeartbeats 4000000 in
set_option maxRecDepth 20000 in
theorem w_bad (A : Option Addr) (len cap : Nat) (date k m : Int) (w : World) (hT : Tab w) (hP : TabP w) (E : Int) (hE : (E == 0) = false) (hE2 : (E != 0) = true) (NW : Calls Tryd.prog 26 #[.slice A len cap] w fun e w' => e = .returned (.tuple #[.pointer none, .int .i64 E]) ∧ Below w.heap.size w w') :
    Calls Tryd.prog 8 #[.slice A len cap, .int .i64 date, .int .u8 k, .int .u8 m] w fun e w' => e = .returned (.bool true) ∧ Below w.heap.size w w' := by
  have AW : Hid (∀ w, Tab w → TabP w → _) := Lib.hid awake_any
  have HT := Lib.hid hT
  have HP := Lib.hid hP
  replace NW := Lib.hid NW
  clear hT hP
  go_enter Tryd.func8, Tryd.ntmps8
  go_wp2_with fail
  refine NW.out.mono ?_
  rintro e v1 ⟨rfl, hb⟩
  have HB1 := Lib.hid hb
  clear hb
  go_wp2_with fail
  refine (AW.out _ (HT.out.call HB1.out) (HP.out.call HB1.out)).mono ?_
  rintro e v2 ⟨rfl, hb⟩
  have HB2 := Lib.hid (bel2 HB1.out (Nat.le_refl _) hb)
  clear hb
  go_wp2_with fail
  go_ret
  exact ⟨rfl, HB2.out⟩
set_option maxHeartbeats 4000000 in
set_option maxRecDepth 20000 in
theorem w_lo (A : Option Addr) (len cap : Nat) (date k m : Int) (w : World) (hT : Tab w) (hP : TabP w) (S : Int → Bool) (hl : decide ((400 : Int) < (len : Int)) = false) (hwf : -9223372036854775808 ≤ date ∧ date ≤ 9223372036854775807) (h0 : decide (date < 0) = true) (NW : Calls Tryd.prog 26 #[.slice A len cap] w fun e w' => (∃ C, e = .returned (.tuple #[.pointer (some ⟨C, 0, none⟩), .int .i64 0]) ∧ CalAt w' C S) ∧ Below w.heap.size w w') :
    Calls Tryd.prog 8 #[.slice A len cap, .int .i64 date, .int .u8 k, .int .u8 m] w fun e w' => e = .returned (.bool true) ∧ Below w.heap.size w w' := by
  have AW : Hid (∀ w, Tab w → TabP w → _) := Lib.hid awake_any
  have HT := Lib.hid hT
  have HP := Lib.hid hP
  replace NW := Lib.hid NW
  clear hT hP
  go_enter Tryd.func8, Tryd.ntmps8
  go_wp2_with fail
  refine NW.out.mono ?_
  rintro e v1 ⟨⟨C, rfl, hc⟩, hb⟩
  have HC := Lib.hid hc
  clear hc
  have HB1 := Lib.hid hb
  clear hb
  go_wp2_with fail
  refine (AW.out _ (HT.out.call HB1.out) (HP.out.call HB1.out)).mono ?_
  rintro e v2 ⟨rfl, hb⟩
  replace HC := Lib.hid (HC.out.call hb)
  have HB2 := Lib.hid (bel2 HB1.out (Nat.le_refl _) hb)
  clear hb
  go_wp2_with fail
  go_ret
  exact ⟨rfl, HB2.out⟩
set_option maxHeartbeats 4000000 in
set_option maxRecDepth 20000 in
theorem w_hi (A : Option Addr) (len cap : Nat) (date k m : Int) (w : World) (hT : Tab w) (hP : TabP w) (S : Int → Bool) (hl : decide ((400 : Int) < (len : Int)) = false) (hwf : -9223372036854775808 ≤ date ∧ date ≤ 9223372036854775807) (h0 : decide (date < 0) = false) (h1 : decide (97999 < date) = true) (NW : Calls Tryd.prog 26 #[.slice A len cap] w fun e w' => (∃ C, e = .returned (.tuple #[.pointer (some ⟨C, 0, none⟩), .int .i64 0]) ∧ CalAt w' C S) ∧ Below w.heap.size w w') :
    Calls Tryd.prog 8 #[.slice A len cap, .int .i64 date, .int .u8 k, .int .u8 m] w fun e w' => e = .returned (.bool true) ∧ Below w.heap.size w w' := by
  have AW : Hid (∀ w, Tab w → TabP w → _) := Lib.hid awake_any
  have HT := Lib.hid hT
  have HP := Lib.hid hP
  replace NW := Lib.hid NW
  clear hT hP
  go_enter Tryd.func8, Tryd.ntmps8
  go_wp2_with fail
  refine NW.out.mono ?_
  rintro e v1 ⟨⟨C, rfl, hc⟩, hb⟩
  have HC := Lib.hid hc
  clear hc
  have HB1 := Lib.hid hb
  clear hb
  go_wp2_with fail
  refine (AW.out _ (HT.out.call HB1.out) (HP.out.call HB1.out)).mono ?_
  rintro e v2 ⟨rfl, hb⟩
  replace HC := Lib.hid (HC.out.call hb)
  have HB2 := Lib.hid (bel2 HB1.out (Nat.le_refl _) hb)
  clear hb
  go_wp2_with fail
  go_ret
  exact ⟨rfl, HB2.out⟩
set_option maxHeartbeats 4000000 in
set_option maxRecDepth 20000 in
theorem w_main (A : Option Addr) (len cap : Nat) (date k m : Int) (w : World) (hT : Tab w) (hP : TabP w) (a b x y : Int) (S : Int → Bool) (hl : decide ((400 : Int) < (len : Int)) = false) (h0 : decide (date < 0) = false) (h1 : decide (97999 < date) = false) (d0 : 0 ≤ date) (d1 : date ≤ 97999) (k0 : 0 ≤ k) (k1 : k ≤ 255) (m0 : 0 ≤ m) (m1 : m ≤ 255) (a0 : date < a) (a1 : a ≤ 99699) (ad : decide (a ≤ date) = false) (x0 : 0 ≤ x) (x1 : x ≤ 100000) (y0 : 0 ≤ y) (y1 : y ≤ 100000) (NW : Calls Tryd.prog 26 #[.slice A len cap] w fun e w' => (∃ C, e = .returned (.tuple #[.pointer (some ⟨C, 0, none⟩), .int .i64 0]) ∧ CalAt w' C S) ∧ Below w.heap.size w w') (A1 : ∀ C w, CalAt w C S → Calls Tryd.prog 27 #[.pointer (some ⟨C, 0, none⟩), .int .i64 date, .int .i64 (k + 1)] w fun e w' => e = .returned (.tuple #[.int .i64 a, .int .i64 0]) ∧ Below w.heap.size w w') (A2 : ∀ C w, CalAt w C S → Calls Tryd.prog 27 #[.pointer (some ⟨C, 0, none⟩), .int .i64 date, .int .i64 (k + 2)] w fun e w' => e = .returned (.tuple #[.int .i64 b, .int .i64 0]) ∧ Below w.heap.size w w') (N1 : ∀ C w, CalAt w C S → Calls Tryd.prog 28 #[.pointer (some ⟨C, 0, none⟩), .int .i64 (a + 1)] w fun e w' => e = .returned (.tuple #[.int .i64 b, .int .i64 0]) ∧ Below w.heap.size w w') (BA : ∀ C w, CalAt w C S → Calls Tryd.prog 29 #[.pointer (some ⟨C, 0, none⟩), .int .i64 a] w fun e w' => e = .returned (.bool true) ∧ Below w.heap.size w w') (BB : ∀ C w, CalAt w C S → Calls Tryd.prog 29 #[.pointer (some ⟨C, 0, none⟩), .int .i64 b] w fun e w' => e = .returned (.bool true) ∧ Below w.heap.size w w') (C1 : ∀ C w, CalAt w C S → Calls Tryd.prog 30 #[.pointer (some ⟨C, 0, none⟩), .int .i64 (date + 1), .int .i64 a] w fun e w' => e = .returned (.int .i64 k) ∧ Below w.heap.size w w') (C2 : ∀ C w, CalAt w C S → Calls Tryd.prog 30 #[.pointer (some ⟨C, 0, none⟩), .int .i64 a, .int .i64 b] w fun e w' => e = .returned (.int .i64 1) ∧ Below w.heap.size w w') (C3 : ∀ C w, CalAt w C S → Calls Tryd.prog 30 #[.pointer (some ⟨C, 0, none⟩), .int .i64 date, .int .i64 (date + m)] w fun e w' => e = .returned (.int .i64 x) ∧ Below w.heap.size w w') (C4 : ∀ C w, CalAt w C S → Calls Tryd.prog 30 #[.pointer (some ⟨C, 0, none⟩), .int .i64 (date + m), .int .i64 (a + 300)] w fun e w' => e = .returned (.int .i64 y) ∧ Below w.heap.size w w') (C5 : ∀ C w, CalAt w C S → Calls Tryd.prog 30 #[.pointer (some ⟨C, 0, none⟩), .int .i64 date, .int .i64 (a + 300)] w fun e w' => e = .returned (.int .i64 (x + y)) ∧ Below w.heap.size w w') :
    Calls Tryd.prog 8 #[.slice A len cap, .int .i64 date, .int .u8 k, .int .u8 m] w fun e w' => e = .returned (.bool true) ∧ Below w.heap.size w w' := by
  have AW : Hid (∀ w, Tab w → TabP w → _) := Lib.hid awake_any
  have HT := Lib.hid hT
  have HP := Lib.hid hP
  replace NW := Lib.hid NW
  replace A1 := Lib.hid A1
  replace A2 := Lib.hid A2
  replace N1 := Lib.hid N1
  replace BA := Lib.hid BA
  replace BB := Lib.hid BB
  replace C1 := Lib.hid C1
  replace C2 := Lib.hid C2
  replace C3 := Lib.hid C3
  replace C4 := Lib.hid C4
  replace C5 := Lib.hid C5
  clear hT hP
  go_enter Tryd.func8, Tryd.ntmps8
  go_wp2_with fail
  refine NW.out.mono ?_
  rintro e v1 ⟨⟨C, rfl, hc⟩, hb⟩
  have HC := Lib.hid hc
  clear hc
  have HB1 := Lib.hid hb
  clear hb
  go_wp2_with fail
  refine (A1.out _ _ HC.out).mono ?_
  rintro e v2 ⟨rfl, hb⟩
  replace HC := Lib.hid (HC.out.call hb)
  have HB2 := Lib.hid (bel2 HB1.out (Nat.le_refl _) hb)
  clear hb
  go_wp2_with fail
  refine (A2.out _ _ HC.out).mono ?_
  rintro e v3 ⟨rfl, hb⟩
  replace HC := Lib.hid (HC.out.call hb)
  have HB3 := Lib.hid (bel2 HB2.out (Nat.le_refl _) hb)
  clear hb
  go_wp2_with fail
  refine (N1.out _ _ HC.out).mono ?_
  rintro e v4 ⟨rfl, hb⟩
  replace HC := Lib.hid (HC.out.call hb)
  have HB4 := Lib.hid (bel2 HB3.out (Nat.le_refl _) hb)
  clear hb
  go_wp2_with fail
  refine (BA.out _ _ HC.out).mono ?_
  rintro e v5 ⟨rfl, hb⟩
  replace HC := Lib.hid (HC.out.call hb)
  have HB5 := Lib.hid (bel2 HB4.out (Nat.le_refl _) hb)
  clear hb
  go_wp2_with fail
  refine (BB.out _ _ HC.out).mono ?_
  rintro e v6 ⟨rfl, hb⟩
  replace HC := Lib.hid (HC.out.call hb)
  have HB6 := Lib.hid (bel2 HB5.out (Nat.le_refl _) hb)
  clear hb
  go_wp2_with fail
  refine (C1.out _ _ HC.out).mono ?_
  rintro e v7 ⟨rfl, hb⟩
  replace HC := Lib.hid (HC.out.call hb)
  have HB7 := Lib.hid (bel2 HB6.out (Nat.le_refl _) hb)
  clear hb
  go_wp2_with fail
  refine (C2.out _ _ HC.out).mono ?_
  rintro e v8 ⟨rfl, hb⟩
  replace HC := Lib.hid (HC.out.call hb)
  have HB8 := Lib.hid (bel2 HB7.out (Nat.le_refl _) hb)
  clear hb
  go_wp2_with fail
  refine (C3.out _ _ HC.out).mono ?_
  rintro e v9 ⟨rfl, hb⟩
  replace HC := Lib.hid (HC.out.call hb)
  have HB9 := Lib.hid (bel2 HB8.out (Nat.le_refl _) hb)
  clear hb
  go_wp2_with fail
  refine (C4.out _ _ HC.out).mono ?_
  rintro e v10 ⟨rfl, hb⟩
  replace HC := Lib.hid (HC.out.call hb)
  have HB10 := Lib.hid (bel2 HB9.out (Nat.le_refl _) hb)
  clear hb
  go_wp2_with fail
  refine (C5.out _ _ HC.out).mono ?_
  rintro e v11 ⟨rfl, hb⟩
  replace HC := Lib.hid (HC.out.call hb)
  have HB11 := Lib.hid (bel2 HB10.out (Nat.le_refl _) hb)
  clear hb
  go_wp2_with fail
  refine (AW.out _ (HT.out.call HB11.out) (HP.out.call HB11.out)).mono ?_
  rintro e v12 ⟨rfl, hb⟩
  replace HC := Lib.hid (HC.out.call hb)
  have HB12 := Lib.hid (bel2 HB11.out (Nat.le_refl _) hb)
  clear hb
  go_wp2_with fail
  go_ret
  exact ⟨rfl, HB12.out⟩
theorem walk (A : Option Addr) (len cap : Nat) (z : List Int) (date n m : Int) (w : World) (hr : IsRow .i64 w A len cap z) (hd : (Lit.int .i64 date).wf = true) (hn : (Lit.int .u8 n).wf = true) (hm : (Lit.int .u8 m).wf = true) (hT : Tab w) (hP : TabP w) :
    Calls Tryd.prog 8 #[.slice A len cap, .int .i64 date, .int .u8 n, .int .u8 m] w fun e w' => e = .returned (.bool true) ∧ Below w.heap.size w w' := by
  have hd2 : -9223372036854775808 ≤ date ∧ date ≤ 9223372036854775807 := by simp [Lit.wf, IntKind.min, IntKind.max, IntKind.signed, IntKind.bits] at hd; omega
  have hn2 : 0 ≤ n ∧ n ≤ 255 := by simp [Lit.wf, IntKind.min, IntKind.max, IntKind.signed, IntKind.bits] at hn; omega
  have hm2 : 0 ≤ m ∧ m ≤ 255 := by simp [Lit.wf, IntKind.min, IntKind.max, IntKind.signed, IntKind.bits] at hm; omega
  by_cases hl : 400 < len
  · exact w_bad A len cap date n m w hT hP 3 rfl rfl (new_long A len cap w hl)
  · have hI : Ints w A len cap (z.take len) := ints_of_row hr
    rcases first_bad (fun i => bD ((z.take len).getD i 0)) len with hok | ⟨q, hq, hbad, hok⟩
    · have hld : decide ((400 : Int) < (len : Int)) = false := decide_eq_false (by omega)
      have NW := new_ok A len cap (z.take len) w hI (by omega) hok
      by_cases h0 : date < 0
      · exact w_lo A len cap date n m w hT hP _ hld hd2 (decide_eq_true h0) NW
      · by_cases h1 : 97999 < date
        · exact w_hi A len cap date n m w hT hP _ hld hd2 (decide_eq_false h0) (decide_eq_true h1) NW
        · have hlen : ((z.take len).take len).length ≤ 400 := by rw [List.length_take]; omega
          obtain ⟨S, hS⟩ : ∃ S, S = inZ (z.take len) len := ⟨_, rfl⟩
          have hc : cntP S (date + 1) 931 ≤ 400 := by
            have := cntP_any ((z.take len).take len) (date + 1) 931
            rw [hS]
            show cntP (fun x => ((z.take len).take len).any (fun y => x == y)) (date + 1) 931 ≤ 400
            omega
          rw [← hS] at NW
          have hg := cntN_ge S (date + 1) 931 (by omega) (by omega)
          have hw : cntP wkD (date + 1) 931 = 665 := cntP_week (date + 1) 133
          obtain ⟨k, rfl⟩ : ∃ k : Nat, n = k := ⟨n.toNat, by omega⟩
          obtain ⟨f, f0, f1, f2⟩ := row_of S date 931 (by omega) (by omega) (k + 2) (by omega)
          obtain ⟨L1, p1, p2, p3, p4⟩ := f1 (k + 1) (by omega) (by omega)
          obtain ⟨L2, q1, q2, q3, q4⟩ := f1 (k + 2) (by omega) (by omega)
          have f3 := f2 (k + 1) (by omega)
          rw [show k + 1 + 1 = k + 2 from rfl] at f3
          obtain ⟨_, r1, r2, r3, r4⟩ := f3
          have bd : ∀ x, 0 ≤ x → x ≤ 99999 → bD x = true := fun x h1 h2 => by unfold bD; rw [decide_eq_true h1, decide_eq_true h2]; rfl
          have cA : cnt S (date + 1) (f (k + 1)) = k := by unfold cnt; rw [p2, show (date + 1 + (L1 : Int) - (date + 1)).toNat = L1 by omega, p3]; omega
          have cB : cnt S (date + 1) (f (k + 2)) = k + 1 := by unfold cnt; rw [q2, show (date + 1 + (L2 : Int) - (date + 1)).toNat = L2 by omega, q3]; omega
          have cAB := cnt_add S (date + 1) (f (k + 1)) (f (k + 2)) (by omega) (by omega)
          have cD := cnt_add S date (date + m) (f (k + 1) + 300) (by omega) (by omega)
          have i1 := cntN_in S date (date + m - date).toNat
          have i2 := cntN_in S (date + m) (f (k + 1) + 300 - (date + m)).toNat
          refine w_main A len cap date k m w hT hP (f (k + 1)) (f (k + 2)) (cnt S date (date + m)) (cnt S (date + m) (f (k + 1) + 300)) S hld (decide_eq_false h0) (decide_eq_false h1) (by omega) (by omega) (by omega) (by omega) hm2.1 hm2.2 (by omega) (by omega) (decide_eq_false (by omega)) (by unfold cnt; omega) (by unfold cnt; omega) (by unfold cnt; omega) (by unfold cnt; omega) NW ?_ ?_ ?_ ?_ ?_ ?_ ?_ ?_ ?_ ?_
          · intro C w h
            have := add_any C S f (k + 1) (by omega) (by omega) (by rw [f0]; exact bd _ (by omega) (by omega)) (fun i hi => f2 i (by omega)) w h
            rw [f0, show ((k + 1 : Nat) : Int) = (k : Int) + 1 by omega] at this
            exact this
          · intro C w h
            have := add_any C S f (k + 2) (by omega) (by omega) (by rw [f0]; exact bd _ (by omega) (by omega)) (fun i hi => f2 i (by omega)) w h
            rw [f0, show ((k + 2 : Nat) : Int) = (k : Int) + 2 by omega] at this
            exact this
          · intro C w h
            exact next_hit C S (f (k + 1) + 1) (f (k + 2)) (by omega) (by omega) (by omega) q4 (fun j j1 j2 => r4 j (by omega) j2) w h
          · intro C w h
            have := biz_any C S (f (k + 1)) w h
            rw [p4] at this
            exact this
          · intro C w h
            have := biz_any C S (f (k + 2)) w h
            rw [q4] at this
            exact this
          · intro C w h
            have := count_ok C S (date + 1) (f (k + 1)) (bd _ (by omega) (by omega)) (bd _ (by omega) (by omega)) w h
            rw [cA] at this
            exact this
          · intro C w h
            have := count_ok C S (f (k + 1)) (f (k + 2)) (bd _ (by omega) (by omega)) (bd _ (by omega) (by omega)) w h
            rw [show cnt S (f (k + 1)) (f (k + 2)) = 1 by omega] at this
            exact this
          · intro C w h
            exact count_ok C S date (date + m) (bd _ (by omega) (by omega)) (bd _ (by omega) (by omega)) w h
          · intro C w h
            exact count_ok C S (date + m) (f (k + 1) + 300) (bd _ (by omega) (by omega)) (bd _ (by omega) (by omega)) w h
          · intro C w h
            have := count_ok C S date (f (k + 1) + 300) (bd _ (by omega) (by omega)) (bd _ (by omega) (by omega)) w h
            rw [cD] at this
            exact this
    · exact w_bad A len cap date n m w hT hP 4 rfl rfl (new_bad A len cap (z.take len) w hI (by omega) q hq hok hbad)
end calendarFollows
end Go.Proofs.YtbfmfnfndmfeeaaDoor
