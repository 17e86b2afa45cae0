/- The reference's Has; List of both. -/
import Derived.Test.YtfiingnanofneaaDoorB
import Derived.Deep.QuietTactic
import Derived.BigQuiet
set_option linter.unusedVariables false
set_option linter.unusedSimpArgs false
namespace Go.Proofs.YtfiingnanofneaaDoor
open Go.Sort Go.ChangeShapes Go.WideShapes Go.ChangeAt Go.RowKit
theorem bit_and (a k : Nat) : (a &&& 2 ^ k != 0) = a.testBit k := by
  rw [Bool.eq_iff_iff, bne_iff_ne]
  constructor
  · intro h
    cases hx : a.testBit k
    · exfalso
      apply h
      apply Nat.eq_of_testBit_eq
      intro i
      rw [Nat.testBit_and, Nat.testBit_two_pow, Nat.zero_testBit]
      by_cases hi : k = i
      · subst hi; simp [hx]
      · simp [hi]
    · rfl
  · intro h h0
    have := congrArg (fun x => x.testBit k) h0
    simp [Nat.testBit_and, Nat.testBit_two_pow_self, h] at this
theorem bitN_lt (m : Nat) (h : 2 ≤ m) : bitN m < B64 := by unfold bitN; split <;> exact pow_lt (by omega)
theorem and_has (a b m : Nat) (ha : a < B64) (hb : b < B64) (h1 : 2 ≤ m) (h2 : m ≤ 128) : (bits .and .u64 ((if m ≤ 64 then a else b : Nat) : Int) (bitN m : Nat) != 0) = hasB a b m := by
  have hx : (if m ≤ 64 then a else b) < B64 := by split <;> assumption
  rw [u64_and_nat _ _ hx (bitN_lt m h1)]
  have e : ∀ x : Nat, ((x : Int) != 0) = (x != 0) := fun x => by
    show (!((x : Int) == ((0 : Nat) : Int))) = (!(x == 0))
    rw [cast_beq]
  rw [e]
  unfold bitN hasB
  split <;> exact bit_and _ _
theorem below_drewN {B : Nat} {w wr : World} (h : Below B w wr) (n : Nat) : Below B w (wr.drewN n) := ⟨h.os, h.tape, h.output, h.size, h.block⟩
theorem rhas_ok (a b m : Nat) (ha : a < B64) (hb : b < B64) (h1 : 2 ≤ m) (h2 : m ≤ 128) (w : World) :
    Calls Tryd.prog 14 #[bm a b, .int .i64 m] w fun e w' => e = .returned (.bool (hasB a b m)) ∧ Below w.heap.size w w' := by
  have HB : Hid (∀ w, _) := Lib.hid (fun w => bit_any m h1 h2 w)
  have HZ := Lib.hid (and_has a b m ha hb h1 h2)
  have g1 : 2 ≤ (m : Int) := by omega
  have g2 : (m : Int) ≤ 128 := by omega
  have k1 : decide (2 ≤ (m : Int)) = true := decide_eq_true g1
  have k2 : decide ((m : Int) ≤ 128) = true := decide_eq_true g2
  generalize hasB a b m = H at *
  unfold bm at *
  by_cases h : m ≤ 64
  · rw [if_pos h] at HZ
    have hq : ((m : Int) - 1) / 64 = 0 := by omega
    generalize bitN m = y at *
    go_enter Tryd.func14, Tryd.ntmps14
    go_wp2_with fail
    go_quiet ((go_at_call 32; exact Calls.quiet_of_same (HB.out _)))
    go_wp2_with fail
    go_ret
    exact ⟨by rw [HZ.out]; rfl, below_drewN (al (Below.refl _ _)) _⟩
  · rw [if_neg h] at HZ
    have hq : ((m : Int) - 1) / 64 = 1 := by omega
    generalize bitN m = y at *
    go_enter Tryd.func14, Tryd.ntmps14
    go_wp2_with fail
    go_quiet ((go_at_call 32; exact Calls.quiet_of_same (HB.out _)))
    go_wp2_with fail
    go_ret
    exact ⟨by rw [HZ.out]; rfl, below_drewN (al (Below.refl _ _)) _⟩
theorem info3 : (Tryd.prog.info? 3).map (fun i => (i.zero, i.size, i.bytes)) = some (some (.int .i64 0), 1, 8) := by kernel_rfl
/-- the numbers of a bitmap below '2 + k' -/
def nums (a b k : Nat) : List Nat := (List.range' 2 k).filter fun m => hasB a b m
def ivals (l : List Nat) : List Value := l.map fun (m : Nat) => .int .i64 m
theorem ivals_len (l : List Nat) : (ivals l).length = l.length := by simp [ivals]
theorem nums_len (a b k : Nat) : (nums a b k).length ≤ k := by
  have := List.length_filter_le (fun m => hasB a b m) (List.range' 2 k)
  simpa [nums] using this
theorem nums_succ (a b k : Nat) : nums a b (k + 1) = nums a b k ++ if hasB a b (2 + k) = true then [2 + k] else [] := by
  unfold nums
  rw [List.range'_1_concat, List.filter_append]
  cases h : hasB a b (2 + k) <;> simp [h]
theorem own_below {wr w1 : World} {B : Nat} {t : TypeId} {z n : Nat} {v : Value} {xs : List Value} (h : wr.ownsRow B t z v n xs) (hb : Below wr.heap.size wr w1) : w1.ownsRow B t z v n xs :=
  h.kept (row := none) ⟨hb.os, hb.tape, hb.output, hb.size, fun k hk _ => hb.block k hk⟩ (by cases v.ownBlock <;> simp)
def LRel (w : World) (a b : Nat) (v n : Value) (wr : World) : Prop :=
  ∃ k, k ≤ 127 ∧ n = .int .i64 ((2 + k : Nat) : Int) ∧ wr.ownsRow (w.heap.size + 1) 3 1 v (nums a b k).length (ivals (nums a b k)) ∧ Below w.heap.size w wr ∧ Blk wr w.heap.size 24 #[.int .u64 a, .int .u64 b]
theorem own_app {w W w1 : World} {v : Value} {B n : Nat} {xs : List Value} {o : Obj} (hown : W.ownsRow B 3 1 v n xs) (hB : w.heap.size ≤ B) (hnx : Below w.heap.size w W)
    (hgrow : (W.alloc o).grownBy w1 v.ownBlock) : Below w.heap.size w w1 :=
  (hnx.alloc hnx.size o).grown hgrow (by simp; have := hnx.size; omega) (fun j hj => Nat.le_trans hB (hown.lt j hj).1)
theorem blk_app {W w1 : World} {v : Value} {B n g t : Nat} {xs : List Value} {o : Obj} {cs : Array Value} (hown : W.ownsRow B 3 1 v n xs) (hg : g < B) (hk : Blk W g t cs)
    (hgrow : (W.alloc o).grownBy w1 v.ownBlock) : Blk w1 g t cs := by
  have h1 := hgrow.block g (by simp; exact Nat.lt_succ_of_lt hk.lt) (fun e => by have := (hown.lt g e.symm).1; omega)
  exact h1.trans (hk.alloc o)
set_option maxHeartbeats 1000000 in
set_option maxRecDepth 100000 in
theorem list_any (a b : Nat) (ha : a < B64) (hb : b < B64) (w : World) :
    Calls Tryd.prog 16 #[bm a b] w fun e w' => ∃ v, e = .returned v ∧ w'.ownsRow (w.heap.size + 1) 3 1 v (nums a b 127).length (ivals (nums a b 127)) ∧ Below w.heap.size w w' := by
  have HH : Hid (∀ (m : Nat) (w : World), 2 ≤ m → m ≤ 128 → _) := Lib.hid (fun m w h1 h2 => has_ok a b m ha hb h1 h2 w)
  obtain ⟨i0, hi, hz0, hz1, hz2⟩ := info_parts info3
  unfold bm at *
  go_enter Tryd.func16, Tryd.ntmps16
  go_wp2_with fail
  go_loopw [3, 4] (fun v n wr => LRel w a b v n wr) (fun _ n _ => (129 - intOf n).toNat)
  case atStart => exact ⟨0, Nat.zero_le _, rfl, World.ownsRow_nil _ _ _ _, al (Below.refl _ _), Blk.new w 24 _⟩
  case round =>
    obtain ⟨k, hk, rfl, hown, hB, hkb⟩ := hrel
    have HO := Lib.hid hown
    have HB := Lib.hid hB
    have HK := Lib.hid hkb
    clear hown hB hkb
    by_cases hlt : k < 127
    · have hlt' : ((2 + k : Nat) : Int) ≤ 128 := by omega
      have hlt0 : 0 ≤ ((2 + k : Nat) : Int) := by omega
      obtain ⟨c1, c2, c3⟩ := HK.out.rules
      have q0 : wr.cell? ⟨w.heap.size, 0, none⟩ = some (.int .u64 a) := c1 0
      have q1 : wr.cell? ⟨w.heap.size, 1, none⟩ = some (.int .u64 b) := c1 1
      clear c1 c2 c3
      have hsz := (nums_len a b k)
      have hbs := HB.out.size
      generalize hM : 2 + k = M at *
      go_wp2_with fail
      refine (HH.out M _ (by omega) (by omega)).mono ?_
      rintro e w1 ⟨rfl, hb1⟩
      have HO1 := Lib.hid (own_below HO.out hb1)
      have HB1 := Lib.hid (below_call HB.out hb1)
      have HK1 := Lib.hid (HK.out.call hb1)
      have hz1' := hb1.size
      have hs : nums a b (k + 1) = nums a b k ++ if hasB a b M = true then [M] else [] := by rw [← hM]; exact nums_succ a b k
      have HS := Lib.hid hs
      have HM := Lib.hid hM
      clear hb1 hs hM
      cases hh : hasB a b M
      · rw [hh] at HS
        clear hh
        go_wp2_with fail
        go_roundw
        case rel => exact ⟨k + 1, by omega, by rw [← HM.out]; go_num, by rw [HS.out]; simpa using HO1.out, HB1.out, HK1.out⟩
        case measure => simp [intOf]; omega
      · rw [hh] at HS
        clear hh
        go_wp2_with (at_builtin; refine wpList_append_own _ rfl _ _ 30 rfl (w.heap.size + 1) 3 i0 (.int .i64 0) 1 8 Tryd.underlying30 hi hz0 hz1 hz2 rfl (by decide) _ _ _ rfl (HO1.out.alloc _) ⟨w1.heap.size, 0, none⟩ 1 1 [.int .i64 M] rfl rfl ?c1 ?c2 ?c3 ?c4 ?c5 ?_)
        case c1 =>
          intro j u hj
          match j, hj with
          | 0, hj => simp at hj; subst hj; simp [Addr.add]
        case c2 => intro u hu; simp at hu; subst hu; rfl
        case c3 => unfold maxLen; omega
        case c4 => omega
        case c5 => simp; omega
        intro v' w2 hown' hgrow _
        have HO2 := Lib.hid hown'
        have HB2 := Lib.hid (own_app HO1.out (Nat.le_succ _) HB1.out hgrow)
        have HK2 := Lib.hid (blk_app HO1.out (Nat.lt_succ_self _) HK1.out hgrow)
        clear hown' hgrow
        go_wp2_with fail
        go_roundw
        case rel => exact ⟨k + 1, by omega, by rw [← HM.out]; go_num, by rw [HS.out]; simpa [ivals] using HO2.out, HB2.out, HK2.out⟩
        case measure => simp [intOf]; omega
    · obtain rfl : k = 127 := by omega
      go_wp2_with fail
      go_ret
      exact ⟨_, rfl, HO.out, HB.out⟩
set_option maxHeartbeats 1000000 in
set_option maxRecDepth 100000 in
theorem rlist_any (a b : Nat) (ha : a < B64) (hb : b < B64) (w : World) :
    Calls Tryd.prog 17 #[bm a b] w fun e w' => ∃ v, e = .returned v ∧ w'.ownsRow (w.heap.size + 1) 3 1 v (nums a b 127).length (ivals (nums a b 127)) ∧ Below w.heap.size w w' := by
  have HH : Hid (∀ (m : Nat) (w : World), 2 ≤ m → m ≤ 128 → _) := Lib.hid (fun m w h1 h2 => rhas_ok a b m ha hb h1 h2 w)
  obtain ⟨i0, hi, hz0, hz1, hz2⟩ := info_parts info3
  unfold bm at *
  go_enter Tryd.func17, Tryd.ntmps17
  go_wp2_with fail
  go_loopw [3, 4] (fun v n wr => LRel w a b v n wr) (fun _ n _ => (129 - intOf n).toNat)
  case atStart => exact ⟨0, Nat.zero_le _, rfl, World.ownsRow_nil _ _ _ _, al (Below.refl _ _), Blk.new w 24 _⟩
  case round =>
    obtain ⟨k, hk, rfl, hown, hB, hkb⟩ := hrel
    have HO := Lib.hid hown
    have HB := Lib.hid hB
    have HK := Lib.hid hkb
    clear hown hB hkb
    by_cases hlt : k < 127
    · have hlt' : ((2 + k : Nat) : Int) ≤ 128 := by omega
      have hlt0 : 0 ≤ ((2 + k : Nat) : Int) := by omega
      obtain ⟨c1, c2, c3⟩ := HK.out.rules
      have q0 : wr.cell? ⟨w.heap.size, 0, none⟩ = some (.int .u64 a) := c1 0
      have q1 : wr.cell? ⟨w.heap.size, 1, none⟩ = some (.int .u64 b) := c1 1
      clear c1 c2 c3
      have hsz := (nums_len a b k)
      have hbs := HB.out.size
      generalize hM : 2 + k = M at *
      go_wp2_with fail
      refine (HH.out M _ (by omega) (by omega)).mono ?_
      rintro e w1 ⟨rfl, hb1⟩
      have HO1 := Lib.hid (own_below HO.out hb1)
      have HB1 := Lib.hid (below_call HB.out hb1)
      have HK1 := Lib.hid (HK.out.call hb1)
      have hz1' := hb1.size
      have hs : nums a b (k + 1) = nums a b k ++ if hasB a b M = true then [M] else [] := by rw [← hM]; exact nums_succ a b k
      have HS := Lib.hid hs
      have HM := Lib.hid hM
      clear hb1 hs hM
      cases hh : hasB a b M
      · rw [hh] at HS
        clear hh
        go_wp2_with fail
        go_roundw
        case rel => exact ⟨k + 1, by omega, by rw [← HM.out]; go_num, by rw [HS.out]; simpa using HO1.out, HB1.out, HK1.out⟩
        case measure => simp [intOf]; omega
      · rw [hh] at HS
        clear hh
        go_wp2_with (at_builtin; refine wpList_append_own _ rfl _ _ 30 rfl (w.heap.size + 1) 3 i0 (.int .i64 0) 1 8 Tryd.underlying30 hi hz0 hz1 hz2 rfl (by decide) _ _ _ rfl (HO1.out.alloc _) ⟨w1.heap.size, 0, none⟩ 1 1 [.int .i64 M] rfl rfl ?c1 ?c2 ?c3 ?c4 ?c5 ?_)
        case c1 =>
          intro j u hj
          match j, hj with
          | 0, hj => simp at hj; subst hj; simp [Addr.add]
        case c2 => intro u hu; simp at hu; subst hu; rfl
        case c3 => unfold maxLen; omega
        case c4 => omega
        case c5 => simp; omega
        intro v' w2 hown' hgrow _
        have HO2 := Lib.hid hown'
        have HB2 := Lib.hid (own_app HO1.out (Nat.le_succ _) HB1.out hgrow)
        have HK2 := Lib.hid (blk_app HO1.out (Nat.lt_succ_self _) HK1.out hgrow)
        clear hown' hgrow
        go_wp2_with fail
        go_roundw
        case rel => exact ⟨k + 1, by omega, by rw [← HM.out]; go_num, by rw [HS.out]; simpa [ivals] using HO2.out, HB2.out, HK2.out⟩
        case measure => simp [intOf]; omega
    · obtain rfl : k = 127 := by omega
      go_wp2_with fail
      go_ret
      exact ⟨_, rfl, HO.out, HB.out⟩
end Go.Proofs.YtfiingnanofneaaDoor
