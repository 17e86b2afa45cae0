/- The walk of ChecksumAdds. -/
import Derived.Test.YtdciiegdgpepbaaJ
import Derived.Test.YtdciiegdgpepbaaQ
import Derived.Test.YtdciiegdgpepbaaL
set_option linter.unusedVariables false
set_option linter.unusedSimpArgs false
namespace Go.Proofs.Ytdciiegdgpepbaa
open Go.ChangeShapes Go.WideShapes Go.ChangeAt Go.RowKit
theorem info9 : (Try.prog.info? 9).map (fun i => (i.zero, i.size, i.bytes)) = some (some (.string ByteArray.empty), 1, 16) := by kernel_rfl
def back (xs : Nat → ByteArray) (len k : Nat) : List Value := (List.range k).map fun t => .string (xs (len - 1 - t))
theorem back_len (xs : Nat → ByteArray) (len k : Nat) : (back xs len k).length = k := by simp [back]
theorem back_succ (xs : Nat → ByteArray) {len k m : Nat} (h : len - 1 - k = m) : back xs len (k + 1) = back xs len k ++ [.string (xs m)] := by
  simp [back, List.range_succ, h]
def ARel (w : World) (len : Nat) (xs : Nat → ByteArray) (v i : Value) (wr : World) : Prop :=
  ∃ j, j ≤ len ∧ i = .int .i64 ((j : Int) - 1) ∧ wr.ownsRow w.heap.size 9 1 v (len - j) (back xs len (len - j)) ∧ Below w.heap.size w wr
theorem strAt_below {w wr : World} {a : Option Addr} {len : Nat} {xs : Nat → ByteArray} (h : StrAt w a len xs) (hb : Below w.heap.size w wr) : StrAt wr a len xs := by
  intro i hi
  obtain ⟨b, off, e, hl, hc⟩ := h i hi
  exact ⟨b, off, e, Nat.lt_of_lt_of_le hl hb.size, (hb.cell (p := ⟨b, off + i, none⟩) hl).trans hc⟩
theorem strAt_drew {w : World} {a : Option Addr} {len : Nat} {xs : Nat → ByteArray} (h : StrAt w a len xs) (n : Nat) : StrAt (w.drewN n) a len xs := h
theorem strAt_suf {w : World} {x : Addr} {len cap c : Nat} {xs : Nat → ByteArray} (h : StrAt w (some x) len xs) (hc : c ≤ len) (hl : len ≤ cap) : StrAt w (if cap = c then some x else some (Addr.add x c)) (len - c) (fun i => xs (c + i)) := by
  intro i hi
  obtain ⟨b, off, e, hb, hcell⟩ := h (c + i) (by omega)
  rw [if_neg (by omega)]
  injection e with e
  subst e
  refine ⟨b, off + c, by rw [Go.WideShapes.add_plain], hb, ?_⟩
  rw [show off + c + i = off + (c + i) by omega]
  exact hcell
theorem below_drewN {B : Nat} {w wr : World} (h : Below B w wr) (n : Nat) : Below B w (wr.drewN n) := ⟨h.os, h.tape, h.output, h.size, h.block⟩
theorem conv8g (w : World) (d : Nat) (os : Array Obj) (b0 b1 b2 b3 b4 b5 b6 b7 : Int) (h0 : 0 ≤ b0 ∧ b0 < 256) (h1 : 0 ≤ b1 ∧ b1 < 256) (h2 : 0 ≤ b2 ∧ b2 < 256) (h3 : 0 ≤ b3 ∧ b3 < 256) (h4 : 0 ≤ b4 ∧ b4 < 256) (h5 : 0 ≤ b5 ∧ b5 < 256) (h6 : 0 ≤ b6 ∧ b6 < 256) (h7 : 0 ≤ b7 ∧ b7 < 256) :
    (convert 38 9 (.slice (some ⟨w.heap.size, 0, none⟩) 8 8)).run Try.prog (Go.Sort.grow (redrawn (w.alloc (.cells #[.int .u8 b0, .int .u8 b1, .int .u8 b2, .int .u8 b3, .int .u8 b4, .int .u8 b5, .int .u8 b6, .int .u8 b7] 5)) d) os) =
      .ok (.string (bs8 b0 b1 b2 b3 b4 b5 b6 b7)) (Go.Sort.grow (redrawn (w.alloc (.cells #[.int .u8 b0, .int .u8 b1, .int .u8 b2, .int .u8 b3, .int .u8 b4, .int .u8 b5, .int .u8 b6, .int .u8 b7] 5)) d) os) := by
  have h := run_convert_bytes_back (P := Try.prog) (Go.Sort.grow (redrawn (w.alloc (.cells #[.int .u8 b0, .int .u8 b1, .int .u8 b2, .int .u8 b3, .int .u8 b4, .int .u8 b5, .int .u8 b6, .int .u8 b7] 5)) d) os) 38 9 5 ⟨w.heap.size, 0, none⟩ 8
    [UInt8.ofNat b0.toNat, UInt8.ofNat b1.toNat, UInt8.ofNat b2.toNat, UInt8.ofNat b3.toNat, UInt8.ofNat b4.toNat, UInt8.ofNat b5.toNat, UInt8.ofNat b6.toNat, UInt8.ofNat b7.toNat] Try.underlying38 Try.underlying5 Try.underlying9 (fun j hj => by
      have hc := World.cell?_alloc_mark w #[.int .u8 b0, .int .u8 b1, .int .u8 b2, .int .u8 b3, .int .u8 b4, .int .u8 b5, .int .u8 b6, .int .u8 b7] 5 (0, 0) j
      have ha : (⟨w.heap.size, 0, none⟩ : Addr).add j = ⟨w.heap.size, j, none⟩ := by simp [Addr.add]; intro h; exact h.symm
      rw [ha]
      refine cell_regrown ?_ d os
      refine Eq.trans hc ?_
      clear ha hc
      match j, hj with
      | 0, _ => exact congrArg (fun x => some (Value.int .u8 x)) (u8_of h0).symm
      | 1, _ => exact congrArg (fun x => some (Value.int .u8 x)) (u8_of h1).symm
      | 2, _ => exact congrArg (fun x => some (Value.int .u8 x)) (u8_of h2).symm
      | 3, _ => exact congrArg (fun x => some (Value.int .u8 x)) (u8_of h3).symm
      | 4, _ => exact congrArg (fun x => some (Value.int .u8 x)) (u8_of h4).symm
      | 5, _ => exact congrArg (fun x => some (Value.int .u8 x)) (u8_of h5).symm
      | 6, _ => exact congrArg (fun x => some (Value.int .u8 x)) (u8_of h6).symm
      | 7, _ => exact congrArg (fun x => some (Value.int .u8 x)) (u8_of h7).symm)
  exact h
theorem be8_size (p : Int) : (be8 p).size = 8 := rfl
theorem laid8 (wr : World) (p : Int) (hp : 0 ≤ p ∧ p ≤ 18446744073709551615) : ∃ W5 n5, wr.alloc (.cells #[.int .u8 (p / 72057594037927936), .int .u8 (p / 281474976710656 % 256), .int .u8 (p / 1099511627776 % 256), .int .u8 (p / 4294967296 % 256), .int .u8 (p / 16777216 % 256), .int .u8 (p / 65536 % 256), .int .u8 (p / 256 % 256), .int .u8 (p % 256)] 5) = W5 ∧ wr.heap.size = n5 ∧
    (∀ d os, (convert 38 9 (.slice (some ⟨n5, 0, none⟩) 8 8)).run Try.prog (Go.Sort.grow (redrawn W5 d) os) = .ok (.string (be8 p)) (Go.Sort.grow (redrawn W5 d) os)) ∧ Below wr.heap.size wr W5 :=
  ⟨_, _, rfl, rfl, fun d os => conv8g wr d os _ _ _ _ _ _ _ _ (by omega) (by omega) (by omega) (by omega) (by omega) (by omega) (by omega) (by omega), (Below.refl _ _).alloc (Nat.le_refl _) _⟩
theorem own_str {w wr : World} {v : Value} {len : Nat} {xs : Nat → ByteArray} (h : wr.ownsRow w.heap.size 9 1 v len (back xs len len)) :
    ∃ ao cp, v = .slice ao len cp ∧ len ≤ cp ∧ cp ≤ maxLen ∧ StrAt wr ao len (fun i => xs (len - 1 - i)) := by
  obtain ⟨hl, ⟨rfl, rfl⟩ | ⟨g, cp, cur, rfl, hb, hg, h1, h2, h3, h4⟩⟩ := h
  · exact ⟨none, 0, rfl, Nat.le_refl _, Nat.zero_le _, fun i hi => absurd hi (Nat.not_lt_zero _)⟩
  · refine ⟨_, cp, rfl, h1, h2, fun i hi => ⟨g, 0, rfl, ?_, ?_⟩⟩
    · rcases Nat.lt_or_ge g wr.heap.size with hlt | hge
      · exact hlt
      · rw [Array.getElem?_eq_none hge] at hg; cases hg
    · rw [Nat.zero_add]
      have hcell : wr.cell? ⟨g, i, none⟩ = cur[i]? := by simp [World.cell?, hg]
      rw [hcell]
      have : cur.toList[i]? = some (.string (xs (len - 1 - i))) := by
        have h5 : (cur.toList.take (len * 1))[i]? = cur.toList[i]? := by
          rw [List.getElem?_take, if_pos (by omega)]
        rw [← h5, h4]
        simp [back, hi]
      simpa using this
theorem rel_next {w wr w1 : World} {v v' : Value} {len m : Nat} {xs : Nat → ByteArray} {o : Obj} (hm : m < len) (hown : wr.ownsRow w.heap.size 9 1 v (len - (m + 1)) (back xs len (len - (m + 1)))) (hnx : Below w.heap.size w wr)
    (hown' : w1.ownsRow w.heap.size 9 1 v' (len - (m + 1) + 1) (back xs len (len - (m + 1)) ++ [.string (xs m)])) (hgrow : (wr.alloc o).grownBy w1 v.ownBlock) :
    w1.ownsRow w.heap.size 9 1 v' (len - m) (back xs len (len - m)) ∧ Below w.heap.size w w1 := by
  refine ⟨?_, (hnx.alloc hnx.size o).grown hgrow (by simp; have := hnx.size; omega) (fun j hj => (hown.lt j hj).1)⟩
  rw [← back_succ xs (show len - 1 - (len - (m + 1)) = m by omega)] at hown'
  rw [show len - m = len - (m + 1) + 1 by omega]
  exact hown'
set_option maxHeartbeats 1000000 in
set_option maxRecDepth 100000 in
theorem adds_walk (a : Option Addr) (len cap : Nat) (cut p : Int) (xs : Nat → ByteArray) (w : World) (h : StrAt w a len xs) (hz : ∀ i, i < len → (xs i).size ≤ maxLen) (hl : len ≤ cap) (hm : cap ≤ maxLen) (hnone : a = none → len = 0 ∧ cap = 0) (hcut : (Lit.int .u8 cut).wf = true) (hp : (Lit.int .u64 p).wf = true) :
    Calls Try.prog 8 #[.slice a len cap, .int .u8 cut, .int .u64 p] w fun e w' => e = .returned (.bool true) ∧ Below w.heap.size w w' := by
  have HS := Lib.hid h
  have HZ := Lib.hid hz
  clear h hz
  have hbc := bounds_u8 hcut
  have hbp := bounds_u64 hp
  obtain ⟨i0, hi, hz0, hz1, hz2⟩ := info_parts info9
  go_enter Try.func8, Try.ntmps8
  go_wp2_with fail
  refine (few_any a len cap xs _ HS.out HZ.out hl hm).mono ?_
  rintro e w1 ⟨rfl, rfl⟩
  cases hf : fewB len xs
  · go_wp2_with fail
    refine (awake_any _).mono ?_
    rintro e w1 ⟨rfl, hb1⟩
    go_wp2_with fail
    go_ret
    exact ⟨rfl, hb1⟩
  · obtain ⟨h1, h2⟩ : len ≤ 100 ∧ ∀ i, i < len → (xs i).size ≤ 100 := of_decide_eq_true hf
    have H2 := Lib.hid h2
    clear h2 hf
    go_wp2_with fail
    go_loopw [7, 8] (fun v i wr => ARel w len xs v i wr) (fun _ i _ => ((intOf i) + 1).toNat)
    case atStart => exact ⟨len, Nat.le_refl _, rfl, by rw [Nat.sub_self]; exact World.ownsRow_nil _ _ _ _, Below.refl _ _⟩
    case round =>
      obtain ⟨j, hj, rfl, hown, hnx⟩ := hrel
      rcases j with _ | m
      · have e0 : ((0 : Nat) : Int) - 1 = -1 := rfl
        rw [e0]
        have HO := Lib.hid hown
        have HX := Lib.hid hnx
        clear hown hnx e0
        rw [Nat.sub_zero] at HO
        obtain ⟨ao, cp, rfl, hcp1, hcp2, h7⟩ := own_str HO.out
        have hSr := strAt_below HS.out HX.out
        have hT := Total_any a len cap xs wr hSr (fun i hi => by have := H2.out i hi; omega) hl hm
        have hTl := totAt_lt xs len
        have hrv := (tot_rev (xs := xs) (ys := fun i => xs (len - 1 - i)) len (fun i hi => rfl))
        have HSr := Lib.hid hSr
        have HT := Lib.hid hT
        have H7 := Lib.hid h7
        clear hT hSr h7
        obtain ⟨c, hc, hcl⟩ : ∃ c : Nat, cut % ((len : Int) + 1) = (c : Int) ∧ c ≤ len := ⟨(cut % ((len : Int) + 1)).toNat, by have := Int.emod_nonneg cut (show (len : Int) + 1 ≠ 0 by omega); omega, by have := Int.emod_lt_of_pos cut (show (0 : Int) < (len : Int) + 1 by omega); have := Int.emod_nonneg cut (show (len : Int) + 1 ≠ 0 by omega); omega⟩
        have hmm := hm
        unfold maxLen at hmm
        go_wp2_with fail
        refine HT.out.mono ?_
        rintro e w1 ⟨rfl, rfl⟩
        have HNO := Lib.hid hnone
        clear hnone
        go_wp2_with fail
        rcases a with _ | x
        · obtain ⟨rfl, rfl⟩ := HNO.out rfl
          obtain rfl : c = 0 := by omega
          have ht0 : totAt xs 0 = 0 := rfl
          have t7 : ∀ n, Calls Try.prog 17 #[.slice ao 0 cp] (wr.drewN n) fun e w' => e = .returned (.int .i64 0) ∧ w' = wr.drewN n := fun n => (Total_any _ _ _ _ _ (strAt_drew H7.out _) (fun i hi => absurd hi (Nat.not_lt_zero _)) hcp1 hcp2).mono fun e w' h => ⟨h.1, h.2.symm⟩
          have t0 : ∀ n, Calls Try.prog 17 #[.slice none 0 0] (wr.drewN n) fun e w' => e = .returned (.int .i64 0) ∧ w' = wr.drewN n := fun n => (Total_any none 0 0 xs _ (fun i hi => absurd hi (Nat.not_lt_zero _)) (fun i hi => absurd hi (Nat.not_lt_zero _)) (Nat.le_refl _) (Nat.zero_le _)).mono fun e w' h => ⟨h.1, h.2.symm⟩
          have T7 := Lib.hid t7
          have T0 := Lib.hid t0
          clear t7 t0 hrv
          refine wp_region_quiet_lit (by kernel_rfl) (by kernel_rfl) ?_
          iterate 10 (go_big_quiet_step (exact Calls.quiet_of_same (T7.out _)))
          iterate 16 (go_big_quiet_step (exact Calls.quiet_of_same (T0.out _)))
          refine wpQuiet_nil ?_
          intro _ hw'
          obtain ⟨nq, hw''⟩ := hw'
          subst hw''
          go_wp2_with fail
          go_loopw [11] (fun i wq => i = .int .i64 0 ∧ Below w.heap.size w wq) (fun i _ => 0)
          case atStart => exact ⟨rfl, below_drewN HX.out nq⟩
          case round =>
            obtain ⟨rfl, hX⟩ := hrel
            have HQ := Lib.hid hX
            clear hX
            go_wp2_with fail
            refine (awake_any _).mono ?_
            rintro e w9 ⟨rfl, hb9⟩
            go_wp2_with fail
            go_ret
            exact ⟨rfl, below_call HQ.out hb9⟩
        · have hd1 : decide (((totAt xs len : Nat) : Int) < 0) = false := decide_eq_false (by omega)
          have hd2 : decide (100000000 ≤ ((totAt xs len : Nat) : Int)) = false := decide_eq_false (by omega)
          have hsp : (((totAt xs c : Nat) : Int) + ((totAt (fun i => xs (c + i)) (len - c) : Nat) : Int)) % 100000000 = ((totAt xs len : Nat) : Int) := by have := tot_split xs hcl; omega
          have hb1 := totAt_lt xs c
          have hb2 := totAt_lt (fun i => xs (c + i)) (len - c)
          have HP := Lib.hid (show StrAt wr (some x) c xs from fun i hi => HSr.out i (by omega))
          have HSuf := Lib.hid (strAt_suf (x := x) (cap := cap) HSr.out hcl hl)
          refine wp_region_quiet_lit (by kernel_rfl) (by kernel_rfl) ?_
          iterate 10 (go_big_quiet_step (exact Calls.quiet_of_same ((Total_any _ _ _ _ _ (strAt_drew H7.out _) (fun i hi => by have := H2.out (len - 1 - i) (by omega); omega) hcp1 hcp2).mono fun e w' h => ⟨h.1, h.2.symm⟩)))
          iterate 8 (go_big_quiet_step (exact Calls.quiet_of_same ((Total_any _ _ _ _ _ (strAt_drew HP.out _) (fun i hi => by have := H2.out i (by omega); omega) (by omega) (by unfold maxLen; omega)).mono fun e w' h => ⟨h.1, h.2.symm⟩)))
          iterate 8 (go_big_quiet_step (exact Calls.quiet_of_same ((Total_any _ _ _ _ _ (strAt_drew HSuf.out _) (fun i hi => by have := H2.out (c + i) (by omega); omega) (by omega) (by unfold maxLen; omega)).mono fun e w' h => ⟨h.1, h.2.symm⟩)))
          refine wpQuiet_nil ?_
          intro _ hw'
          obtain ⟨nq, hw''⟩ := hw'
          subst hw''
          generalize (if cap = c then some x else some (Addr.add x c)) = A58
          go_wp2_with fail
          go_loopw [11] (fun i wq => ∃ k : Nat, k ≤ len ∧ i = .int .i64 k ∧ Below w.heap.size w wq) (fun i _ => len - (intOf i).toNat)
          case atStart => exact ⟨0, Nat.zero_le _, rfl, below_drewN HX.out nq⟩
          case round =>
            obtain ⟨k, hk, rfl, hX⟩ := hrel
            have HQ := Lib.hid hX
            clear hX
            by_cases hk2 : k < len
            · obtain ⟨b, off, e, hbw, hcw⟩ := HS.out k hk2
              injection e with e
              subst e
              have hcx : wr.cell? ⟨b, off + k, none⟩ = some (.string (xs k)) := (HQ.out.cell (p := ⟨b, off + k, none⟩) hbw).trans hcw
              clear hcw
              have hks := H2.out k hk2
              go_wp2_with fail
              obtain ⟨W5, n5, hW5, hn5, hcv, hB5⟩ := laid8 wr p hbp
              rw [hW5, hn5]
              have hld : ∀ d os, (Go.Sort.grow (redrawn W5 d) os).cell? ⟨b, off + k, none⟩ = some (.string (xs k)) := fun d os => cell_regrown ((hB5.cell (p := ⟨b, off + k, none⟩) (block_lt_of_cell hcx)).trans hcx) d os
              have hchain : ∀ W, Calls Try.prog 14 #[.int .u64 p, .string (xs k)] W fun e w' => e = .returned (.int .u64 (hashOf (be8 p ++ xs k))) ∧ Below W.heap.size W w' := fun W => chain_any p (xs k) W hp (by omega)
              have hhash : ∀ W, Calls Try.prog 12 #[.string (be8 p ++ xs k)] W fun e w' => e = .returned (.int .u64 (hashOf (be8 p ++ xs k))) ∧ Below W.heap.size W w' := fun W => (hash_try (be8 p ++ xs k) W (by rw [ByteArray.size_append, be8_size]; unfold maxLen; omega)).mono fun e w' h => ⟨h.1, by rw [← h.2]; exact Below.refl _ _⟩
              have HC := Lib.hid hchain
              have HH := Lib.hid hhash
              have HB5 := Lib.hid (below_call HQ.out hB5)
              have hbs := be8_size p
              clear hchain hhash hW5 hn5 hcx hB5
              refine wp_region_quiet_below (by kernel_rfl) (by kernel_rfl) ?_
              iterate 6 (first | go_big_quiet_step (exact Calls.regrown_of (HC.out _)) | quiet_step (exact Calls.regrown_of (HC.out _)))
              iterate 9 (first | go_big_quiet_step (exact Calls.regrown_of (HH.out _)) | quiet_step (exact Calls.regrown_of (HH.out _)))
              refine wpQuiet_nil ?_
              intro _ hw'
              obtain ⟨⟨dq, osq⟩, hw''⟩ := hw'
              subst hw''
              go_wp2_with fail
              go_roundw
              case rel => exact ⟨k + 1, by omega, rfl, HB5.out.trans ((below_regrown W5 dq osq).mono HB5.out.size)⟩
              case measure => simp [intOf]; omega
            · go_wp2_with fail
              refine (awake_any _).mono ?_
              rintro e w9 ⟨rfl, hb9⟩
              go_wp2_with fail
              go_ret
              exact ⟨rfl, below_call HQ.out hb9⟩
      · have e0 : ((m + 1 : Nat) : Int) - 1 = (m : Int) := by omega
        rw [e0]
        clear e0
        obtain ⟨b, off, rfl, hbw, hcw⟩ := HS.out m (by omega)
        have hcx : wr.cell? ⟨b, off + m, none⟩ = some (.string (xs m)) := (hnx.cell (p := ⟨b, off + m, none⟩) hbw).trans hcw
        have HCW := Lib.hid hcw
        clear hcw
        go_wp2_with (at_builtin; refine wpList_append_own _ rfl _ _ 29 rfl w.heap.size 9 i0 (.string ByteArray.empty) 1 16 Try.underlying29 hi hz0 hz1 hz2 rfl (by decide) _ _ _ rfl (hown.alloc _) ⟨wr.heap.size, 0, none⟩ 1 1 [.string (xs m)] rfl rfl ?c1 ?c2 ?c3 ?c4 ?c5 ?_)
        case c1 =>
          intro j u hj
          match j, hj with
          | 0, hj => simp at hj; subst hj; simp [Addr.add]
        case c2 => intro u hu; simp at hu; subst hu; rfl
        case c3 => unfold maxLen; omega
        case c4 => omega
        case c5 => have := hnx.size; simp; omega
        intro v' w1 hown' hgrow _
        have R := rel_next (by omega) hown hnx hown' hgrow
        have RO := Lib.hid R
        clear R hown' hgrow hown hnx hcx
        go_wp2_with fail
        go_roundw
        case rel => exact ⟨m, by omega, rfl, RO.out.1, RO.out.2⟩
        case measure => simp [intOf]
end Go.Proofs.Ytdciiegdgpepbaa
