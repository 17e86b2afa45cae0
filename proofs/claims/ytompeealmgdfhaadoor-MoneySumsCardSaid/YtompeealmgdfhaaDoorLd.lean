/- Sum of the program and of the reference. -/
import Derived.Test.YtompeealmgdfhaaDoorLc
set_option linter.unusedVariables false
set_option linter.unusedSimpArgs false
namespace Go.Proofs.YtompeealmgdfhaaDoor
open Go.Sort Go.ChangeShapes Go.WideShapes Go.ChangeAt Go.RowKit
open div
theorem new_at {w : World} {d : Nat} {os : Array Obj} {cs : Array Value} : Blk ((grow (redrawn w.drew d) os).alloc (.cells cs 23)) (w.heap.size + os.size) 23 cs := by
  have h := Blk.new (grow (redrawn w.drew d) os) 23 cs
  rw [size_regrow] at h
  exact h
theorem drB {w : World} {g t d : Nat} {os : Array Obj} {cs : Array Value} (h : Blk w g t cs) : Blk (grow (redrawn w.drew d) os) g t cs := Blk.call (w := w.drew) h (below_regrown _ _ _)
theorem nx_bad (s : Int) (c : ByteArray) (m : Mn) (h : (nxE s c m == 0) = false) : nxA s c m = 0 ∧ nxC s c m = ⟨#[]⟩ := by
  unfold nxE at h
  unfold nxA nxC
  rw [h]
  exact ⟨rfl, rfl⟩
set_option maxHeartbeats 4000000 in
set_option maxRecDepth 20000 in
theorem rsum_bad (cur : ByteArray) (A : Option Addr) (len cap : Nat) (xs : Nat → Mn) (hc : cur.size ≤ maxLen) (hl : len ≤ 100) (w : World) (hz : MonsAt w A len xs) (hcl : curL cur.data.toList = false) :
    Calls Tryd.prog 26 #[.string cur, .slice A len cap] w fun e w' => e = .returned (.tuple #[mo0, .int .i64 11]) ∧ Below w.heap.size w w' := by
  have C0 := Lib.hid (fun w => rcur1_any cur w hc)
  rw [hcl] at C0
  unfold mo0 mo
  clear hz hc hl hcl
  go_enter Tryd.func26, Tryd.ntmps26
  go_wp2_with fail
  refine (C0.out _).mono ?_
  rintro e w1 ⟨rfl, rfl⟩
  go_wp2_with fail
  exact bodyPost_ret (v := .tuple #[.agg #[.int .i64 0, .string ⟨#[]⟩], .int .i64 11]) (by simp [results, Tryd.results26, go_sem]) rfl ⟨rfl, by repeat (first | exact Below.refl _ _ | refine al ?_ | refine bre ?_ _ _)⟩
set_option maxHeartbeats 4000000 in
set_option maxRecDepth 20000 in
theorem rsum_ok (cur : ByteArray) (A : Option Addr) (len cap : Nat) (xs : Nat → Mn) (hc : cur.size ≤ maxLen) (hl : len ≤ 100) (w : World) (hz : MonsAt w A len xs) (hcl : curL cur.data.toList = true) :
    Calls Tryd.prog 26 #[.string cur, .slice A len cap] w fun e w' => e = .returned (.tuple #[mo (stS cur xs len).s (stS cur xs len).c, .int .i64 (stS cur xs len).e]) ∧ Below w.heap.size w w' := by
  have C0 := Lib.hid (fun w => rcur1_any cur w hc)
  rw [hcl] at C0
  have HZ := Lib.hid hz
  have HS := Lib.hid (fun k => stS_size (cur := cur) (xs := xs) hc k)
  have H0 : Hid (stS cur xs 0 = ⟨0, cur, 0⟩) := Lib.hid (by show st0 cur = _; unfold st0; rw [if_pos]; rw [mchk_of hcl, if_pos (by omega)]; rfl)
  generalize ht : stS cur xs = T at *
  have HT := Lib.hid ht
  unfold mo at *
  clear hz hc ht hcl
  go_enter Tryd.func26, Tryd.ntmps26
  go_wp2_with fail
  refine (C0.out _).mono ?_
  rintro e w1 ⟨rfl, rfl⟩
  go_wp2_with fail
  have hgg : w.heap.size + 1 ≠ w.heap.size := by omega
  have hgh : w.heap.size ≤ w.heap.size + 1 := by omega
  have K00 := Lib.hid ((Blk.new w 23 #[.int .i64 0, .string ⟨#[]⟩]).alloc (.cells #[.int .i64 0, .string cur] 23))
  have K01 := Lib.hid (Blk.new (w.alloc (.cells #[.int .i64 0, .string ⟨#[]⟩] 23)) 23 #[.int .i64 0, .string cur])
  rw [show (w.alloc (.cells #[.int .i64 0, .string ⟨#[]⟩] 23)).heap.size = w.heap.size + 1 by simp] at K01
  have HGG := Lib.hid hgg
  have HGH := Lib.hid hgh
  clear hgg hgh
  generalize hgs : w.heap.size + 1 = gs at *
  clear hgs
  go_loopw [7] (fun x wr => ∃ i : Nat, i ≤ len ∧ x = .int .i64 i ∧ (T i).e = 0 ∧ Below w.heap.size w wr ∧ Blk wr w.heap.size 23 #[.int .i64 0, .string ⟨#[]⟩] ∧ Blk wr gs 23 #[.int .i64 (T i).s, .string (T i).c]) (fun x _ => len - (intOf x).toNat)
  case atStart => exact ⟨0, Nat.zero_le _, rfl, by rw [H0.out], al (al (Below.refl _ _)), K00.out, by rw [H0.out]; exact K01.out⟩
  case round =>
    obtain ⟨i, hi, rfl, hE0, hB, hR, hK⟩ := hrel
    have HR := Lib.hid hR
    have HB := Lib.hid hB
    have HK := Lib.hid hK
    have HE0 := Lib.hid hE0
    clear hB hK hR hE0
    obtain ⟨r0, r1, u0, u1, u2⟩ := cell2 HK.out
    by_cases hlt0 : i < len
    · have hlt : (i : Int) < (len : Int) := by omega
      obtain ⟨b, off, rfl, hbw, g0, g1, s1⟩ := HZ.out i hlt0
      have c0 : wr.cell? ⟨b, off + i * 2, none⟩ = some (.int .i64 (xs i).a) := (HB.out.cell (p := ⟨b, off + i * 2, none⟩) hbw).trans g0
      have c1 : wr.cell? ⟨b, off + i * 2 + 1, none⟩ = some (.string (xs i).c) := (HB.out.cell (p := ⟨b, off + i * 2 + 1, none⟩) hbw).trans g1
      have hbl := block_lt_of_cell (a := ⟨b, off + i * 2, none⟩) c0
      clear g0 g1
      have HN : Hid (T (i + 1) = ⟨nxA (T i).s (T i).c (xs i), nxC (T i).s (T i).c (xs i), nxE (T i).s (T i).c (xs i)⟩) := Lib.hid (by have h := HT.out; have h2 := HE0.out; subst h; rw [stS, if_pos (by rw [h2]; rfl)])
      have HM := Lib.hid (nx_bad (T i).s (T i).c (xs i))
      have AN := Lib.hid (fun w => radd_next (T i).s (T i).c (xs i) (HS.out i) s1 w)
      unfold mo at AN
      generalize nxA (T i).s (T i).c (xs i) = nA at *
      generalize nxC (T i).s (T i).c (xs i) = nC at *
      generalize nxE (T i).s (T i).c (xs i) = nE at *
      generalize T i = t at *
      generalize xs i = m at *
      obtain ⟨ts, tc, te⟩ := t
      obtain ⟨ma, mc⟩ := m
      dsimp only at *
      go_upto_region 7 with fail
      go_cut [8, 9] (fun p y wx => ∃ g : Nat, p = .pointer (some ⟨g, 0, none⟩) ∧ y = .int .i64 nE ∧ gs < g ∧ Below w.heap.size w wx ∧ Blk wx w.heap.size 23 #[.int .i64 0, .string ⟨#[]⟩] ∧ Blk wx gs 23 #[.int .i64 ts, .string tc] ∧ Blk wx g 23 #[.int .i64 nA, .string nC])
      case first =>
        go_region_with (go_at_call 11; refine (AN.out _).mono ?_; rintro e w5 ⟨rfl, hb5⟩; obtain ⟨d5, o5, rfl⟩ := regrow_of hb5; clear hb5)
        all_goals
          go_wp2_with fail
          go_meet
          first
            | exact ⟨_, rfl, rfl, by have := HK.out.lt; omega, al (bre HB.out.drew _ _), (drB HR.out).alloc _, (drB HK.out).alloc _, new_at⟩
            | exact ⟨_, rfl, rfl, HK.out.lt, bre (al HB.out).drew _ _, drB (HR.out.alloc _), drB (HK.out.alloc _), drB (Blk.new wr 23 _)⟩
      case rest =>
        obtain ⟨g, rfl, rfl, hg, hB2, hR2, hK2, hN2⟩ := hcut
        have HB2 := Lib.hid hB2
        have HR2 := Lib.hid hR2
        have HK2 := Lib.hid hK2
        have HN2 := Lib.hid hN2
        clear hB2 hR2 hK2 hN2 r0 r1 u0 u1 u2 c0 c1 hbl
        obtain ⟨r0, r1, u0, u1, u2⟩ := cell2 HK2.out
        obtain ⟨n0, n1, m0, m1, m2⟩ := cell2 HN2.out
        cases hN0 : (nE == 0)
        · have hx2 : (nE != 0) = true := by rw [bne, hN0]; rfl
          obtain ⟨rfl, rfl⟩ := HM.out hN0
          have HQ : Hid (T len = T (i + 1)) := Lib.hid (by have h := HT.out; have h2 := HN.out; subst h; exact stS_stop (by rw [h2]; exact hN0) len hlt0)
          have HR3 := Lib.hid (blk_upd2 (.int .i64 0) (.string ⟨#[]⟩) HR2.out)
          have HB3 := Lib.hid (below_upd2 (.int .i64 0) (.string ⟨#[]⟩) HB2.out (Nat.le_refl w.heap.size))
          obtain ⟨q0, q1, v0, v1, v2⟩ := cell2 HR2.out
          clear hN0
          go_wp2_with fail
          obtain ⟨y0, y1, -, -, -⟩ := cell2 HR3.out
          exact bodyPost_ret (v := .tuple #[.agg #[.int .i64 0, .string ⟨#[]⟩], .int .i64 nE]) (by simp [results, Tryd.results26, go_sem, y0, y1]) rfl ⟨by rw [HQ.out, HN.out], HB3.out⟩
        · have hx2 : (nE != 0) = false := by rw [bne, hN0]; rfl
          have hE : nE = 0 := by simpa using hN0
          subst hE
          have HR3 := Lib.hid ((HR2.out.far (p := ⟨gs, 0, none⟩) HGG.out.symm (.int .i64 nA)).far (p := ⟨gs, 1, none⟩) HGG.out.symm (.string nC))
          have HK3 := Lib.hid (blk_upd2 (.int .i64 nA) (.string nC) HK2.out)
          have HB3 := Lib.hid (below_upd2 (.int .i64 nA) (.string nC) HB2.out HGH.out)
          clear hN0
          go_wp2_with fail
          go_roundw
          case rel => exact ⟨i + 1, by omega, by go_num, by rw [HN.out], HB3.out, HR3.out, by rw [HN.out]; exact HK3.out⟩
          case measure => simp [intOf]; omega
    · have hlt : ¬ (i : Int) < (len : Int) := by omega
      obtain rfl : i = len := by omega
      have HR3 := Lib.hid (blk_upd2 (.int .i64 (T i).s) (.string (T i).c) HR.out)
      have HB3 := Lib.hid (below_upd2 (.int .i64 (T i).s) (.string (T i).c) HB.out (Nat.le_refl w.heap.size))
      obtain ⟨q0, q1, v0, v1, v2⟩ := cell2 HR.out
      go_wp2_with fail
      obtain ⟨y0, y1, -, -, -⟩ := cell2 HR3.out
      exact bodyPost_ret (v := .tuple #[.agg #[.int .i64 (T i).s, .string (T i).c], .int .i64 0]) (by simp [results, Tryd.results26, go_sem, y0, y1]) rfl ⟨by rw [HE0.out], HB3.out⟩
end Go.Proofs.YtompeealmgdfhaaDoor
