/- Sum of the program and of the reference. -/
import Derived.Test.YtompeealmgdfhaaDoorZ
set_option linter.unusedVariables false
set_option linter.unusedSimpArgs false
namespace Go.Proofs.YtompeealmgdfhaaDoor
open Go.Sort Go.ChangeShapes Go.WideShapes Go.ChangeAt Go.RowKit
open div
/-- an amount that lies in a row -/
structure Mn where
  a : Int
  c : ByteArray
def MonsAt (w : World) (A : Option Addr) (len : Nat) (xs : Nat → Mn) : Prop :=
  ∀ i, i < len → ∃ b off, A = some ⟨b, off, none⟩ ∧ b < w.heap.size ∧ w.cell? ⟨b, off + i * 2, none⟩ = some (.int .i64 (xs i).a) ∧ w.cell? ⟨b, off + i * 2 + 1, none⟩ = some (.string (xs i).c) ∧ (xs i).c.size ≤ maxLen
theorem MonsAt.call {w w1 : World} {A : Option Addr} {len : Nat} {xs : Nat → Mn} (h : MonsAt w A len xs) (hb : Below w.heap.size w w1) : MonsAt w1 A len xs := fun i hi => by
  obtain ⟨b, off, h1, h2, c0, c1, s1⟩ := h i hi
  exact ⟨b, off, h1, Nat.lt_of_lt_of_le h2 hb.size, (hb.cell (p := ⟨b, off + i * 2, none⟩) h2).trans c0, (hb.cell (p := ⟨b, off + i * 2 + 1, none⟩) h2).trans c1, s1⟩
/-- one step of a sum: the amount, its currency, the error -/
def nxA (s : Int) (c : ByteArray) (m : Mn) : Int := if (adE (chk2 (mchk s c) (mchk m.a m.c) c m.c) (s + m.a) == 0) = true then s + m.a else 0
def nxC (s : Int) (c : ByteArray) (m : Mn) : ByteArray := if (adE (chk2 (mchk s c) (mchk m.a m.c) c m.c) (s + m.a) == 0) = true then c else ⟨#[]⟩
def nxE (s : Int) (c : ByteArray) (m : Mn) : Int := adE (chk2 (mchk s c) (mchk m.a m.c) c m.c) (s + m.a)
structure St where
  s : Int
  c : ByteArray
  e : Int
def st0 (cur : ByteArray) : St := if (mchk 0 cur == 0) = true then ⟨0, cur, 0⟩ else ⟨0, ⟨#[]⟩, mchk 0 cur⟩
def stS (cur : ByteArray) (xs : Nat → Mn) : Nat → St
  | 0 => st0 cur
  | k + 1 => if ((stS cur xs k).e == 0) = true then ⟨nxA (stS cur xs k).s (stS cur xs k).c (xs k), nxC (stS cur xs k).s (stS cur xs k).c (xs k), nxE (stS cur xs k).s (stS cur xs k).c (xs k)⟩ else stS cur xs k
theorem stS_stop {cur : ByteArray} {xs : Nat → Mn} {k : Nat} (h : ((stS cur xs k).e == 0) = false) (n : Nat) (hn : k ≤ n) : stS cur xs n = stS cur xs k := by
  obtain ⟨d, rfl⟩ := Nat.exists_eq_add_of_le hn
  clear hn
  induction d with
  | zero => rfl
  | succ d ih => rw [← Nat.add_assoc, stS, ih, h]; rfl
theorem stS_size {cur : ByteArray} {xs : Nat → Mn} (hc : cur.size ≤ maxLen) (k : Nat) : (stS cur xs k).c.size ≤ maxLen := by
  induction k with
  | zero => unfold stS st0; split; · exact hc
            · exact Nat.zero_le _
  | succ k ih =>
    rw [stS]; split
    · show (nxC _ _ _).size ≤ maxLen
      unfold nxC; split
      · exact ih
      · exact Nat.zero_le _
    · exact ih
theorem ad_next (s : Int) (c : ByteArray) (m : Mn) : adV (chk2 (mchk s c) (mchk m.a m.c) c m.c) (s + m.a) c = mo (nxA s c m) (nxC s c m) ∧ adE (chk2 (mchk s c) (mchk m.a m.c) c m.c) (s + m.a) = nxE s c m := by
  refine ⟨?_, rfl⟩
  unfold adV nxA nxC
  split
  · rfl
  · rfl
theorem add_next (s : Int) (c : ByteArray) (m : Mn) (hc : c.size ≤ maxLen) (hd : m.c.size ≤ maxLen) (w : World) :
    Calls Tryd.prog 10 #[mo s c, mo m.a m.c] w fun e w' => e = .returned (.tuple #[mo (nxA s c m) (nxC s c m), .int .i64 (nxE s c m)]) ∧ Below w.heap.size w w' := by
  have h := add_any s m.a c m.c hc hd w
  rw [(ad_next s c m).1, (ad_next s c m).2] at h
  exact h
theorem radd_next (s : Int) (c : ByteArray) (m : Mn) (hc : c.size ≤ maxLen) (hd : m.c.size ≤ maxLen) (w : World) :
    Calls Tryd.prog 11 #[mo s c, mo m.a m.c] w fun e w' => e = .returned (.tuple #[mo (nxA s c m) (nxC s c m), .int .i64 (nxE s c m)]) ∧ Below w.heap.size w w' := by
  have h := radd_any s m.a c m.c hc hd w
  rw [(ad_next s c m).1, (ad_next s c m).2] at h
  exact h
theorem st0_val (cur : ByteArray) : (if (mchk 0 cur == 0) = true then mo 0 cur else mo0) = mo (st0 cur).s (st0 cur).c ∧ mchk 0 cur = (st0 cur).e := by
  unfold st0
  by_cases h : (mchk 0 cur == 0) = true
  · rw [if_pos h, if_pos h]; exact ⟨rfl, by simpa using h⟩
  · rw [if_neg h, if_neg h]; exact ⟨rfl, rfl⟩
theorem blk_upd2 {wr : World} {g t : Nat} {x y : Value} (a b : Value) (h : Blk wr g t #[x, y]) : Blk ((wr.setCell ⟨g, 0, none⟩ a).setCell ⟨g, 1, none⟩ b) g t #[a, b] := by
  simpa using (h.set_ 0 a).set_ 1 b
theorem below_upd2 {B : Nat} {w wr : World} {g : Nat} (a b : Value) (h : Below B w wr) (hg : B ≤ g) : Below B w ((wr.setCell ⟨g, 0, none⟩ a).setCell ⟨g, 1, none⟩ b) :=
  (h.setCell (p := ⟨g, 0, none⟩) hg a).setCell (p := ⟨g, 1, none⟩) hg b
theorem cell2 {w : World} {g t : Nat} {x y : Value} (h : Blk w g t #[x, y]) : w.cell? ⟨g, 0, none⟩ = some x ∧ w.cell? ⟨g, 1, none⟩ = some y ∧ w.frozen? ⟨g, 0, none⟩ = false ∧ w.frozen? ⟨g, 1, none⟩ = false ∧ g < w.heap.size :=
  ⟨h.cell 0, h.cell 1, h.frozen 0, h.frozen 1, h.lt⟩
set_option maxHeartbeats 4000000 in
set_option maxRecDepth 20000 in
theorem sum_any (cur : ByteArray) (A : Option Addr) (len cap : Nat) (xs : Nat → Mn) (hc : cur.size ≤ maxLen) (hl : len ≤ 100) (w : World) (hz : MonsAt w A len xs) :
    Calls Tryd.prog 25 #[.string cur, .slice A len cap] w fun e w' => e = .returned (.tuple #[mo (stS cur xs len).s (stS cur xs len).c, .int .i64 (stS cur xs len).e]) ∧ Below w.heap.size w w' := by
  have HZ := Lib.hid hz
  have HS := Lib.hid (fun k => stS_size (cur := cur) (xs := xs) hc k)
  have V0 := Lib.hid (fun w => valid_any 0 cur hc w)
  rw [(st0_val cur).1, (st0_val cur).2, show st0 cur = stS cur xs 0 from rfl] at V0
  generalize ht : stS cur xs = T at *
  have HT := Lib.hid ht
  unfold mo at *
  clear hz hc ht
  go_enter Tryd.func25, Tryd.ntmps25
  go_wp2_with fail
  refine (V0.out _).mono ?_
  rintro e w1 ⟨rfl, hb⟩
  have HB1 := Lib.hid (below_call (al (o := .cells #[.int .i64 0, .string ⟨#[]⟩] 23) (Below.refl w.heap.size w)) hb)
  have HG := Lib.hid (Nat.le_of_lt (show w.heap.size < w1.heap.size from Nat.lt_of_lt_of_le (by simp) hb.size))
  have HNE := Lib.hid (Nat.ne_of_lt (show w.heap.size < w1.heap.size from Nat.lt_of_lt_of_le (by simp) hb.size))
  have KR := Lib.hid (((Blk.new w 23 #[.int .i64 0, .string ⟨#[]⟩]).call hb).alloc (.cells #[.int .i64 (T 0).s, .string (T 0).c] 23))
  clear hb
  go_wp2_with fail
  go_loopw [18, 7] (fun x y wr => ∃ i : Nat, i ≤ len ∧ x = .int .i64 i ∧ y = .int .i64 (T i).e ∧ Below w.heap.size w wr ∧ Blk wr w.heap.size 23 #[.int .i64 0, .string ⟨#[]⟩] ∧ Blk wr w1.heap.size 23 #[.int .i64 (T i).s, .string (T i).c]) (fun x _ _ => len - (intOf x).toNat)
  case atStart => exact ⟨0, Nat.zero_le _, rfl, rfl, by first | exact (al HB1.out) | exact below_upd2 _ _ (al HB1.out) HG.out, KR.out, by first | exact Blk.new w1 23 _ | exact blk_upd2 _ _ (Blk.new w1 23 _)⟩
  case round =>
    obtain ⟨i, hi, rfl, rfl, hB, hR, hK⟩ := hrel
    have HR := Lib.hid hR
    have HB := Lib.hid hB
    have HK := Lib.hid hK
    clear hB hK hR
    obtain ⟨r0, r1, u0, u1, u2⟩ := cell2 HK.out
    by_cases hlt0 : i < len
    · have hlt : (i : Int) < (len : Int) := by omega
      obtain ⟨b, off, rfl, hbw, g0, g1, s1⟩ := HZ.out i hlt0
      have c0 : wr.cell? ⟨b, off + i * 2, none⟩ = some (.int .i64 (xs i).a) := (HB.out.cell (p := ⟨b, off + i * 2, none⟩) hbw).trans g0
      have c1 : wr.cell? ⟨b, off + i * 2 + 1, none⟩ = some (.string (xs i).c) := (HB.out.cell (p := ⟨b, off + i * 2 + 1, none⟩) hbw).trans g1
      have hbl := block_lt_of_cell (a := ⟨b, off + i * 2, none⟩) c0
      clear g0 g1
      cases hE : ((T i).e == 0)
      · have hx2 : ((T i).e != 0) = true := by rw [bne, hE]; rfl
        have HQ : Hid (T len = T i) := Lib.hid (by have h := HT.out; subst h; exact stS_stop hE len hi)
        generalize T i = t at *
        obtain ⟨ts, tc, te⟩ := t
        dsimp only at *
        clear hi hE V0
        have HR3 := Lib.hid ((blk_upd2 (.int .i64 ts) (.string tc) HR.out).alloc (.cells #[.int .i64 (xs i).a, .string (xs i).c] 23))
        have HB3 := Lib.hid (al (o := .cells #[.int .i64 (xs i).a, .string (xs i).c] 23) (below_upd2 (.int .i64 ts) (.string tc) HB.out (Nat.le_refl w.heap.size)))
        obtain ⟨q0, q1, v0, v1, v2⟩ := cell2 HR.out
        go_wp2_with fail
        obtain ⟨y0, y1, -, -, -⟩ := cell2 HR3.out
        exact bodyPost_ret (v := .tuple #[.agg #[.int .i64 ts, .string tc], .int .i64 te]) (by simp [results, Tryd.results25, go_sem, y0, y1]) rfl ⟨by rw [HQ.out], HB3.out⟩
      · have hx2 : ((T i).e != 0) = false := by rw [bne, hE]; rfl
        have HN : Hid (T (i + 1) = ⟨nxA (T i).s (T i).c (xs i), nxC (T i).s (T i).c (xs i), nxE (T i).s (T i).c (xs i)⟩) := Lib.hid (by have h := HT.out; subst h; rw [stS, if_pos hE])
        have AN := Lib.hid (fun w => add_next (T i).s (T i).c (xs i) (HS.out i) s1 w)
        have he0 : (T i).e = 0 := by simpa using hE
        unfold mo at AN
        generalize nxA (T i).s (T i).c (xs i) = nA at *
        generalize nxC (T i).s (T i).c (xs i) = nC at *
        generalize nxE (T i).s (T i).c (xs i) = nE at *
        generalize T i = t at *
        generalize xs i = m at *
        obtain ⟨ts, tc, te⟩ := t
        obtain ⟨ma, mc⟩ := m
        dsimp only at *
        subst he0
        clear hE V0
        go_wp2_with fail
        refine (AN.out _).mono ?_
        rintro e w2 ⟨rfl, hb⟩
        have HB2 := Lib.hid (below_call (al (o := .cells #[.int .i64 ma, .string mc] 23) HB.out) hb)
        have HK2 := Lib.hid ((HK.out.alloc (.cells #[.int .i64 ma, .string mc] 23)).call hb)
        clear r0 r1 u0 u1 u2
        obtain ⟨r0, r1, u0, u1, u2⟩ := cell2 HK2.out
        have HR2 := Lib.hid ((((HR.out.alloc (.cells #[.int .i64 ma, .string mc] 23)).call hb).far (p := ⟨w1.heap.size, 0, none⟩) HNE.out (.int .i64 nA)).far (p := ⟨w1.heap.size, 1, none⟩) HNE.out (.string nC))
        have HK3 := Lib.hid (blk_upd2 (.int .i64 nA) (.string nC) HK2.out)
        have HB3 := Lib.hid (below_upd2 (.int .i64 nA) (.string nC) HB2.out HG.out)
        clear hb
        go_wp2_with fail
        go_roundw
        case rel => exact ⟨i + 1, by omega, by go_num, by rw [HN.out], HB3.out, HR2.out, by rw [HN.out]; exact HK3.out⟩
        case measure => simp [intOf]; omega
    · have hlt : ¬ (i : Int) < (len : Int) := by omega
      obtain rfl : i = len := by omega
      clear V0
      have HR3 := Lib.hid (blk_upd2 (.int .i64 (T i).s) (.string (T i).c) HR.out)
      have HB3 := Lib.hid (below_upd2 (.int .i64 (T i).s) (.string (T i).c) HB.out (Nat.le_refl w.heap.size))
      obtain ⟨q0, q1, v0, v1, v2⟩ := cell2 HR.out
      go_wp2_with fail
      obtain ⟨y0, y1, -, -, -⟩ := cell2 HR3.out
      exact bodyPost_ret (v := .tuple #[.agg #[.int .i64 (T i).s, .string (T i).c], .int .i64 (T i).e]) (by simp [results, Tryd.results25, go_sem, y0, y1]) rfl ⟨rfl, HB3.out⟩
end Go.Proofs.YtompeealmgdfhaaDoor
