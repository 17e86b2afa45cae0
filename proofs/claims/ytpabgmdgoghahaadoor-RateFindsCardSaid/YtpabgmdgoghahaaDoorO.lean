/- stated of both. -/
import Derived.Test.YtpabgmdgoghahaaDoorL
set_option linter.unusedVariables false
set_option linter.unusedSimpArgs false
namespace Go.Proofs.YtpabgmdgoghahaaDoor
open Go.Sort Go.ChangeShapes Go.WideShapes Go.ChangeAt Go.RowKit
/-- a rate, part by part -/
structure Rt where
  f : ByteArray
  t : ByteArray
  n : Int
  d : Int
/-- rates that lie in a row -/
def RatesAt (w : World) (A : Option Addr) (len : Nat) (xs : Nat → Rt) : Prop :=
  ∀ i, i < len → ∃ b off, A = some ⟨b, off, none⟩ ∧ b < w.heap.size ∧ w.cell? ⟨b, off + i * 4, none⟩ = some (.string (xs i).f) ∧ w.cell? ⟨b, off + i * 4 + 1, none⟩ = some (.string (xs i).t) ∧
    w.cell? ⟨b, off + i * 4 + 2, none⟩ = some (.int .i64 (xs i).n) ∧ w.cell? ⟨b, off + i * 4 + 3, none⟩ = some (.int .i64 (xs i).d) ∧ (xs i).f.size ≤ maxLen ∧ (xs i).t.size ≤ maxLen
theorem RatesAt.call {w w1 : World} {A : Option Addr} {len : Nat} {xs : Nat → Rt} (h : RatesAt w A len xs) (hb : Below w.heap.size w w1) : RatesAt w1 A len xs := fun i hi => by
  obtain ⟨b, off, h1, h2, c0, c1, c2, c3, s1, s2⟩ := h i hi
  exact ⟨b, off, h1, Nat.lt_of_lt_of_le h2 hb.size, (hb.cell (p := ⟨b, off + i * 4, none⟩) h2).trans c0, (hb.cell (p := ⟨b, off + i * 4 + 1, none⟩) h2).trans c1, (hb.cell (p := ⟨b, off + i * 4 + 2, none⟩) h2).trans c2, (hb.cell (p := ⟨b, off + i * 4 + 3, none⟩) h2).trans c3, s1, s2⟩
def okR (r : Rt) (f t : ByteArray) : Bool := (r.f.toList == f.toList) && (r.t.toList == t.toList) && (chkR r.f r.t r.n r.d == 0)
theorem blk_upd4 {wr : World} {g t : Nat} {x y z u : Value} (a b c d : Value) (h : Blk wr g t #[x, y, z, u]) : Blk ((((wr.setCell ⟨g, 0, none⟩ a).setCell ⟨g, 1, none⟩ b).setCell ⟨g, 2, none⟩ c).setCell ⟨g, 3, none⟩ d) g t #[a, b, c, d] := by
  simpa using (((h.set_ 0 a).set_ 1 b).set_ 2 c).set_ 3 d
theorem below_upd4 {B : Nat} {w wr : World} {g : Nat} (a b c d : Value) (h : Below B w wr) (hg : B ≤ g) : Below B w ((((wr.setCell ⟨g, 0, none⟩ a).setCell ⟨g, 1, none⟩ b).setCell ⟨g, 2, none⟩ c).setCell ⟨g, 3, none⟩ d) :=
  (((h.setCell (p := ⟨g, 0, none⟩) hg a).setCell (p := ⟨g, 1, none⟩) hg b).setCell (p := ⟨g, 2, none⟩) hg c).setCell (p := ⟨g, 3, none⟩) hg d
theorem cell4 {w : World} {g t : Nat} {x y z u : Value} (h : Blk w g t #[x, y, z, u]) : w.cell? ⟨g, 0, none⟩ = some x ∧ w.cell? ⟨g, 1, none⟩ = some y ∧ w.cell? ⟨g, 2, none⟩ = some z ∧ w.cell? ⟨g, 3, none⟩ = some u ∧
    w.frozen? ⟨g, 0, none⟩ = false ∧ w.frozen? ⟨g, 1, none⟩ = false ∧ w.frozen? ⟨g, 2, none⟩ = false ∧ w.frozen? ⟨g, 3, none⟩ = false ∧ g < w.heap.size :=
  ⟨h.cell 0, h.cell 1, h.cell 2, h.cell 3, h.frozen 0, h.frozen 1, h.frozen 2, h.frozen 3, h.lt⟩
abbrev z4 : Array Value := #[.string ⟨#[]⟩, .string ⟨#[]⟩, .int .i64 0, .int .i64 0]
set_option maxHeartbeats 2000000 in
theorem stated_hit (A : Option Addr) (len cap : Nat) (xs : Nat → Rt) (f t : ByteArray) (w : World) (hm : len ≤ 20) (hz : RatesAt w A len xs) (k : Nat) (hk : k < len) (hok : okR (xs k) f t = true) (hno : ∀ j, j < k → okR (xs j) f t = false) :
    Calls Tryd.prog 54 #[.slice A len cap, .string f, .string t] w fun e w' => e = .returned (rt (xs k).f (xs k).t (xs k).n (xs k).d) ∧ Below w.heap.size w w' := by
  have HZ := Lib.hid hz
  have HNO := Lib.hid hno
  generalize hx : xs k = X at *
  obtain ⟨f1, t1, n1, d1⟩ := X
  have HX := Lib.hid hx
  have HOK := Lib.hid hok
  unfold rt
  clear hz hok hno hx
  go_enter Tryd.func54, Tryd.ntmps54
  go_wp2_with fail
  go_loopw [11] (fun x wr => ∃ i : Nat, i ≤ k ∧ x = .int .i64 i ∧ Below w.heap.size w wr ∧ Blk wr w.heap.size 23 z4) (fun x _ => k - (intOf x).toNat)
  case atStart => exact ⟨0, Nat.zero_le _, rfl, al (Below.refl _ _), Blk.new w 23 z4⟩
  case round =>
    obtain ⟨i, hi, rfl, hB, hK⟩ := hrel
    have HB := Lib.hid hB
    have HK := Lib.hid hK
    clear hB hK
    have hlt : (i : Int) < (len : Int) := by omega
    obtain ⟨b, off, rfl, hbw, g0, g1, g2, g3, s1, s2⟩ := HZ.out i (by omega)
    have c0 : wr.cell? ⟨b, off + i * 4, none⟩ = some (.string (xs i).f) := (HB.out.cell (p := ⟨b, off + i * 4, none⟩) hbw).trans g0
    have c1 : wr.cell? ⟨b, off + i * 4 + 1, none⟩ = some (.string (xs i).t) := (HB.out.cell (p := ⟨b, off + i * 4 + 1, none⟩) hbw).trans g1
    have c2 : wr.cell? ⟨b, off + i * 4 + 2, none⟩ = some (.int .i64 (xs i).n) := (HB.out.cell (p := ⟨b, off + i * 4 + 2, none⟩) hbw).trans g2
    have c3 : wr.cell? ⟨b, off + i * 4 + 3, none⟩ = some (.int .i64 (xs i).d) := (HB.out.cell (p := ⟨b, off + i * 4 + 3, none⟩) hbw).trans g3
    clear g0 g1 g2 g3
    have HC : Hid (∀ w, _) := Lib.hid (fun w => check_any (xs i).f (xs i).t (xs i).n (xs i).d w s1 s2)
    unfold rt at HC
    by_cases hik : i = k
    · subst hik
      rw [HX.out] at c0 c1 c2 c3 HC
      have hok := HOK.out
      unfold okR at hok
      simp only [Bool.and_eq_true, beq_iff_eq] at hok
      obtain ⟨⟨e1, e2⟩, e3⟩ := hok
      rw [e3] at HC
      have e1' : (f1.toList == f.toList) = true := by rw [e1]; exact beq_self_eq_true _
      have e2' : (t1.toList == t.toList) = true := by rw [e2]; exact beq_self_eq_true _
      clear HNO HOK e3 e1 e2 s1 s2 HZ HX
      go_wp2_with fail
      refine (HC.out _).mono ?_
      rintro e w1 ⟨rfl, hb⟩
      have HB1 := Lib.hid (below_call (al (o := .cells #[.string f1, .string t1, .int .i64 n1, .int .i64 d1] 23) HB.out) hb)
      have HK1 := Lib.hid ((HK.out.alloc (.cells #[.string f1, .string t1, .int .i64 n1, .int .i64 d1] 23)).call hb)
      have HX1 := Lib.hid ((Blk.new wr 23 #[.string f1, .string t1, .int .i64 n1, .int .i64 d1]).call hb)
      obtain ⟨p0, p1, p2, p3, -, -, -, -, p4⟩ := cell4 HX1.out
      obtain ⟨r0, r1, r2, r3, u0, u1, u2, u3, u4⟩ := cell4 HK1.out
      have HK2 := Lib.hid (blk_upd4 (.string f1) (.string t1) (.int .i64 n1) (.int .i64 d1) HK1.out)
      have HB2 := Lib.hid (below_upd4 (.string f1) (.string t1) (.int .i64 n1) (.int .i64 d1) HB1.out (Nat.le_refl w.heap.size))
      clear hb
      go_wp2_with fail
      obtain ⟨y0, y1, y2, y3, -, -, -, -, -⟩ := cell4 HK2.out
      exact bodyPost_ret (v := .agg #[.string f1, .string t1, .int .i64 n1, .int .i64 d1]) (by simp [results, Tryd.results54, go_sem, y0, y1, y2, y3]) rfl ⟨rfl, HB2.out⟩
    · have hno := HNO.out i (by omega)
      have hlt2 : i + 1 ≤ k := by omega
      unfold okR at hno
      clear HX HOK HNO HZ
      generalize (xs i).f = f2 at *
      generalize (xs i).t = t2 at *
      generalize (xs i).n = n2 at *
      generalize (xs i).d = d2 at *
      clear hi hik
      cases e1 : (f2.toList == f.toList)
      · clear hno
        go_wp2_with fail
        go_roundw
        case rel => exact ⟨i + 1, hlt2, by go_num, al HB.out, HK.out.alloc _⟩
        case measure => simp [intOf]; omega
      · cases e2 : (t2.toList == t.toList)
        · clear hno
          go_wp2_with fail
          go_roundw
          case rel => exact ⟨i + 1, hlt2, by go_num, al HB.out, HK.out.alloc _⟩
          case measure => simp [intOf]; omega
        · rw [e1, e2] at hno
          have e3 : (chkR f2 t2 n2 d2 == 0) = false := by simpa using hno
          clear hno
          generalize chkR f2 t2 n2 d2 = E at *
          go_wp2_with fail
          refine (HC.out _).mono ?_
          rintro e w1 ⟨rfl, hb⟩
          have HB1 := Lib.hid (below_call (al (o := .cells #[.string f2, .string t2, .int .i64 n2, .int .i64 d2] 23) HB.out) hb)
          have HK1 := Lib.hid ((HK.out.alloc (.cells #[.string f2, .string t2, .int .i64 n2, .int .i64 d2] 23)).call hb)
          clear hb
          go_wp2_with fail
          go_roundw
          case rel => exact ⟨i + 1, hlt2, by go_num, HB1.out, HK1.out⟩
          case measure => simp [intOf]; omega
set_option maxHeartbeats 2000000 in
theorem stated_miss (A : Option Addr) (len cap : Nat) (xs : Nat → Rt) (f t : ByteArray) (w : World) (hm : len ≤ 20) (hz : RatesAt w A len xs) (hno : ∀ j, j < len → okR (xs j) f t = false) :
    Calls Tryd.prog 54 #[.slice A len cap, .string f, .string t] w fun e w' => e = .returned rt0 ∧ Below w.heap.size w w' := by
  have HZ := Lib.hid hz
  have HNO := Lib.hid hno
  unfold rt0 rt
  clear hz hno
  go_enter Tryd.func54, Tryd.ntmps54
  go_wp2_with fail
  go_loopw [11] (fun x wr => ∃ i : Nat, i ≤ len ∧ x = .int .i64 i ∧ Below w.heap.size w wr ∧ Blk wr w.heap.size 23 z4) (fun x _ => len - (intOf x).toNat)
  case atStart => exact ⟨0, Nat.zero_le _, rfl, al (Below.refl _ _), Blk.new w 23 z4⟩
  case round =>
    obtain ⟨i, hi, rfl, hB, hK⟩ := hrel
    have HB := Lib.hid hB
    have HK := Lib.hid hK
    clear hB hK
    by_cases hik : i < len
    · have hlt : (i : Int) < (len : Int) := by omega
      obtain ⟨b, off, rfl, hbw, g0, g1, g2, g3, s1, s2⟩ := HZ.out i (by omega)
      have c0 : wr.cell? ⟨b, off + i * 4, none⟩ = some (.string (xs i).f) := (HB.out.cell (p := ⟨b, off + i * 4, none⟩) hbw).trans g0
      have c1 : wr.cell? ⟨b, off + i * 4 + 1, none⟩ = some (.string (xs i).t) := (HB.out.cell (p := ⟨b, off + i * 4 + 1, none⟩) hbw).trans g1
      have c2 : wr.cell? ⟨b, off + i * 4 + 2, none⟩ = some (.int .i64 (xs i).n) := (HB.out.cell (p := ⟨b, off + i * 4 + 2, none⟩) hbw).trans g2
      have c3 : wr.cell? ⟨b, off + i * 4 + 3, none⟩ = some (.int .i64 (xs i).d) := (HB.out.cell (p := ⟨b, off + i * 4 + 3, none⟩) hbw).trans g3
      clear g0 g1 g2 g3
      have HC : Hid (∀ w, _) := Lib.hid (fun w => check_any (xs i).f (xs i).t (xs i).n (xs i).d w s1 s2)
      unfold rt at HC
      have hno := HNO.out i hik
      have hlt2 : i + 1 ≤ len := by omega
      unfold okR at hno
      clear HNO HZ
      generalize (xs i).f = f2 at *
      generalize (xs i).t = t2 at *
      generalize (xs i).n = n2 at *
      generalize (xs i).d = d2 at *
      clear hi hik s1 s2
      cases e1 : (f2.toList == f.toList)
      · clear hno
        go_wp2_with fail
        go_roundw
        case rel => exact ⟨i + 1, hlt2, by go_num, al HB.out, HK.out.alloc _⟩
        case measure => simp [intOf]; omega
      · cases e2 : (t2.toList == t.toList)
        · clear hno
          go_wp2_with fail
          go_roundw
          case rel => exact ⟨i + 1, hlt2, by go_num, al HB.out, HK.out.alloc _⟩
          case measure => simp [intOf]; omega
        · rw [e1, e2] at hno
          have e3 : (chkR f2 t2 n2 d2 == 0) = false := by simpa using hno
          clear hno
          generalize chkR f2 t2 n2 d2 = E at *
          go_wp2_with fail
          refine (HC.out _).mono ?_
          rintro e w1 ⟨rfl, hb⟩
          have HB1 := Lib.hid (below_call (al (o := .cells #[.string f2, .string t2, .int .i64 n2, .int .i64 d2] 23) HB.out) hb)
          have HK1 := Lib.hid ((HK.out.alloc (.cells #[.string f2, .string t2, .int .i64 n2, .int .i64 d2] 23)).call hb)
          clear hb
          go_wp2_with fail
          go_roundw
          case rel => exact ⟨i + 1, hlt2, by go_num, HB1.out, HK1.out⟩
          case measure => simp [intOf]; omega
    · have hlt : ¬ (i : Int) < (len : Int) := by omega
      have hge : (len : Int) ≤ (i : Int) := by omega
      obtain ⟨r0, r1, r2, r3, u0, u1, u2, u3, u4⟩ := cell4 HK.out
      have HK2 := Lib.hid (blk_upd4 (.string ⟨#[]⟩) (.string ⟨#[]⟩) (.int .i64 0) (.int .i64 0) HK.out)
      have HB2 := Lib.hid (below_upd4 (.string ⟨#[]⟩) (.string ⟨#[]⟩) (.int .i64 0) (.int .i64 0) HB.out (Nat.le_refl w.heap.size))
      clear hi hik
      go_wp2_with fail
      obtain ⟨y0, y1, y2, y3, -, -, -, -, -⟩ := cell4 HK2.out
      exact bodyPost_ret (v := .agg #[.string ⟨#[]⟩, .string ⟨#[]⟩, .int .i64 0, .int .i64 0]) (by simp [results, Tryd.results54, go_sem, y0, y1, y2, y3]) rfl ⟨rfl, HB2.out⟩
end Go.Proofs.YtpabgmdgoghahaaDoor
