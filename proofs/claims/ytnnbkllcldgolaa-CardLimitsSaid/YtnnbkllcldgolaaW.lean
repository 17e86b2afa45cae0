/- CardLimits: the walk. -/
import Derived.Test.YtnnbkllcldgolaaV
import Derived.Laws.BitsLemmas
set_option linter.unusedVariables false
set_option linter.unusedSimpArgs false
namespace Go.Proofs.Ytnnbkllcldgolaa
open Go.ChangeShapes Go.WideShapes Go.ChangeAt Go.RowKit
/-- what is told of a slice of calls that came in -/
def IsRecs35 (w : World) (a : Option Addr) (len cap : Nat) : Prop :=
  (a = none ∧ len = 0 ∧ cap = 0) ∨
  ∃ x : Addr, a = some x ∧ len ≤ cap ∧ cap ≤ maxLen ∧ ∀ i, i < len → ∃ (x0 x1 x2 x3 : Int), w.cell? (x.add (i * 4 + 0)) = some (.int .u8 x0) ∧ (Lit.int .u8 x0).wf = true ∧ w.cell? (x.add (i * 4 + 1)) = some (.int .i64 x1) ∧ (Lit.int .i64 x1).wf = true ∧
    w.cell? (x.add (i * 4 + 2)) = some (.int .i64 x2) ∧ (Lit.int .i64 x2).wf = true ∧ w.cell? (x.add (i * 4 + 3)) = some (.int .i64 x3) ∧ (Lit.int .i64 x3).wf = true
theorem recs_at {w : World} {a : Option Addr} {len cap : Nat} (h : IsRecs35 w a len cap) : len ≤ cap ∧ cap ≤ maxLen ∧
    ∀ i, i < len → ∃ b off k n u f, a = some ⟨b, off, none⟩ ∧ b < w.heap.size ∧ 0 ≤ k ∧ k ≤ 255 ∧ w.cell? ⟨b, off + i * 4, none⟩ = some (.int .u8 k) ∧ w.cell? ⟨b, off + i * 4 + 1, none⟩ = some (.int .i64 n) ∧
      w.cell? ⟨b, off + i * 4 + 2, none⟩ = some (.int .i64 u) ∧ w.cell? ⟨b, off + i * 4 + 3, none⟩ = some (.int .i64 f) := by
  rcases h with ⟨rfl, rfl, rfl⟩ | ⟨x, rfl, hl, hm, hc⟩
  · exact ⟨Nat.le_refl _, Nat.zero_le _, fun i hi => absurd hi (Nat.not_lt_zero _)⟩
  · refine ⟨hl, hm, fun i hi => ?_⟩
    obtain ⟨x0, x1, x2, x3, h0, g0, h1, -, h2, -, h3, -⟩ := hc i hi
    obtain ⟨y0, _, _, _, z0, _⟩ := hc 0 (by omega)
    obtain ⟨b, off, spot⟩ := x
    have hspot : spot = none := by simpa [Addr.add] using World.cell?_spot z0
    subst hspot
    rw [Go.WideShapes.add_plain] at h0 h1 h2 h3
    obtain ⟨q0, q1⟩ := cardUndone.wf_u8 g0
    exact ⟨b, off, x0, x1, x2, x3, rfl, block_lt_of_cell (a := ⟨b, off + (i * 4 + 0), none⟩) h0, q0, by omega, h0, h1, h2, h3⟩
theorem and_small_i64 (x : Int) (m : Nat) (hm : m < 1000) : 0 ≤ bits .and .i64 x m ∧ bits .and .i64 x m ≤ m := by
  have e : (BitVec.ofInt 64 (m : Int)).toNat = m := by simp; omega
  have h1 : ((BitVec.ofInt 64 x) &&& (BitVec.ofInt 64 (m : Int))).toNat ≤ m := by
    rw [BitVec.toNat_and, e]; exact Nat.and_le_right
  simp only [bits]
  show 0 ≤ IntKind.i64.wrap ((BitVec.ofInt 64 x) &&& (BitVec.ofInt 64 (m : Int))).toNat ∧ IntKind.i64.wrap ((BitVec.ofInt 64 x) &&& (BitVec.ofInt 64 (m : Int))).toNat ≤ m
  rw [IntKind.wrap_i64]
  omega
theorem and255_i64 (x : Int) : 0 ≤ bits .and .i64 x 255 ∧ bits .and .i64 x 255 ≤ 255 := and_small_i64 x 255 (by decide)
theorem and3_i64 (x : Int) : 0 ≤ bits .and .i64 x 3 ∧ bits .and .i64 x 3 ≤ 3 := and_small_i64 x 3 (by decide)
namespace cardLimits
open cardUndone
/-- what the card holds, of the day and the sum and the number that the law keeps -/
def Inv (k : Bool) (d a c day sum n lim cnt : Int) : Prop :=
  (k = true → d ≤ day) ∧ dayA k d day a = sum ∧ dayA k d day c = n ∧ (0 ≤ a ∧ a ≤ 255) ∧ (0 ≤ c ∧ c ≤ 15) ∧ (0 ≤ sum ∧ sum ≤ lim) ∧ (0 ≤ n ∧ n ≤ cnt)
theorem inv_new {k : Bool} {d a c day sum n lim cnt D : Int} (h : Inv k d a c day sum n lim cnt) (hD : 1 ≤ D) (hl : 0 ≤ lim) (hc : 0 ≤ cnt) : Inv k d a c (day + D) 0 0 lim cnt := by
  obtain ⟨h1, h2, h3, h4, h5, h6, h7⟩ := h
  refine ⟨fun q => by have := h1 q; omega, ?_, ?_, h4, h5, by omega, by omega⟩ <;>
  · unfold dayA; rw [if_neg]; rintro ⟨q, r⟩; have := h1 q; omega
theorem inv_use {k : Bool} {d a c day sum n lim cnt X : Int} (h : Inv k d a c day sum n lim cnt) (hX : 0 ≤ X) (hl : lim ≤ 255) (hc : cnt ≤ 15) (h1 : sum + X ≤ lim) (h2 : n + 1 ≤ cnt) : Inv true day (sum + X) (n + 1) day (sum + X) (n + 1) lim cnt := by
  obtain ⟨-, -, -, -, -, h6, h7⟩ := h
  exact ⟨fun _ => Int.le_refl _, by simp [dayA], by simp [dayA], by omega, by omega, by omega, by omega⟩
theorem use_in {k : Bool} {d a c day sum n lim cnt X : Int} (g : Nat) (w : World) (h : Blk w g 57 (cc smp 1000 2 lim cnt k d a c)) (hi : Inv k d a c day sum n lim cnt) (hd : 0 ≤ day ∧ day ≤ 1000) (hX : 0 ≤ X ∧ X ≤ 255) (hl : lim ≤ 255) (hc : cnt ≤ 15) (h1 : sum + X ≤ lim) (h2 : n + 1 ≤ cnt) :
    Calls Try.prog 21 #[.pointer (some ⟨g, 0, none⟩), .int .i64 day, .int .i64 X] w fun e w' => e = .returned (.int .i64 0) ∧ Stays w w' g (cc smp 1000 2 lim cnt true day (sum + X) (n + 1)) := by
  obtain ⟨q1, q2, q3, q4, q5, q6, q7⟩ := hi
  exact use_yes_stay smp 1000 2 lim cnt k d a c g day X w h (by omega) (by omega) (use_zero ⟨hd.1, by omega⟩ hd.2 ⟨hX.1, by omega⟩ q1 (by omega) (by omega)) _ _ (by omega) (by omega)
theorem use_out {k : Bool} {d a c day sum n lim cnt X : Int} (g : Nat) (w : World) (h : Blk w g 57 (cc smp 1000 2 lim cnt k d a c)) (hi : Inv k d a c day sum n lim cnt) (hd : 0 ≤ day ∧ day ≤ 1000) (hX : 0 ≤ X ∧ X ≤ 255) (h1 : lim < sum + X ∨ cnt < n + 1) :
    Calls Try.prog 21 #[.pointer (some ⟨g, 0, none⟩), .int .i64 day, .int .i64 X] w fun e w' => e = .returned (.int .i64 10) ∧ Stays w w' g (cc smp 1000 2 lim cnt k d a c) := by
  obtain ⟨q1, q2, q3, q4, q5, q6, q7⟩ := hi
  refine use_no_stay smp 1000 2 lim cnt k d a c g day X w h (by omega) (by omega) 10 ?_ (by decide)
  have hu : usE 2 1000 day = 0 := by unfold usE; rw [if_neg (by simp), if_neg (by simp; omega), if_neg (by omega)]
  unfold useE
  rw [hu, if_neg (by simp), if_neg (by simp; omega), if_neg, if_pos (by omega)]
  simp
  intro hk; exact q1 hk
def LRel (w : World) (g : Nat) (lim cnt : Int) (len : Nat) (gg : Nat) (s9 s10 s11 s12 : Value) (wr : World) : Prop :=
  ∃ (i : Nat) (day sum n : Int) (k : Bool) (d a c : Int), i ≤ len ∧ gg = len - i ∧ s12 = .int .i64 i ∧ s9 = .int .i64 day ∧ s10 = .int .i64 sum ∧ s11 = .int .i64 n ∧ (0 ≤ day ∧ day ≤ 3 * i) ∧ Inv k d a c day sum n lim cnt ∧ Below w.heap.size w wr ∧
    Blk wr g 57 (cc smp 1000 2 lim cnt k d a c)
set_option maxRecDepth 100000 in
set_option maxHeartbeats 4000000 in
theorem loop (lim cn : Int) (A : Option Addr) (len cap : Nat) (w : World) (hl0 : 0 ≤ lim) (hl1 : lim ≤ 255) (hn0 : 0 ≤ cn) (hn1 : cn ≤ 255) (hlen : len ≤ 60) (hlc : len ≤ cap) (hm : cap ≤ maxLen)
    (hz : ∀ i, i < len → ∃ b off k n u f, A = some ⟨b, off, none⟩ ∧ b < w.heap.size ∧ 0 ≤ k ∧ k ≤ 255 ∧ w.cell? ⟨b, off + i * 4, none⟩ = some (.int .u8 k) ∧ w.cell? ⟨b, off + i * 4 + 1, none⟩ = some (.int .i64 n) ∧
      w.cell? ⟨b, off + i * 4 + 2, none⟩ = some (.int .i64 u) ∧ w.cell? ⟨b, off + i * 4 + 3, none⟩ = some (.int .i64 f)) :
    Calls Try.prog 5 #[.int .u8 lim, .int .u8 cn, .slice A len cap] w fun e w' => e = .returned (.bool true) ∧ Below w.heap.size w w' := by
  unfold maxLen at hm
  have hl' : (len : Int) ≤ 60 := by omega
  have HZ := Lib.hid hz
  clear hz
  obtain ⟨C, hC⟩ : ∃ C, cn % 16 = C := ⟨_, rfl⟩
  have C0 : 0 ≤ C := by omega
  have C1 : C ≤ 15 := by omega
  go_enter Try.func5, Try.ntmps5
  go_wp2_with fail
  refine (new_stay _ _ _ _ (by decide) (by omega) (by omega) (by omega)).mono ?_
  rintro e w1 ⟨g, rfl, hg, hb, hk⟩
  have B1 := Lib.hid hb
  have K1 := Lib.hid hk
  clear hb hk
  go_wp2_with fail
  refine (do_stay _ _ _ _ _ _ _ _ _ g 1 w1 K1.out).mono ?_
  rintro e w2 ⟨rfl, hs⟩
  have B2 := Lib.hid (hs.go hg B1.out)
  have K2 : Blk w2 g 57 (cc smp 1000 2 lim C false 0 0 0) := hs.1
  have HK2 := Lib.hid K2
  clear hs K2
  rw [show nxE 1 1 = 0 from by decide]
  go_wp2_with fail
  go_loopg [9, 10, 11, 12] len (fun gg s9 s10 s11 s12 wr => LRel w g lim C len gg s9 s10 s11 s12 wr)
  case atStart => exact ⟨0, 0, 0, 0, false, 0, 0, 0, Nat.zero_le _, rfl, rfl, rfl, rfl, rfl, by decide, ⟨by simp, by simp [dayA], by simp [dayA], by decide, by decide, by omega, by omega⟩, B2.out, HK2.out⟩
  case round =>
    obtain ⟨i, day, sum, n, k, d, a, c, hi, rfl, rfl, rfl, rfl, rfl, hday, hI, hB, hk⟩ := hrel
    have HB := Lib.hid hB
    have HK := Lib.hid hk
    have HI := Lib.hid hI
    obtain ⟨-, -, -, -, -, hs6, hs7⟩ := hI
    obtain ⟨hs60, hs61⟩ := hs6
    obtain ⟨hs70, hs71⟩ := hs7
    obtain ⟨hd0, hd1⟩ := hday
    clear hB hk B1 B2 HK2 K1
    by_cases hlt : i < len
    · have hlt' : (i : Int) < (len : Int) := by omega
      obtain ⟨b, off, q0, q1, u, f, rfl, hbw, -, -, -, -, g2, g3⟩ := HZ.out i hlt
      clear HZ
      have c2 : wr.cell? ⟨b, off + i * 4 + 2, none⟩ = some (.int .i64 u) := (HB.out.cell (p := ⟨b, off + i * 4 + 2, none⟩) hbw).trans g2
      have c3 : wr.cell? ⟨b, off + i * 4 + 3, none⟩ = some (.int .i64 f) := (HB.out.cell (p := ⟨b, off + i * 4 + 3, none⟩) hbw).trans g3
      clear g2 g3
      obtain ⟨X0, X1⟩ := and255_i64 f
      obtain ⟨D0, D1⟩ := and3_i64 u
      generalize hX : bits .and .i64 f 255 = X at X0 X1
      generalize hD : bits .and .i64 u 3 = D at D0 D1
      by_cases hz : D = 0
      · subst hz
        clear D0 D1
        by_cases hv : lim < sum + X ∨ C < n + 1
        · rcases (show lim < sum + X ∨ (¬ lim < sum + X ∧ C < n + 1) from by omega) with g1 | ⟨g1, g2⟩
          all_goals
            first
              | have hg1 : decide (lim < sum + X) = true := decide_eq_true g1
              | (have hg1 : decide (lim < sum + X) = false := decide_eq_false g1
                 have hg2 : decide (C < n + 1) = true := decide_eq_true g2)
            clear hv
            go_wp2_with fail
            refine (use_out g _ HK.out HI.out ⟨by omega, by omega⟩ ⟨X0, X1⟩ (by omega)).mono ?_
            rintro e w3 ⟨rfl, hs⟩
            have B3 := Lib.hid (hs.go hg HB.out)
            have K3 := Lib.hid hs.1
            clear hs HB HK
            go_wp2_with fail
            refine (used_stay _ _ _ _ _ _ _ _ _ g _ _ K3.out sum n HI.out.2.1 HI.out.2.2.1).mono ?_
            rintro e w4 ⟨rfl, hs⟩
            have B4 := Lib.hid (hs.go hg B3.out)
            have K4 := Lib.hid hs.1
            clear hs
            go_wp2_with fail
            go_roundg (len - (i + 1))
            case measure => omega
            case rel => exact ⟨i + 1, day, sum, n, k, d, a, c, hlt, rfl, by go_num, rfl, rfl, rfl, ⟨by omega, by omega⟩, HI.out, B4.out, K4.out⟩
        · have g1 : ¬ lim < sum + X := by omega
          have g2 : ¬ C < n + 1 := by omega
          have hg1 : decide (lim < sum + X) = false := decide_eq_false g1
          have hg2 : decide (C < n + 1) = false := decide_eq_false g2
          have HI3 := Lib.hid (inv_use HI.out X0 hl1 C1 (by omega) (by omega))
          clear hv
          go_wp2_with fail
          refine (use_in g _ HK.out HI.out ⟨by omega, by omega⟩ ⟨X0, X1⟩ hl1 C1 (by omega) (by omega)).mono ?_
          rintro e w3 ⟨rfl, hs⟩
          have B3 := Lib.hid (hs.go hg HB.out)
          have K3 := Lib.hid hs.1
          clear hs HB HK
          go_wp2_with fail
          refine (used_stay _ _ _ _ _ _ _ _ _ g _ _ K3.out (sum + X) (n + 1) (by simp [dayA]) (by simp [dayA])).mono ?_
          rintro e w4 ⟨rfl, hs⟩
          have B4 := Lib.hid (hs.go hg B3.out)
          have K4 := Lib.hid hs.1
          clear hs
          go_wp2_with fail
          go_roundg (len - (i + 1))
          case measure => omega
          case rel => exact ⟨i + 1, day, sum + X, n + 1, true, day, _, _, hlt, rfl, by go_num, rfl, rfl, rfl, ⟨by omega, by omega⟩, by simpa using HI3.out, B4.out, by simpa using K4.out⟩
      · have hz' : (D != 0) = true := by simpa using hz
        have HI2 := Lib.hid (inv_new HI.out (show 1 ≤ D by omega) hl0 C0)
        clear HI
        by_cases hv : lim < X ∨ C < 1
        · rcases (show lim < X ∨ (¬ lim < X ∧ C < 1) from by omega) with g1 | ⟨g1, g2⟩
          all_goals
            first
              | have hg1 : decide (lim < X) = true := decide_eq_true g1
              | (have hg1 : decide (lim < X) = false := decide_eq_false g1
                 have hg2 : decide (C < 1) = true := decide_eq_true g2)
            clear hv
            go_wp2_with fail
            refine (use_out g _ HK.out HI2.out ⟨by omega, by omega⟩ ⟨X0, X1⟩ (by omega)).mono ?_
            rintro e w3 ⟨rfl, hs⟩
            have B3 := Lib.hid (hs.go hg HB.out)
            have K3 := Lib.hid hs.1
            clear hs HB HK
            go_wp2_with fail
            refine (used_stay _ _ _ _ _ _ _ _ _ g _ _ K3.out 0 0 HI2.out.2.1 HI2.out.2.2.1).mono ?_
            rintro e w4 ⟨rfl, hs⟩
            have B4 := Lib.hid (hs.go hg B3.out)
            have K4 := Lib.hid hs.1
            clear hs
            go_wp2_with fail
            go_roundg (len - (i + 1))
            case measure => omega
            case rel => exact ⟨i + 1, (day + D), 0, 0, k, d, a, c, hlt, rfl, by go_num, rfl, rfl, rfl, ⟨by omega, by omega⟩, HI2.out, B4.out, K4.out⟩
        · have g1 : ¬ lim < X := by omega
          have g2 : ¬ C < 1 := by omega
          have hg1 : decide (lim < X) = false := decide_eq_false g1
          have hg2 : decide (C < 1) = false := decide_eq_false g2
          have HI3 := Lib.hid (inv_use HI2.out X0 hl1 C1 (by omega) (by omega))
          clear hv
          go_wp2_with fail
          refine (use_in g _ HK.out HI2.out ⟨by omega, by omega⟩ ⟨X0, X1⟩ hl1 C1 (by omega) (by omega)).mono ?_
          rintro e w3 ⟨rfl, hs⟩
          have B3 := Lib.hid (hs.go hg HB.out)
          have K3 := Lib.hid hs.1
          clear hs HB HK
          go_wp2_with fail
          refine (used_stay _ _ _ _ _ _ _ _ _ g _ _ K3.out (X) (1) (by simp [dayA]) (by simp [dayA])).mono ?_
          rintro e w4 ⟨rfl, hs⟩
          have B4 := Lib.hid (hs.go hg B3.out)
          have K4 := Lib.hid hs.1
          clear hs
          go_wp2_with fail
          go_roundg (len - (i + 1))
          case measure => omega
          case rel => exact ⟨i + 1, (day + D), X, 1, true, (day + D), _, _, hlt, rfl, by go_num, rfl, rfl, rfl, ⟨by omega, by omega⟩, by simpa using HI3.out, B4.out, by simpa using K4.out⟩
    · have hlt' : ¬ ((i : Int) < (len : Int)) := by omega
      clear HZ HI
      go_wp2_with fail
      refine (awake_any _).mono ?_
      rintro e w3 ⟨rfl, hb⟩
      have B3 := Lib.hid (below_call HB.out hb)
      clear hb
      go_wp2_with fail
      go_ret
      exact ⟨rfl, B3.out⟩
end cardLimits
end Go.Proofs.Ytnnbkllcldgolaa
