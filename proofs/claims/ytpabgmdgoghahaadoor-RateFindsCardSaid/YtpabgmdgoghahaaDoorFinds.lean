/- RateFinds. -/
import Derived.Test.YtpabgmdgoghahaaDoorR
import Derived.OpenShut
import Derived.Outline
set_option linter.unusedVariables false
set_option linter.unusedSimpArgs false
namespace Go.Proofs.YtpabgmdgoghahaaDoor
open Go.Sort Go.ChangeShapes Go.WideShapes Go.ChangeAt Go.RowKit
/-- what is told of a slice of rates that came in -/
def IsRecs23 (w : World) (a : Option Addr) (len cap : Nat) : Prop :=
  (a = none ∧ len = 0 ∧ cap = 0) ∨
  ∃ x : Addr, a = some x ∧ len ≤ cap ∧ cap ≤ maxLen ∧ ∀ i, i < len → ∃ (x0 x1 : ByteArray) (x2 x3 : Int), w.cell? (x.add (i * 4 + 0)) = some (.string x0) ∧ x0.size ≤ maxLen ∧ w.cell? (x.add (i * 4 + 1)) = some (.string x1) ∧ x1.size ≤ maxLen ∧
    w.cell? (x.add (i * 4 + 2)) = some (.int .i64 x2) ∧ (Lit.int .i64 x2).wf = true ∧ w.cell? (x.add (i * 4 + 3)) = some (.int .i64 x3) ∧ (Lit.int .i64 x3).wf = true
theorem rates_of {w : World} {a : Option Addr} {len cap : Nat} (h : IsRecs23 w a len cap) : len ≤ cap ∧ cap ≤ maxLen ∧ ∃ xs, RatesAt w a len xs := by
  rcases h with ⟨rfl, rfl, rfl⟩ | ⟨x, rfl, hl, hm, hc⟩
  · exact ⟨Nat.le_refl _, Nat.zero_le _, fun _ => ⟨⟨#[]⟩, ⟨#[]⟩, 0, 0⟩, fun i hi => absurd hi (Nat.not_lt_zero _)⟩
  · refine ⟨hl, hm, ?_⟩
    have key : ∀ i, i < len → ∃ r : Rt, ∃ b off, some x = some (⟨b, off, none⟩ : Addr) ∧ b < w.heap.size ∧ w.cell? ⟨b, off + i * 4, none⟩ = some (.string r.f) ∧ w.cell? ⟨b, off + i * 4 + 1, none⟩ = some (.string r.t) ∧
        w.cell? ⟨b, off + i * 4 + 2, none⟩ = some (.int .i64 r.n) ∧ w.cell? ⟨b, off + i * 4 + 3, none⟩ = some (.int .i64 r.d) ∧ r.f.size ≤ maxLen ∧ r.t.size ≤ maxLen := fun i hi => by
      obtain ⟨x0, x1, x2, x3, h0, s0, h1, s1, h2, -, h3, -⟩ := hc i hi
      obtain ⟨b, off, spot⟩ := x
      obtain ⟨y0, _, _, _, z0, _⟩ := hc 0 (by omega)
      have hspot : spot = none := by simpa [Addr.add] using World.cell?_spot z0
      subst hspot
      rw [Go.WideShapes.add_plain] at h0 h1 h2 h3
      exact ⟨⟨x0, x1, x2, x3⟩, b, off, rfl, block_lt_of_cell (a := ⟨b, off + (i * 4 + 0), none⟩) h0, h0, h1, h2, h3, s0, s1⟩
    exact ⟨fun i => if h : i < len then (key i h).choose else ⟨⟨#[]⟩, ⟨#[]⟩, 0, 0⟩, fun i hi => by
      have := (key i hi).choose_spec
      simpa only [dif_pos hi] using this⟩
namespace rateFinds
set_option maxHeartbeats 2000000 in
theorem walk (A : Option Addr) (len cap : Nat) (f t p : ByteArray) (w : World) (hr : IsRecs23 w A len cap) (hf : f.size ≤ maxLen) (ht : t.size ≤ maxLen) (hp : p.size ≤ maxLen) :
    Calls Tryd.prog 6 #[.agg #[.slice A len cap, .string f, .string t, .string p]] w fun e w' => e = .returned (.bool true) ∧ Below w.heap.size w w' := by
  obtain ⟨hlc, hm, xs, hz⟩ := rates_of hr
  have HA := Lib.hid awake_any
  have HZ := Lib.hid hz
  have hlm : len ≤ maxLen := Nat.le_trans hlc hm
  unfold maxLen at hf ht hp hlm
  clear hr hz hm hlc
  by_cases c0 : 20 < len
  · have c0' : decide ((20 : Int) < (len : Int)) = true := decide_eq_true (by omega)
    clear c0
    go_enter Tryd.func6, Tryd.ntmps6
    go_wp2_with fail
    refine (HA.out _).mono ?_
    rintro e w1 ⟨rfl, hb⟩
    obtain ⟨q2, o2, rfl⟩ := regrow_of hb
    clear hb
    go_wp2_with fail
    go_ret
    exact ⟨rfl, bre (al (Below.refl _ _)) _ _⟩
  · have c0' : decide ((20 : Int) < (len : Int)) = false := decide_eq_false (by omega)
    have hl : len ≤ 20 := by omega
    have hl' : (len : Int) ≤ 20 := by omega
    clear c0
    by_cases c1 : 20 < f.size
    · have c1' : decide ((20 : Int) < (f.size : Int)) = true := decide_eq_true (by omega)
      clear c1
      go_enter Tryd.func6, Tryd.ntmps6
      go_wp2_with fail
      refine (HA.out _).mono ?_
      rintro e w1 ⟨rfl, hb⟩
      obtain ⟨q2, o2, rfl⟩ := regrow_of hb
      clear hb
      go_wp2_with fail
      go_ret
      exact ⟨rfl, bre (al (Below.refl _ _)) _ _⟩
    · have c1' : decide ((20 : Int) < (f.size : Int)) = false := decide_eq_false (by omega)
      clear c1
      by_cases c2 : 20 < t.size
      · have c2' : decide ((20 : Int) < (t.size : Int)) = true := decide_eq_true (by omega)
        clear c2
        go_enter Tryd.func6, Tryd.ntmps6
        go_wp2_with fail
        refine (HA.out _).mono ?_
        rintro e w1 ⟨rfl, hb⟩
        obtain ⟨q2, o2, rfl⟩ := regrow_of hb
        clear hb
        go_wp2_with fail
        go_ret
        exact ⟨rfl, bre (al (Below.refl _ _)) _ _⟩
      · have c2' : decide ((20 : Int) < (t.size : Int)) = false := decide_eq_false (by omega)
        clear c2
        by_cases c3 : 20 < p.size
        · have c3' : decide ((20 : Int) < (p.size : Int)) = true := decide_eq_true (by omega)
          clear c3
          go_enter Tryd.func6, Tryd.ntmps6
          go_wp2_with fail
          refine (HA.out _).mono ?_
          rintro e w1 ⟨rfl, hb⟩
          obtain ⟨q2, o2, rfl⟩ := regrow_of hb
          clear hb
          go_wp2_with fail
          go_ret
          exact ⟨rfl, bre (al (Below.refl _ _)) _ _⟩
        · have c3' : decide ((20 : Int) < (p.size : Int)) = false := decide_eq_false (by omega)
          clear c3
          obtain ⟨rf, rt_, rn, rd, E, F1, F2⟩ := find_both A len cap xs f t p hl
          replace F1 := Lib.hid F1
          replace F2 := Lib.hid F2
          unfold rt at F1 F2
          go_enter Tryd.func6, Tryd.ntmps6
          go_wp2_with fail
          go_loopw [3] (fun x wr => ∃ i : Nat, i ≤ len ∧ x = .int .i64 i ∧ Below w.heap.size w wr ∧ Blk wr w.heap.size 44 #[.slice A len cap, .string f, .string t, .string p]) (fun x _ => len - (intOf x).toNat)
          case atStart => exact ⟨0, Nat.zero_le _, rfl, al (Below.refl _ _), Blk.new w 44 _⟩
          case round =>
            obtain ⟨i, hi, rfl, hB, hK⟩ := hrel
            have HB := Lib.hid hB
            have HK := Lib.hid hK
            clear hB hK
            obtain ⟨r0, r1, r2, r3, u0, u1, u2, u3, u4⟩ := cell4 HK.out
            by_cases hik : i < len
            · have hlt : (i : Int) < (len : Int) := by omega
              obtain ⟨b, off, rfl, hbw, g0, g1, g2, g3, s1, s2⟩ := HZ.out i hik
              have k0 : wr.cell? ⟨b, off + i * 4, none⟩ = some (.string (xs i).f) := (HB.out.cell (p := ⟨b, off + i * 4, none⟩) hbw).trans g0
              have k1 : wr.cell? ⟨b, off + i * 4 + 1, none⟩ = some (.string (xs i).t) := (HB.out.cell (p := ⟨b, off + i * 4 + 1, none⟩) hbw).trans g1
              have k2 : wr.cell? ⟨b, off + i * 4 + 2, none⟩ = some (.int .i64 (xs i).n) := (HB.out.cell (p := ⟨b, off + i * 4 + 2, none⟩) hbw).trans g2
              have k3 : wr.cell? ⟨b, off + i * 4 + 3, none⟩ = some (.int .i64 (xs i).d) := (HB.out.cell (p := ⟨b, off + i * 4 + 3, none⟩) hbw).trans g3
              clear g0 g1 g2 g3
              have HS : Hid (∀ w, _) := Lib.hid (fun w => small_any (xs i).f (xs i).t (xs i).n (xs i).d w s1 s2)
              unfold rt at HS
              clear HZ F1 F2 s1 s2
              have hlt2 : i + 1 ≤ len := by omega
              generalize smallB (xs i).f (xs i).t = bb at *
              generalize (xs i).f = f2 at *
              generalize (xs i).t = t2 at *
              generalize (xs i).n = n2 at *
              generalize (xs i).d = d2 at *
              cases bb
              · go_wp2_with fail
                refine (HS.out _).mono ?_
                rintro e w1 ⟨rfl, hb⟩
                have HB1 := Lib.hid (below_call HB.out hb)
                clear hb
                go_wp2_with fail
                refine (HA.out _).mono ?_
                rintro e w2 ⟨rfl, hb⟩
                have HB2 := Lib.hid (below_call HB1.out hb)
                clear hb
                go_wp2_with fail
                go_ret
                exact ⟨rfl, HB2.out⟩
              · go_wp2_with fail
                refine (HS.out _).mono ?_
                rintro e w1 ⟨rfl, hb⟩
                have HB1 := Lib.hid (below_call HB.out hb)
                have HK1 := Lib.hid (HK.out.call hb)
                clear hb
                go_wp2_with fail
                go_roundw
                case rel => exact ⟨i + 1, hlt2, by go_num, HB1.out, HK1.out⟩
                case measure => simp [intOf]; omega
            · have hlt : ¬ (i : Int) < (len : Int) := by omega
              have hge : (len : Int) ≤ (i : Int) := by omega
              clear hi hik
              have HW := Lib.hid (HZ.out.call HB.out)
              clear HZ
              go_wp2_with fail
              refine (F1.out _ HW.out).mono ?_
              rintro e w1 ⟨rfl, hb⟩
              have HB1 := Lib.hid (below_call HB.out hb)
              have HK1 := Lib.hid (HK.out.call hb)
              have HW1 := Lib.hid (HW.out.call hb)
              obtain ⟨x0, x1, x2, x3, v0, v1, v2, v3, v4⟩ := cell4 HK1.out
              clear hb r0 r1 r2 r3 u0 u1 u2 u3 u4 HK
              go_wp2_with fail
              refine (F2.out _ (HW1.out.call (al (Below.refl _ _)))).mono ?_
              rintro e w2 ⟨rfl, hb⟩
              obtain ⟨q2, o2, rfl⟩ := regrow_of hb
              clear hb
              go_wp2_with fail
              refine (HA.out _).mono ?_
              rintro e w2 ⟨rfl, hb⟩
              obtain ⟨q3, o3, rfl⟩ := regrow_of hb
              clear hb
              go_wp2_with fail
              go_ret
              exact ⟨rfl, below_call HB1.out (bre (al (bre (al (Below.refl _ _)) _ _)) _ _)⟩
end rateFinds
end Go.Proofs.YtpabgmdgoghahaaDoor
