import Derived.Test.YtlkbghdeingimaaY
set_option linter.unusedVariables false
set_option linter.unusedSimpArgs false
namespace Go.Proofs.Ytlkbghdeingimaa
open Go.Sort Go.ChangeShapes Go.WideShapes Go.ChangeAt Go.RowKit

/-- what is told of a slice of operations that came in -/
def IsRecs33 (w : World) (a : Option Addr) (len cap : Nat) : Prop :=
  (a = none ∧ len = 0 ∧ cap = 0) ∨
  ∃ x : Addr, a = some x ∧ len ≤ cap ∧ cap ≤ maxLen ∧ ∀ i, i < len → ∃ (x0 x1 x2 : Int) (x3 : Bool), w.cell? (x.add (i * 4 + 0)) = some (.int .u8 x0) ∧ (Lit.int .u8 x0).wf = true ∧ w.cell? (x.add (i * 4 + 1)) = some (.int .i64 x1) ∧ (Lit.int .i64 x1).wf = true ∧
    w.cell? (x.add (i * 4 + 2)) = some (.int .i64 x2) ∧ (Lit.int .i64 x2).wf = true ∧ w.cell? (x.add (i * 4 + 3)) = some (.bool x3)
theorem recs_at {w : World} {a : Option Addr} {len cap : Nat} (h : IsRecs33 w a len cap) : len ≤ cap ∧ cap ≤ maxLen ∧
    ∀ i, i < len → ∃ b off k n u f, a = some ⟨b, off, none⟩ ∧ b < w.heap.size ∧ 0 ≤ k ∧ k ≤ 255 ∧ w.cell? ⟨b, off + i * 4, none⟩ = some (.int .u8 k) ∧ w.cell? ⟨b, off + i * 4 + 1, none⟩ = some (.int .i64 n) ∧
      w.cell? ⟨b, off + i * 4 + 2, none⟩ = some (.int .i64 u) ∧ w.cell? ⟨b, off + i * 4 + 3, none⟩ = some (.bool f) := by
  rcases h with ⟨rfl, rfl, rfl⟩ | ⟨x, rfl, hl, hm, hc⟩
  · exact ⟨Nat.le_refl _, Nat.zero_le _, fun i hi => absurd hi (Nat.not_lt_zero _)⟩
  · refine ⟨hl, hm, fun i hi => ?_⟩
    obtain ⟨x0, x1, x2, x3, h0, g0, h1, -, h2, -, h3⟩ := hc i hi
    obtain ⟨y0, _, _, _, z0, _⟩ := hc 0 (by omega)
    obtain ⟨b, off, spot⟩ := x
    have hspot : spot = none := by simpa [Addr.add] using World.cell?_spot z0
    subst hspot
    rw [Go.WideShapes.add_plain] at h0 h1 h2 h3
    exact ⟨b, off, x0, x1, x2, x3, rfl, block_lt_of_cell (a := ⟨b, off + (i * 4 + 0), none⟩) h0, (bounds_u8 g0).1, (bounds_u8 g0).2, h0, h1, h2, h3⟩

/-- at the head of the loop -/
def CRel (w : World) (B : Nat) (len : Nat) (g : Nat) (s7 : Value) (wr : World) : Prop :=
  ∃ (i : Nat) (a : Au), i ≤ len ∧ g = len - i ∧ s7 = .int .i64 i ∧ a.ch = 0 ∧ a.id.size ≤ maxLen ∧ a.cur.size ≤ maxLen ∧ Below w.heap.size w wr ∧
    Blk wr B 24 (auc a.id a.cur a.ap a.rv a.cl a.ex a.st a.tt a.un a.pa)
/-- behind the step -/
def DRel (w : World) (B : Nat) (a : Au) (r : Au × Int × Int × Int) (s9 s10 s11 s12 : Value) (wr : World) : Prop :=
  ∃ C : Nat, s9 = .pointer (some ⟨C, 0, none⟩) ∧ s10 = .int .i64 r.2.1 ∧ s11 = .int .i64 r.2.2.1 ∧ s12 = .int .i64 r.2.2.2 ∧ B ≠ C ∧ Below w.heap.size w wr ∧
    Blk wr B 24 (auc a.id a.cur a.ap a.rv a.cl a.ex a.st a.tt a.un a.pa) ∧ Blk wr C 24 (auc r.1.id r.1.cur r.1.ap r.1.rv r.1.cl r.1.ex r.1.st r.1.tt r.1.un r.1.pa)

set_option maxRecDepth 100000 in
set_option maxHeartbeats 2000000 in
theorem cons_loop (am : Int) (A : Option Addr) (len cap : Nat) (w : World) (hlc : len ≤ cap)
    (hz : ∀ i, i < len → ∃ b off k n u f, A = some ⟨b, off, none⟩ ∧ b < w.heap.size ∧ 0 ≤ k ∧ k ≤ 255 ∧ w.cell? ⟨b, off + i * 4, none⟩ = some (.int .u8 k) ∧ w.cell? ⟨b, off + i * 4 + 1, none⟩ = some (.int .i64 n) ∧
      w.cell? ⟨b, off + i * 4 + 2, none⟩ = some (.int .i64 u) ∧ w.cell? ⟨b, off + i * 4 + 3, none⟩ = some (.bool f)) (hm : cap ≤ maxLen) (hc0 : (chk sX sE am 0 0 0 1 0 10 0 == 0) = true) :
    Calls Try.prog 3 #[.int .i64 am, .slice A len cap] w fun e w' => e = .returned (.bool true) ∧ Below w.heap.size w w' := by
  unfold maxLen at hm
  have hX1 : sX.size ≤ maxLen := by decide
  have hX2 : sE.size ≤ maxLen := by decide
  have HZ := Lib.hid hz
  have hcI := Lib.hid (show chk sX sE am 0 0 0 1 0 10 0 = 0 by simpa using hc0)
  clear hz
  go_enter Try.func3, Try.ntmps3
  go_wp2_with fail
  refine (new_ok sX sE am 0 10 _ (by decide) (by decide) hc0).mono ?_
  rintro e w1 ⟨rfl, hb⟩
  have B1 := Lib.hid hb
  clear hb hc0
  go_wp2_with fail
  go_loopg [7] len (fun g s7 wr => CRel w w1.heap.size len g s7 wr)
  case atStart => exact ⟨0, ⟨sX, sE, am, 0, 0, 0, 1, 0, 10, 0⟩, Nat.zero_le _, rfl, rfl, hcI.out, hX1, hX2, B1.out.alloc B1.out.size _, Blk.new w1 24 _⟩
  case round =>
    obtain ⟨i, ⟨id, cur, ap, rv, cl, ex, st, tt, un, pa⟩, hi, rfl, rfl, hch, hi1, hi2, hB, hk⟩ := hrel
    have HCH := Lib.hid hch
    have HB := Lib.hid hB
    have HK := Lib.hid hk
    obtain ⟨k1, k2, k3⟩ := hk.rules
    simp only at hi1 hi2
    clear hch hk
    by_cases hlt : i < len ∧ i < 200
    · obtain ⟨hlt, hlt2⟩ := hlt
      have hlt' : (i : Int) < (len : Int) := by omega
      have hlt3 : (i : Int) < 200 := by omega
      obtain ⟨b, off, k, n, u, f, rfl, hbw, hk0, hk9, g0, g1, g2, g3⟩ := HZ.out i hlt
      have HG0 := Lib.hid g0
      have HG1 := Lib.hid g1
      have HG2 := Lib.hid g2
      have HG3 := Lib.hid g3
      clear HZ hB g0 g1 g2 g3
      have hst := fun w => step_any ⟨id, cur, ap, rv, cl, ex, st, tt, un, pa⟩ k n u f w hi1 hi2 hk0 hk9
      have hcase := step_facts ⟨id, cur, ap, rv, cl, ex, st, tt, un, pa⟩ k n u f HCH.out
      generalize stepR ⟨id, cur, ap, rv, cl, ex, st, tt, un, pa⟩ k n u f = r at hst hcase
      obtain ⟨⟨id2, cur2, ap2, rv2, cl2, ex2, st2, tt2, un2, pa2⟩, m9, n9, e9⟩ := r
      have HC := Lib.hid hst
      have HP := Lib.hid hcase
      clear hst hcase
      have hop := fun w => Open_any id cur ap rv cl ex st tt un pa w hi1 hi2
      rw [show opnI id cur ap rv cl ex st tt un pa = ap - rv - cl - ex by unfold opnI; exact if_pos HCH.out] at hop
      have HO := Lib.hid hop
      clear hop
      go_wp2_with fail
      refine (HO.out _).mono ?_
      rintro e wr2 ⟨rfl, hb⟩
      have HB2 := Lib.hid (below_call HB.out hb)
      have HK2 := Lib.hid (HK.out.call hb)
      clear hb HB HK k1 k2 k3 HO
      obtain ⟨k1, k2, k3⟩ := HK2.out.rules
      have p0 := (HB2.out.cell (p := ⟨b, off + i * 4, none⟩) hbw).trans HG0.out
      have p1 := (HB2.out.cell (p := ⟨b, off + i * 4 + 1, none⟩) hbw).trans HG1.out
      have p2 := (HB2.out.cell (p := ⟨b, off + i * 4 + 2, none⟩) hbw).trans HG2.out
      have p3 := (HB2.out.cell (p := ⟨b, off + i * 4 + 3, none⟩) hbw).trans HG3.out
      go_upto_region 8 with fail
      go_cut [9, 10, 11, 12] (fun s9 s10 s11 s12 wx => DRel w w1.heap.size ⟨id, cur, ap, rv, cl, ex, st, tt, un, pa⟩ (⟨id2, cur2, ap2, rv2, cl2, ex2, st2, tt2, un2, pa2⟩, m9, n9, e9) s9 s10 s11 s12 wx)
      case first =>
        go_region_held3 (fun w' => w1.heap.size < w'.heap.size ∧ w'.cell? ⟨w1.heap.size, 0, none⟩ = some (.string id) ∧ w'.cell? ⟨w1.heap.size, 1, none⟩ = some (.string cur) ∧ w'.cell? ⟨w1.heap.size, 2, none⟩ = some (.int .i64 ap) ∧ w'.cell? ⟨w1.heap.size, 3, none⟩ = some (.int .i64 rv) ∧ w'.cell? ⟨w1.heap.size, 4, none⟩ = some (.int .i64 cl) ∧ w'.cell? ⟨w1.heap.size, 5, none⟩ = some (.int .i64 ex) ∧ w'.cell? ⟨w1.heap.size, 6, none⟩ = some (.int .i64 st) ∧ w'.cell? ⟨w1.heap.size, 7, none⟩ = some (.int .i64 tt) ∧ w'.cell? ⟨w1.heap.size, 8, none⟩ = some (.int .i64 un) ∧ w'.cell? ⟨w1.heap.size, 9, none⟩ = some (.int .i64 pa) ∧ w'.cell? ⟨b, off + i * 4, none⟩ = some (.int .u8 k) ∧ w'.cell? ⟨b, off + i * 4 + 1, none⟩ = some (.int .i64 n) ∧ w'.cell? ⟨b, off + i * 4 + 2, none⟩ = some (.int .i64 u) ∧ w'.cell? ⟨b, off + i * 4 + 3, none⟩ = some (.bool f))
          (first | (go_keep; done) | ((repeat' apply And.intro) <;> (first | (go_keep; done) | (refine cell_re_alloc ?_ _ _ _; go_keep; done) | (refine cell_regrown ?_ _ _; go_keep; done) | (have k4 : w1.heap.size < wr2.drew.heap.size := k3; simp [heap_redrawn]; omega)))) (first | (go_at_call 11; refine (HC.out _).mono ?_; rintro e w2 ⟨rfl, hb⟩; obtain ⟨d, os, rfl⟩ := regrow_of hb; clear hb))
        · go_wp2_with fail
          go_meet
          refine ⟨_, rfl, rfl, rfl, rfl, by omega, below_way1 HB2.out _ _ _, (Blk.call (w := wr2.drew) HK2.out (below_regrown wr2.drew d os)).alloc _, ?_⟩
          have h := Blk.new (grow (redrawn wr2.drew d) os) 24 (auc id2 cur2 ap2 rv2 cl2 ex2 st2 tt2 un2 pa2)
          rw [size_regrow] at h
          exact h
        · go_wp2_with fail
          go_meet
          exact ⟨_, rfl, rfl, rfl, rfl, by omega, below_way2 HB2.out _ _ _, (Blk.alloc (w := wr2.drew) HK2.out _).call (below_regrown _ d os), (Blk.new wr2.drew 24 _).call (below_regrown _ d os)⟩
      case rest =>
        obtain ⟨C, rfl, rfl, rfl, rfl, hne, hB3, hkB, hkC⟩ := hcut
        have HB3 := Lib.hid hB3
        have HKB := Lib.hid hkB
        have HKC := Lib.hid hkC
        clear hB3 k1 k2 k3 p0 p1 p2 p3 HB2 HK2 HC
        obtain ⟨k1, k2, k3⟩ := hkB.rules
        obtain ⟨j1, j2, j3⟩ := hkC.rules
        clear hkB hkC
        rcases HP.out with ⟨he, hr⟩ | ⟨he, hok⟩
        · have hr := hr.symm
          simp only [Prod.mk.injEq, Au.mk.injEq, Au.zero] at hr he
          obtain ⟨⟨rfl, rfl, rfl, rfl, rfl, rfl, rfl, rfl, rfl, rfl⟩, rfl, rfl, -⟩ := hr
          have he' : (e9 != 0) = true := by simpa using he
          clear he HP
          go_wp2_with fail
          go_roundg (len - (i + 1))
          case measure => omega
          case rel => exact ⟨i + 1, ⟨id, cur, ap, rv, cl, ex, st, tt, un, pa⟩, hlt, rfl, by go_num, HCH.out, hi1, hi2, HB3.out, HKB.out⟩
        · have q1 : 0 < ap - rv - cl - ex := hok.op
          have q2 : chk id2 cur2 ap2 rv2 cl2 ex2 st2 tt2 un2 pa2 = 0 := hok.ch
          have q3 : 0 ≤ m9 := hok.m0
          have q4 : 0 ≤ n9 := hok.q0
          have q5 : m9 ≤ 999999999999 := hok.m1
          have q6 : n9 ≤ 999999999999 := hok.q1
          have q7 : 0 ≤ ap2 - ap := hok.up
          have q8 : ap2 - ap = 0 ∨ k % 4 = 1 := hok.kind
          have q9 : ap2 - rv2 - cl2 - ex2 = (ap - rv - cl - ex) + (ap2 - ap) - m9 - n9 := hok.opn
          have q10 : rv ≤ rv2 := hok.rv
          have q11 : cl2 = cl + m9 := hok.cl
          have q12 : ex ≤ ex2 := hok.ex
          have q13 : id2 = id := hok.id
          have q14 : cur2 = cur := hok.cur
          subst q13 q14
          have he0 : e9 = 0 := he
          subst he0
          clear hok he HP
          have hop := fun w => Open_any id2 cur2 ap2 rv2 cl2 ex2 st2 tt2 un2 pa2 w hi1 hi2
          rw [show opnI id2 cur2 ap2 rv2 cl2 ex2 st2 tt2 un2 pa2 = ap2 - rv2 - cl2 - ex2 by unfold opnI; exact if_pos q2] at hop
          have HO := Lib.hid hop
          have hck := fun w => chk_any id2 cur2 ap2 rv2 cl2 ex2 st2 tt2 un2 pa2 w hi1 hi2
          rw [q2] at hck
          have HCK := Lib.hid hck
          have HQ2 := Lib.hid q2
          obtain ⟨⟨a1, a2⟩, ⟨b1, b2⟩, ⟨c1, c2⟩, ⟨d1, d2⟩, e1, -⟩ := chk_0 HCH.out
          obtain ⟨⟨aa1, aa2⟩, ⟨bb1, bb2⟩, ⟨cc1, cc2⟩, ⟨dd1, dd2⟩, ee1, -⟩ := chk_0 q2
          have T1 : (ap2 - rv2 - cl2 - ex2 != ap - rv - cl - ex + (ap2 - ap) - m9 - n9) = false := by simp; omega
          have W1 : IntKind.i64.wrap (rv2 + cl2) = rv2 + cl2 := IntWalk.i64_in _ (by omega)
          have W2 : IntKind.i64.wrap (rv2 + cl2 + ex2) = rv2 + cl2 + ex2 := IntWalk.i64_in _ (by omega)
          have W3 : IntKind.i64.wrap (rv2 + cl2 + ex2 + (ap2 - rv2 - cl2 - ex2)) = rv2 + cl2 + ex2 + (ap2 - rv2 - cl2 - ex2) := IntWalk.i64_in _ (by omega)
          have W4 : IntKind.i64.wrap (cl + m9) = cl + m9 := IntWalk.i64_in _ (by omega)
          have T2 : (ap2 != rv2 + cl2 + ex2 + (ap2 - rv2 - cl2 - ex2)) = false := by simp; omega
          have T3 : (cl2 != cl + m9) = false := by simp; omega
          have T4 : decide (rv2 < rv) = false := by simp; omega
          have T5 : decide (ex2 < ex) = false := by simp; omega
          have p0 : wc.cell? ⟨b, off + i * 4, none⟩ = some (.int .u8 k) := (HB3.out.cell (p := ⟨b, off + i * 4, none⟩) hbw).trans HG0.out
          have p5 : b < wc.heap.size := Nat.lt_of_lt_of_le hbw HB3.out.size
          have q8' : (ap2 - ap != 0) = false ∨ (ap2 - ap != 0) = true ∧ (k % 4 != 1) = false := by
            by_cases h0 : ap2 - ap = 0
            · left; simp; omega
            · right
              have hk1 : k % 4 = 1 := q8.resolve_left h0
              refine ⟨by simp; omega, by rw [hk1]; rfl⟩
          clear hop hck q2 q8 q9 q11
          rcases q8' with z1 | ⟨z1, z2⟩
          all_goals
            go_wp2_with fail
            refine (HCK.out _).mono ?_
            rintro e w2 ⟨rfl, hb⟩; obtain ⟨d, os, rfl⟩ := regrow_of hb; clear hb
            go_wp2_with fail
            refine (HO.out _).mono ?_
            rintro e w2 ⟨rfl, hb⟩
            have HB4 := Lib.hid (below_call (below_re HB3.out HB3.out.size d os) hb)
            have HKB4 := Lib.hid ((HKB.out.call (below_regrown wc d os)).call hb)
            have HKC4 := Lib.hid ((HKC.out.call (below_regrown wc d os)).call hb)
            clear hb k1 k2 k3 j1 j2 j3 p0 p5
            obtain ⟨k1, k2, k3⟩ := HKB4.out.rules
            obtain ⟨j1, j2, j3⟩ := HKC4.out.rules
            go_wp2_with fail
            refine wp_region_quiet_below (by kernel_rfl) (by kernel_rfl) ?_
            repeat (any_goals (first | go_big_quiet_step (exact Calls.regrown_of (HO.out _)) | quiet_step (exact Calls.regrown_of (HO.out _))))
            refine wpQuiet_nil ?_
            intro _ hw'
            obtain ⟨⟨dq, osq⟩, hw''⟩ := hw'
            subst hw''
            go_wp2_with fail
            go_roundg (len - (i + 1))
            case measure => omega
            case rel =>
              exact ⟨i + 1, ⟨id2, cur2, ap2, rv2, cl2, ex2, st2, tt2, un2, pa2⟩, hlt, rfl, by go_num, HQ2.out, hi1, hi2, below_re (below_set10 HB4.out B1.out.size _ _ _ _ _ _ _ _ _ _) (by simpa using HB4.out.size) _ _, (blk_set10 HKB4.out _ _ _ _ _ _ _ _ _ _).call (below_regrown _ _ _)⟩
    · have hB' := Lib.hid hB
      have hlt' : ¬ ((i : Int) < (len : Int)) ∨ (i : Int) < (len : Int) ∧ ¬ ((i : Int) < 200) := by omega
      clear hB HB HK HCH hlt
      rcases hlt' with z1 | ⟨z1, z2⟩
      all_goals
        go_wp2_with fail
        refine (awake_any _).mono ?_
        rintro e w2 ⟨rfl, hb⟩
        go_wp2_with fail
        go_ret
        exact ⟨rfl, below_call hB'.out hb⟩

end Go.Proofs.Ytlkbghdeingimaa
