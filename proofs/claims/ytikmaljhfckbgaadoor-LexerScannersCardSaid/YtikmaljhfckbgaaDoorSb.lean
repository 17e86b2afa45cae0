/- Scanners of both: Next. -/
import Derived.Test.YtikmaljhfckbgaaDoorSa
import Derived.Laws.Rows
set_option linter.unusedVariables false
set_option linter.unusedSimpArgs false
namespace Go.Proofs.YtikmaljhfckbgaaDoor
open Go.Sort Go.ChangeShapes Go.WideShapes Go.ChangeAt Go.RowKit
theorem Kp.set {g : Nat} {w a : World} (h : Kp g w a) {p : Addr} (hp : p.block = g ∨ w.heap.size ≤ p.block) (v : Value) : Kp g w (a.setCell p v) := fun f hf hl => (Below.heap_setCell a p v f (by rcases hp with hp | hp <;> omega)).trans (h f hf hl)
theorem Kp.alloc {g : Nat} {w a : World} (h : Kp g w a) (hs : w.heap.size ≤ a.heap.size) (x : Obj) : Kp g w (a.alloc x) := fun f hf hl => (Below.heap_alloc a x f (Nat.lt_of_lt_of_le hl hs)).trans (h f hf hl)
theorem blk_set1 {w : World} {g t : Nat} {a : Value} (h : Blk w g t #[a]) (u : Value) : Blk (w.setCell ⟨g, 0, none⟩ u) g t #[u] := h.set_ 0 u
theorem blk_set4 {w : World} {g t : Nat} {a b c d : Value} (h : Blk w g t #[a, b, c, d]) (a' b' c' d' : Value) : Blk ((((w.setCell ⟨g, 0, none⟩ a').setCell ⟨g, 1, none⟩ b').setCell ⟨g, 2, none⟩ c').setCell ⟨g, 3, none⟩ d') g t #[a', b', c', d'] := (((h.set_ 0 a').set_ 1 b').set_ 2 c').set_ 3 d'
theorem cell4 {w : World} {N : Nat} {a b c d : Value} (h : Blk w N 30 #[a, b, c, d]) : w.cell? ⟨N, 0, none⟩ = some a ∧ w.cell? ⟨N, 1, none⟩ = some b ∧ w.cell? ⟨N, 2, none⟩ = some c ∧ w.cell? ⟨N, 3, none⟩ = some d ∧ (∀ i, w.frozen? ⟨N, i, none⟩ = false) ∧ N < w.heap.size := ⟨h.cell 0, h.cell 1, h.cell 2, h.cell 3, h.frozen, h.lt⟩
theorem peek19_any (g q : Nat) (v : Value) (S : Sp) (w : World) (h : ScP 57 g q w v S) : Calls Tryd.prog 19 #[v] w fun e w' => e = .returned S.hd.val ∧ Below w.heap.size w w' := by
  obtain ⟨h1, h2⟩ := h
  match S, h2 with
  | none, h2 => subst h2; exact peek19_nil w
  | some (x, r), ⟨hv, o, cap, hqg, hql, hB, c1, c2, c3, hL⟩ =>
    subst hv
    obtain ⟨s0, s1, s2, s3⟩ := hL 0 (by rw [List.length_cons]; omega)
    simp only [Nat.zero_mul, Nat.add_zero, List.getElem_cons_zero] at s0 s1 s2 s3
    exact peek19_some g q o (r.length + 1) cap w hB (by omega) c1 x.k x.t x.v x.p s0 s1 s2 s3 hql
theorem peek20_any (g q : Nat) (v : Value) (S : Sp) (w : World) (h : ScP 59 g q w v S) : Calls Tryd.prog 20 #[v] w fun e w' => e = .returned S.hd.val ∧ Below w.heap.size w w' := by
  obtain ⟨h1, h2⟩ := h
  match S, h2 with
  | none, h2 => subst h2; exact peek20_nil w
  | some (x, r), ⟨hv, o, cap, hqg, hql, hB, c1, c2, c3, hL⟩ =>
    subst hv
    obtain ⟨s0, s1, s2, s3⟩ := hL 0 (by rw [List.length_cons]; omega)
    simp only [Nat.zero_mul, Nat.add_zero, List.getElem_cons_zero] at s0 s1 s2 s3
    exact peek20_some g q o (r.length + 1) cap w hB (by omega) c1 x.k x.t x.v x.p s0 s1 s2 s3 hql
set_option maxHeartbeats 2000000 in
set_option maxRecDepth 100000 in
theorem next21_nil (w : World) : Calls Tryd.prog 21 #[.pointer none] w fun e w' => e = .returned (lx 0 ⟨#[]⟩ 0 0) ∧ Below w.heap.size w w' := by
  have HP := Lib.hid peek19_nil
  go_enter Tryd.func21, Tryd.ntmps21
  go_wp2_with fail
  refine (HP.out _).mono ?_
  rintro e w1 ⟨rfl, hb⟩
  have HB1 := Lib.hid ((Below.alloc (Below.refl w.heap.size w) (Nat.le_refl _) _).trans (hb.mono (by simp)))
  have HN1 := Lib.hid ((Blk.new w 30 _).call hb)
  obtain ⟨r0, r1, r2, r3, rf, rl⟩ := cell4 HN1.out
  have f0 := rf 0
  have f1 := rf 1
  have f2 := rf 2
  have f3 := rf 3
  clear hb rf
  go_wp2_with fail
  (try simp only [Exit.inBlock, Exit.then])
  refine bodyPost_ret (v := lx 0 ⟨#[]⟩ 0 0) ?c1 rfl ⟨rfl, ?c2⟩
  case c1 => exact results_cell_row rfl _ _ _ 30 _ (0, 0) _ rfl ((blk_set4 HN1.out _ _ _ _).alloc _) Tryd.underlying30 rfl rfl
  case c2 => exact (by repeat (first | exact HB1.out | refine Below.setCell ?_ (by simp; try omega) _ | refine Below.alloc ?_ (by simp; try omega) _))
set_option maxHeartbeats 2000000 in
set_option maxRecDepth 100000 in
theorem next21_one (g q o n cap : Nat) (x : Lx) (w : World) (hB : Blk w g 57 #[.slice (some ⟨q, o, none⟩) n cap]) (hn : n = 1) (HP : Hid (∀ W, Below w.heap.size w W → Calls Tryd.prog 19 #[.pointer (some ⟨g, 0, none⟩)] W fun e w' => e = .returned x.val ∧ Below W.heap.size W w')) : Calls Tryd.prog 21 #[.pointer (some ⟨g, 0, none⟩)] w fun e w' => e = .returned x.val ∧ Below w.heap.size w w' := by
  have HB := Lib.hid hB
  obtain ⟨K, T, V, P⟩ := x
  subst hn
  dsimp only [Lx.val] at HP ⊢
  have hg0 := hB.lt
  clear hB
  go_enter Tryd.func21, Tryd.ntmps21
  go_wp2_with fail
  refine (HP.out _ (by exact (by repeat (first | exact Below.refl _ _ | refine al ?_ | refine bre ?_ _ _ | refine Below.drew ?_)))).mono ?_
  rintro e w1 ⟨rfl, hb⟩
  have HB1 := Lib.hid ((Below.alloc (Below.refl w.heap.size w) (Nat.le_refl _) _).trans (hb.mono (by simp)))
  have HN1 := Lib.hid ((Blk.new w 30 _).call hb)
  obtain ⟨r0, r1, r2, r3, rf, rl⟩ := cell4 HN1.out
  have f0 := rf 0
  have f1 := rf 1
  have f2 := rf 2
  have f3 := rf 3
  have c0 : w1.cell? ⟨g, 0, none⟩ = some (.slice (some ⟨q, o, none⟩) 1 cap) := ((HB.out.alloc _).call hb).cell 0
  have hg1 : g < w1.heap.size := ((HB.out.alloc _).call hb).lt
  clear hb rf
  go_wp2_with fail
  (try simp only [Exit.inBlock, Exit.then])
  refine bodyPost_ret (v := lx K T V P) ?c1 rfl ⟨rfl, ?c2⟩
  case c1 => exact results_cell_row rfl _ _ _ 30 _ (0, 0) _ rfl ((blk_set4 HN1.out _ _ _ _).alloc _) Tryd.underlying30 rfl rfl
  case c2 => exact (by repeat (first | exact HB1.out | refine Below.setCell ?_ (by simp; try omega) _ | refine Below.alloc ?_ (by simp; try omega) _))
set_option maxHeartbeats 2000000 in
set_option maxRecDepth 100000 in
theorem next21_more (g q o n cap : Nat) (x : Lx) (w : World) (hB : Blk w g 57 #[.slice (some ⟨q, o, none⟩) (n + 1) cap]) (hn : 0 < n) (hc : n + 1 ≤ cap) (hm : cap ≤ maxLen) (HP : Hid (∀ W, Below w.heap.size w W → Calls Tryd.prog 19 #[.pointer (some ⟨g, 0, none⟩)] W fun e w' => e = .returned x.val ∧ Below W.heap.size W w')) : Calls Tryd.prog 21 #[.pointer (some ⟨g, 0, none⟩)] w fun e w' => e = .returned x.val ∧ Blk w' g 57 #[.slice (some ⟨q, o + 4, none⟩) n (cap - 1)] ∧ Below g w w' ∧ Kp g w w' := by
  have HB := Lib.hid hB
  obtain ⟨K, T, V, P⟩ := x
  dsimp only [Lx.val] at HP ⊢
  have hg0 := hB.lt
  have n1 : decide ((1 : Int) < ((n + 1 : Nat) : Int)) = true := decide_eq_true (by omega)
  have n2 : decide (1 < n + 1) = true := decide_eq_true (by omega)
  have n3 : decide ((1 : Int) < (n : Int) + 1) = true := decide_eq_true (by omega)
  have n4 : 1 ≤ n + 1 := by omega
  unfold maxLen at hm
  clear hB
  go_enter Tryd.func21, Tryd.ntmps21
  go_wp2_with fail
  refine (HP.out _ (by exact (by repeat (first | exact Below.refl _ _ | refine al ?_ | refine bre ?_ _ _ | refine Below.drew ?_)))).mono ?_
  rintro e w1 ⟨rfl, hb⟩
  have HB1 := Lib.hid ((Below.alloc (Below.refl w.heap.size w) (Nat.le_refl _) _).trans (hb.mono (by simp)))
  have HG1 := Lib.hid ((HB.out.alloc _).call hb)
  have HN1 := Lib.hid ((Blk.new w 30 _).call hb)
  obtain ⟨r0, r1, r2, r3, rf, rl⟩ := cell4 HN1.out
  have f0 := rf 0
  have f1 := rf 1
  have f2 := rf 2
  have f3 := rf 3
  have c0 : w1.cell? ⟨g, 0, none⟩ = some (.slice (some ⟨q, o, none⟩) (n + 1) cap) := HG1.out.cell 0
  have c1 := HG1.out.frozen 0
  have hg1 : g < w1.heap.size := HG1.out.lt
  clear hb rf
  go_wp2_with fail
  (try simp only [Exit.inBlock, Exit.then])
  refine bodyPost_ret (v := lx K T V P) ?c1 rfl ⟨rfl, ?c2⟩
  case c1 => exact results_cell_row rfl _ _ _ 30 _ (0, 0) _ rfl ((blk_set4 (HN1.out.far (p := ⟨g, 0, none⟩) (Ne.symm (Nat.ne_of_lt hg0)) _) _ _ _ _).alloc _) Tryd.underlying30 rfl rfl
  case c2 =>
    have hb := HB1.out
    have hbg := hb.mono (Nat.le_of_lt hg0)
    have hkp : Kp g w w1 := Kp.call hb
    have hbk := HG1.out
    have hne := Nat.ne_of_lt hg0
    clear HP HB HB1 HG1 HN1
    refine ⟨?_, ?_, ?_⟩
    · refine Blk.alloc ?_ _
      refine Blk.far (p := ⟨w.heap.size, 3, none⟩) ?_ hne _
      refine Blk.far (p := ⟨w.heap.size, 2, none⟩) ?_ hne _
      refine Blk.far (p := ⟨w.heap.size, 1, none⟩) ?_ hne _
      refine Blk.far (p := ⟨w.heap.size, 0, none⟩) ?_ hne _
      exact blk_set1 hbk _
    · repeat (first | (with_reducible exact hbg) | (with_reducible refine Below.setCell ?_ (by simp; try omega) _) | (with_reducible refine Below.alloc ?_ (by simp; try omega) _))
    · repeat (first | (with_reducible exact hkp) | (with_reducible refine Kp.set ?_ (by first | exact .inl rfl | exact .inr (Nat.le_refl _)) _) | (with_reducible refine Kp.alloc ?_ (by simp; try omega) _))
theorem next21_any (g q : Nat) (v : Value) (S : Sp) (w : World) (h : ScP 57 g q w v S) : Calls Tryd.prog 21 #[v] w fun e w' => e = .returned S.hd.val ∧ ScP 57 g q w' v S.tl ∧ Below g w w' ∧ Kp g w w' := by
  have HP := Lib.hid (fun W hb => peek19_any g q v S W (h.call hb))
  obtain ⟨h1, h2⟩ := h
  match S, h2, HP with
  | none, h2, _ =>
    subst h2
    refine (next21_nil w).mono ?_
    rintro e w' ⟨rfl, hb⟩
    exact ⟨rfl, ⟨Nat.le_trans h1 hb.size, rfl⟩, hb.mono h1, Kp.call hb⟩
  | some (x, []), ⟨hv, o, cap, hqg, hql, hB, c1, c2, c3, hL⟩, HP =>
    subst hv
    refine (next21_one g q o 1 cap x w hB rfl HP).mono ?_
    rintro e w' ⟨rfl, hb⟩
    exact ⟨rfl, ⟨Nat.le_trans h1 hb.size, rfl, o, cap, hqg, Nat.lt_of_lt_of_le hql hb.size, hB.call hb, c1, c2, c3, hL.keep (hb.block q hql)⟩, hb.mono h1, Kp.call hb⟩
  | some (x, y :: r), ⟨hv, o, cap, hqg, hql, hB, c1, c2, c3, hL⟩, HP =>
    subst hv
    rw [List.length_cons] at c1 c3
    refine (next21_more g q o (r.length + 1) cap x w hB (by omega) c1 c2 HP).mono ?_
    rintro e w' ⟨rfl, hk, hb, hkp⟩
    exact ⟨rfl, ⟨Nat.le_trans h1 hb.size, rfl, o + 4, cap - 1, hqg, Nat.lt_of_lt_of_le hql hb.size, hk, by omega, by omega, by omega, hL.tail.keep (hkp q hqg hql)⟩, hb, hkp⟩
set_option maxHeartbeats 2000000 in
set_option maxRecDepth 100000 in
theorem next22_nil (w : World) : Calls Tryd.prog 22 #[.pointer none] w fun e w' => e = .returned (lx 0 ⟨#[]⟩ 0 0) ∧ Below w.heap.size w w' := by
  have HP := Lib.hid peek20_nil
  go_enter Tryd.func22, Tryd.ntmps22
  go_wp2_with fail
  refine (HP.out _).mono ?_
  rintro e w1 ⟨rfl, hb⟩
  have HB1 := Lib.hid ((Below.alloc (Below.refl w.heap.size w) (Nat.le_refl _) _).trans (hb.mono (by simp)))
  have HN1 := Lib.hid ((Blk.new w 30 _).call hb)
  obtain ⟨r0, r1, r2, r3, rf, rl⟩ := cell4 HN1.out
  have f0 := rf 0
  have f1 := rf 1
  have f2 := rf 2
  have f3 := rf 3
  clear hb rf
  go_wp2_with fail
  (try simp only [Exit.inBlock, Exit.then])
  refine bodyPost_ret (v := lx 0 ⟨#[]⟩ 0 0) ?c1 rfl ⟨rfl, ?c2⟩
  case c1 => exact results_cell_row rfl _ _ _ 30 _ (0, 0) _ rfl ((blk_set4 HN1.out _ _ _ _).alloc _) Tryd.underlying30 rfl rfl
  case c2 => exact (by repeat (first | exact HB1.out | refine Below.setCell ?_ (by simp; try omega) _ | refine Below.alloc ?_ (by simp; try omega) _))
set_option maxHeartbeats 2000000 in
set_option maxRecDepth 100000 in
theorem next22_one (g q o n cap : Nat) (x : Lx) (w : World) (hB : Blk w g 59 #[.slice (some ⟨q, o, none⟩) n cap]) (hn : n = 1) (HP : Hid (∀ W, Below w.heap.size w W → Calls Tryd.prog 20 #[.pointer (some ⟨g, 0, none⟩)] W fun e w' => e = .returned x.val ∧ Below W.heap.size W w')) : Calls Tryd.prog 22 #[.pointer (some ⟨g, 0, none⟩)] w fun e w' => e = .returned x.val ∧ Below w.heap.size w w' := by
  have HB := Lib.hid hB
  obtain ⟨K, T, V, P⟩ := x
  subst hn
  dsimp only [Lx.val] at HP ⊢
  have hg0 := hB.lt
  clear hB
  go_enter Tryd.func22, Tryd.ntmps22
  go_wp2_with fail
  refine (HP.out _ (by exact (by repeat (first | exact Below.refl _ _ | refine al ?_ | refine bre ?_ _ _ | refine Below.drew ?_)))).mono ?_
  rintro e w1 ⟨rfl, hb⟩
  have HB1 := Lib.hid ((Below.alloc (Below.refl w.heap.size w) (Nat.le_refl _) _).trans (hb.mono (by simp)))
  have HN1 := Lib.hid ((Blk.new w 30 _).call hb)
  obtain ⟨r0, r1, r2, r3, rf, rl⟩ := cell4 HN1.out
  have f0 := rf 0
  have f1 := rf 1
  have f2 := rf 2
  have f3 := rf 3
  have c0 : w1.cell? ⟨g, 0, none⟩ = some (.slice (some ⟨q, o, none⟩) 1 cap) := ((HB.out.alloc _).call hb).cell 0
  have hg1 : g < w1.heap.size := ((HB.out.alloc _).call hb).lt
  clear hb rf
  go_wp2_with fail
  (try simp only [Exit.inBlock, Exit.then])
  refine bodyPost_ret (v := lx K T V P) ?c1 rfl ⟨rfl, ?c2⟩
  case c1 => exact results_cell_row rfl _ _ _ 30 _ (0, 0) _ rfl ((blk_set4 HN1.out _ _ _ _).alloc _) Tryd.underlying30 rfl rfl
  case c2 => exact (by repeat (first | exact HB1.out | refine Below.setCell ?_ (by simp; try omega) _ | refine Below.alloc ?_ (by simp; try omega) _))
set_option maxHeartbeats 2000000 in
set_option maxRecDepth 100000 in
theorem next22_more (g q o n cap : Nat) (x : Lx) (w : World) (hB : Blk w g 59 #[.slice (some ⟨q, o, none⟩) (n + 1) cap]) (hn : 0 < n) (hc : n + 1 ≤ cap) (hm : cap ≤ maxLen) (HP : Hid (∀ W, Below w.heap.size w W → Calls Tryd.prog 20 #[.pointer (some ⟨g, 0, none⟩)] W fun e w' => e = .returned x.val ∧ Below W.heap.size W w')) : Calls Tryd.prog 22 #[.pointer (some ⟨g, 0, none⟩)] w fun e w' => e = .returned x.val ∧ Blk w' g 59 #[.slice (some ⟨q, o + 4, none⟩) n (cap - 1)] ∧ Below g w w' ∧ Kp g w w' := by
  have HB := Lib.hid hB
  obtain ⟨K, T, V, P⟩ := x
  dsimp only [Lx.val] at HP ⊢
  have hg0 := hB.lt
  have n1 : decide ((1 : Int) < ((n + 1 : Nat) : Int)) = true := decide_eq_true (by omega)
  have n2 : decide (1 < n + 1) = true := decide_eq_true (by omega)
  have n3 : decide ((1 : Int) < (n : Int) + 1) = true := decide_eq_true (by omega)
  have n4 : 1 ≤ n + 1 := by omega
  unfold maxLen at hm
  clear hB
  go_enter Tryd.func22, Tryd.ntmps22
  go_wp2_with fail
  refine (HP.out _ (by exact (by repeat (first | exact Below.refl _ _ | refine al ?_ | refine bre ?_ _ _ | refine Below.drew ?_)))).mono ?_
  rintro e w1 ⟨rfl, hb⟩
  have HB1 := Lib.hid ((Below.alloc (Below.refl w.heap.size w) (Nat.le_refl _) _).trans (hb.mono (by simp)))
  have HG1 := Lib.hid ((HB.out.alloc _).call hb)
  have HN1 := Lib.hid ((Blk.new w 30 _).call hb)
  obtain ⟨r0, r1, r2, r3, rf, rl⟩ := cell4 HN1.out
  have f0 := rf 0
  have f1 := rf 1
  have f2 := rf 2
  have f3 := rf 3
  have c0 : w1.cell? ⟨g, 0, none⟩ = some (.slice (some ⟨q, o, none⟩) (n + 1) cap) := HG1.out.cell 0
  have c1 := HG1.out.frozen 0
  have hg1 : g < w1.heap.size := HG1.out.lt
  clear hb rf
  go_wp2_with fail
  (try simp only [Exit.inBlock, Exit.then])
  refine bodyPost_ret (v := lx K T V P) ?c1 rfl ⟨rfl, ?c2⟩
  case c1 => exact results_cell_row rfl _ _ _ 30 _ (0, 0) _ rfl ((blk_set4 (HN1.out.far (p := ⟨g, 0, none⟩) (Ne.symm (Nat.ne_of_lt hg0)) _) _ _ _ _).alloc _) Tryd.underlying30 rfl rfl
  case c2 =>
    have hb := HB1.out
    have hbg := hb.mono (Nat.le_of_lt hg0)
    have hkp : Kp g w w1 := Kp.call hb
    have hbk := HG1.out
    have hne := Nat.ne_of_lt hg0
    clear HP HB HB1 HG1 HN1
    refine ⟨?_, ?_, ?_⟩
    · refine Blk.alloc ?_ _
      refine Blk.far (p := ⟨w.heap.size, 3, none⟩) ?_ hne _
      refine Blk.far (p := ⟨w.heap.size, 2, none⟩) ?_ hne _
      refine Blk.far (p := ⟨w.heap.size, 1, none⟩) ?_ hne _
      refine Blk.far (p := ⟨w.heap.size, 0, none⟩) ?_ hne _
      exact blk_set1 hbk _
    · repeat (first | (with_reducible exact hbg) | (with_reducible refine Below.setCell ?_ (by simp; try omega) _) | (with_reducible refine Below.alloc ?_ (by simp; try omega) _))
    · repeat (first | (with_reducible exact hkp) | (with_reducible refine Kp.set ?_ (by first | exact .inl rfl | exact .inr (Nat.le_refl _)) _) | (with_reducible refine Kp.alloc ?_ (by simp; try omega) _))
theorem next22_any (g q : Nat) (v : Value) (S : Sp) (w : World) (h : ScP 59 g q w v S) : Calls Tryd.prog 22 #[v] w fun e w' => e = .returned S.hd.val ∧ ScP 59 g q w' v S.tl ∧ Below g w w' ∧ Kp g w w' := by
  have HP := Lib.hid (fun W hb => peek20_any g q v S W (h.call hb))
  obtain ⟨h1, h2⟩ := h
  match S, h2, HP with
  | none, h2, _ =>
    subst h2
    refine (next22_nil w).mono ?_
    rintro e w' ⟨rfl, hb⟩
    exact ⟨rfl, ⟨Nat.le_trans h1 hb.size, rfl⟩, hb.mono h1, Kp.call hb⟩
  | some (x, []), ⟨hv, o, cap, hqg, hql, hB, c1, c2, c3, hL⟩, HP =>
    subst hv
    refine (next22_one g q o 1 cap x w hB rfl HP).mono ?_
    rintro e w' ⟨rfl, hb⟩
    exact ⟨rfl, ⟨Nat.le_trans h1 hb.size, rfl, o, cap, hqg, Nat.lt_of_lt_of_le hql hb.size, hB.call hb, c1, c2, c3, hL.keep (hb.block q hql)⟩, hb.mono h1, Kp.call hb⟩
  | some (x, y :: r), ⟨hv, o, cap, hqg, hql, hB, c1, c2, c3, hL⟩, HP =>
    subst hv
    rw [List.length_cons] at c1 c3
    refine (next22_more g q o (r.length + 1) cap x w hB (by omega) c1 c2 HP).mono ?_
    rintro e w' ⟨rfl, hk, hb, hkp⟩
    exact ⟨rfl, ⟨Nat.le_trans h1 hb.size, rfl, o + 4, cap - 1, hqg, Nat.lt_of_lt_of_le hql hb.size, hk, by omega, by omega, by omega, hL.tail.keep (hkp q hqg hql)⟩, hb, hkp⟩
end Go.Proofs.YtikmaljhfckbgaaDoor
