/- The walk of LexerPlaces. -/
import Derived.Test.YtikmaljhfckbgaaDoorPa
import Derived.Test.YtikmaljhfckbgaaDoorX
set_option linter.unusedVariables false
set_option linter.unusedSimpArgs false
namespace Go.Proofs.YtikmaljhfckbgaaDoor
open Go.Sort Go.ChangeShapes Go.WideShapes Go.ChangeAt Go.RowKit
theorem laid30 (wr : World) (K : Int) (T : ByteArray) (V P : Int) : ∃ (W : World) (N : Nat), wr.alloc (.cells #[.int .i64 K, .string T, .int .i64 V, .int .i64 P] 30) = W ∧ wr.heap.size = N ∧
    W.cell? ⟨N, 0, none⟩ = some (.int .i64 K) ∧ W.cell? ⟨N, 1, none⟩ = some (.string T) ∧ W.cell? ⟨N, 2, none⟩ = some (.int .i64 V) ∧ W.cell? ⟨N, 3, none⟩ = some (.int .i64 P) ∧ Below wr.heap.size wr W := by
  refine ⟨_, _, rfl, rfl, ?_, ?_, ?_, ?_, (Below.refl _ _).alloc (Nat.le_refl _) _⟩
  all_goals
    first
    | exact (Blk.new wr 30 _).cell 0
    | exact (Blk.new wr 30 _).cell 1
    | exact (Blk.new wr 30 _).cell 2
    | exact (Blk.new wr 30 _).cell 3
theorem rep_sp (n : Nat) : Lib.repeatL (⟨#[32]⟩ : ByteArray).data.toList n = List.replicate n 32 := by
  induction n with
  | zero => rfl
  | succ n ih => rw [List.replicate_succ, ← ih]; rfl
theorem spc_any (c : Nat) (hc : c ≤ 255) (w : World) : Calls Tryd.prog 27 #[.string ⟨#[32]⟩, .int .i64 (c : Int)] w fun e w' => e = .returned (.string (bst (sps c))) ∧ Below w.heap.size w w' := by
  have h := Tryd.strings_Repeat ⟨#[32]⟩ c w (by omega) (by show 1 * c ≤ _; omega)
  rw [rep_sp] at h
  exact h
theorem get_ts (ts : List Lx) (x : Lx) (i : Nat) (h : i < ts.length) (h2 : i < (ts ++ [x]).length) : (ts ++ [x])[i] = ts[i] := List.getElem_append_left h
theorem get_end (ts : List Lx) (x : Lx) (i : Nat) (h : i = ts.length) (h2 : i < (ts ++ [x]).length) : (ts ++ [x])[i] = x := by subst h; simp
set_option maxHeartbeats 2000000 in
set_option maxRecDepth 100000 in
theorem plLong (s : ByteArray) (c : Nat) (w : World) (hc : c ≤ 255) (h : decide ((3000 : Int) < (s.size : Int)) = true) (hT : LT w) : Calls Tryd.prog 8 #[.string s, .int .u8 (c : Int)] w fun e w' => e = .returned (.bool true) ∧ Below w.heap.size w w' := by
  have HT := Lib.hid hT
  have HAW := Lib.hid awake_any
  clear hT
  go_enter Tryd.func8, Tryd.ntmps8
  go_wp2_with fail
  refine (HAW.out _ (HT.out.call (Below.refl w.heap.size w))).mono ?_
  rintro e wz ⟨rfl, hbz⟩
  have BZ := Lib.hid (below_call (Below.refl w.heap.size w) hbz)
  clear hbz
  go_wp2_with fail
  go_ret
  exact ⟨rfl, BZ.out⟩
set_option maxHeartbeats 2000000 in
set_option maxRecDepth 100000 in
theorem plBad (s : ByteArray) (c : Nat) (w : World) (hc : c ≤ 255) (hs : s.size ≤ 3000) (h : decide ((3000 : Int) < (s.size : Int)) = false) (hT : LT w) (E : Int) (p : Nat) (hp : p < s.size) (hE : (E == 0) = false)
    (A : Hid (∀ w, LT w → Calls Tryd.prog 10 #[.string s] w (SPost w.heap.size w ⟨[], E, p⟩))) (B : Hid (∀ w, LT w → Calls Tryd.prog 10 #[.string (s ++ bst (sps c))] w (SPost w.heap.size w ⟨[], E, p⟩))) : Calls Tryd.prog 8 #[.string s, .int .u8 (c : Int)] w fun e w' => e = .returned (.bool true) ∧ Below w.heap.size w w' := by
  have HT := Lib.hid hT
  have HAW := Lib.hid awake_any
  clear hT
  have hE2 : (E != 0) = true := by rw [bne, hE]; rfl
  have hEE : (E != E) = false := by simp
  have hpp : ((p : Int) != (p : Int)) = false := by simp
  have d1 : decide (0 ≤ (p : Int)) = true := decide_eq_true (by omega)
  have d2 : decide ((p : Int) < (s.size : Int)) = true := decide_eq_true (by omega)
  have hb8 : IntKind.i64.wrap (c : Int) = (c : Int) := IntWalk.i64_in _ (by omega)
  have hci : (c : Int) ≤ 255 := by omega
  have hsi : (s.size : Int) ≤ 3000 := by omega
  have SP := Lib.hid (fun w => spc_any c hc w)
  have zsz : (bst (sps c)).size ≤ 255 := by rw [bst_size, List.length_replicate]; exact hc
  generalize bst (sps c) = Z at *
  go_enter Tryd.func8, Tryd.ntmps8
  go_wp2_with fail
  refine (A.out _ HT.out).mono ?_
  rintro e w1 ⟨v1, rfl, o1, b1⟩
  obtain ⟨a, ca, hv, ha1, ha2, L1⟩ := lxO_of (lxAt_of rfl o1)
  dsimp only at hv ha1
  skip
  subst hv
  have B1 := Lib.hid b1
  have HL1 := Lib.hid L1
  have HA1 := Lib.hid ha1
  clear o1 b1 L1 ha1 ha2
  go_wp2_with fail
  refine (SP.out _).mono ?_
  rintro e w2 ⟨rfl, b2⟩
  have B2 := Lib.hid (below_call B1.out b2)
  have HL2 := Lib.hid (HL1.out.call b2)
  clear b2
  go_wp2_with fail
  refine (B.out _ (HT.out.call B2.out)).mono ?_
  rintro e w3 ⟨v2, rfl, o2, b3⟩
  obtain ⟨b, cb, hv, hb1, hb2, L3⟩ := lxO_of (lxAt_of rfl o2)
  dsimp only at hv hb1
  skip
  subst hv
  have B3 := Lib.hid (below_call B2.out b3)
  have HLa := Lib.hid (HL2.out.call b3)
  have HLb := Lib.hid L3
  have HB1 := Lib.hid hb1
  clear o2 b3 L3 hb1 hb2
  go_wp2_with fail
  refine (HAW.out _ (HT.out.call B3.out)).mono ?_
  rintro e wz ⟨rfl, hbz⟩
  have BZ := Lib.hid (below_call B3.out hbz)
  clear hbz
  go_wp2_with fail
  go_ret
  exact ⟨rfl, BZ.out⟩
set_option maxHeartbeats 16000000 in
set_option maxRecDepth 100000 in
theorem plGood (s : ByteArray) (c : Nat) (w : World) (hc : c ≤ 255) (hs : s.size ≤ 3000) (h : decide ((3000 : Int) < (s.size : Int)) = false) (hT : LT w) (l m ts : List Lx) (n : Nat) (HN : Hid (l.length = n)) (HM : Hid (m.length = n)) (HNT : Hid (n = ts.length + 1)) (hmax : n ≤ 5000)
    (HLE : Hid (l = ts ++ [⟨0, ⟨#[]⟩, 0, (s.size : Int)⟩])) (HME : Hid (m = ts ++ [⟨0, ⟨#[]⟩, 0, ((s.size + c : Nat) : Int)⟩])) (HPl : Hid (Pl (ls s) 0 ts (ls s).length))
    (A : Hid (∀ w, LT w → Calls Tryd.prog 10 #[.string s] w (SPost w.heap.size w ⟨l, 0, 0⟩))) (B : Hid (∀ w, LT w → Calls Tryd.prog 10 #[.string (s ++ bst (sps c))] w (SPost w.heap.size w ⟨m, 0, 0⟩))) : Calls Tryd.prog 8 #[.string s, .int .u8 (c : Int)] w fun e w' => e = .returned (.bool true) ∧ Below w.heap.size w w' := by
  have HT := Lib.hid hT
  have HAW := Lib.hid awake_any
  clear hT
  have hb8 : IntKind.i64.wrap (c : Int) = (c : Int) := IntWalk.i64_in _ (by omega)
  have hci : (c : Int) ≤ 255 := by omega
  have hsi : (s.size : Int) ≤ 3000 := by omega
  have SP := Lib.hid (fun w => spc_any c hc w)
  have zsz : (bst (sps c)).size ≤ 255 := by rw [bst_size, List.length_replicate]; exact hc
  generalize bst (sps c) = Z at *
  have hni : (n : Int) ≤ 5000 := by omega
  have hz2 : ((n : Int) != (n : Int)) = false := by simp
  go_enter Tryd.func8, Tryd.ntmps8
  go_wp2_with fail
  refine (A.out _ HT.out).mono ?_
  rintro e w1 ⟨v1, rfl, o1, b1⟩
  obtain ⟨a, ca, hv, ha1, ha2, L1⟩ := lxO_of (lxAt_of rfl o1)
  dsimp only at hv ha1
  rw [HN.out] at hv ha1
  subst hv
  have B1 := Lib.hid b1
  have HL1 := Lib.hid L1
  have HA1 := Lib.hid ha1
  clear o1 b1 L1 ha1 ha2
  go_wp2_with fail
  refine (SP.out _).mono ?_
  rintro e w2 ⟨rfl, b2⟩
  have B2 := Lib.hid (below_call B1.out b2)
  have HL2 := Lib.hid (HL1.out.call b2)
  clear b2
  go_wp2_with fail
  refine (B.out _ (HT.out.call B2.out)).mono ?_
  rintro e w3 ⟨v2, rfl, o2, b3⟩
  obtain ⟨b, cb, hv, hb1, hb2, L3⟩ := lxO_of (lxAt_of rfl o2)
  dsimp only at hv hb1
  rw [HM.out] at hv hb1
  subst hv
  have B3 := Lib.hid (below_call B2.out b3)
  have HLa := Lib.hid (HL2.out.call b3)
  have HLb := Lib.hid L3
  have HB1 := Lib.hid hb1
  clear o2 b3 L3 hb1 hb2
  have ia : (n : Int) ≤ (ca : Int) := by have := HA1.out; omega
  have ib : (n : Int) ≤ (cb : Int) := by have := HB1.out; omega
  go_wp2_with fail
  go_loopw [11] (fun x wr => ∃ (k : Nat), k ≤ n ∧ x = .int .i64 k ∧ Hid (Below w3.heap.size w3 wr)) (fun x _ => n - (intOf x).toNat)
  case atStart => exact ⟨0, Nat.zero_le _, rfl, Lib.hid (Below.refl _ _)⟩
  case round =>
    obtain ⟨k, hk, rfl, hB⟩ := hrel
    by_cases hlt : k < n
    · have hl1 : k < l.length := by rw [HN.out]; exact hlt
      have hl2 : k < m.length := by rw [HM.out]; exact hlt
      cases k with
      | zero =>
        obtain ⟨g, o1, rfl, hg, s0, s1, s2, s3⟩ := HLa.out 0 hl1
        obtain ⟨r, o2, rfl, hr, t0, t1, t2, t3⟩ := HLb.out 0 hl2
        replace s0 := (hB.out.cell (p := ⟨g, _, none⟩) hg).trans s0
        replace s1 := (hB.out.cell (p := ⟨g, _, none⟩) hg).trans s1
        replace s2 := (hB.out.cell (p := ⟨g, _, none⟩) hg).trans s2
        replace s3 := (hB.out.cell (p := ⟨g, _, none⟩) hg).trans s3
        replace t0 := (hB.out.cell (p := ⟨r, _, none⟩) hr).trans t0
        replace t1 := (hB.out.cell (p := ⟨r, _, none⟩) hr).trans t1
        replace t2 := (hB.out.cell (p := ⟨r, _, none⟩) hr).trans t2
        replace t3 := (hB.out.cell (p := ⟨r, _, none⟩) hr).trans t3
        have hgw : g < wr.heap.size := Nat.lt_of_lt_of_le hg hB.out.size
        have hrw : r < wr.heap.size := Nat.lt_of_lt_of_le hr hB.out.size
        clear hg hr
        simp only [Nat.zero_mul, Nat.add_zero] at s0 s1 s2 s3 t0 t1 t2 t3
        have u1 : IntKind.i64.wrap ((n : Int) - 1) = (n : Int) - 1 := IntWalk.i64_in _ (by omega)
        have u2 : IntKind.i64.wrap ((s.size : Int) + (c : Int)) = (s.size : Int) + (c : Int) := IntWalk.i64_in _ (by omega)
        by_cases hlast : 0 < ts.length
        · obtain ⟨P, hPe, hP1, hP2, hP3, hP4, hP5, -⟩ := HPl.out.at 0 hlast
          have el1 : l[0] = ts[0] := by simp only [HLE.out]; exact get_ts _ _ _ hlast _
          have el2 : m[0] = ts[0] := by simp only [HME.out]; exact get_ts _ _ _ hlast _
          rw [el1] at s0 s1 s2 s3
          rw [el2] at t0 t1 t2 t3
          rw [hPe] at s3 t3
          have dl : decide ((0 : Int) < (n : Int) - 1) = true := decide_eq_true (by have := HNT.out; omega)
          have de : ((0 : Int) == (n : Int) - 1) = false := by rw [beq_eq_false_iff_ne]; have := HNT.out; omega
          have dl3 : decide (1 < n) = true := decide_eq_true (by have := HNT.out; omega)
          have dl4 : 1 < n := by have := HNT.out; omega
          have dl2 : decide ((1 : Int) < (n : Int)) = true := decide_eq_true (by have := HNT.out; omega)
          have d1 : decide ((P : Int) < 0) = false := decide_eq_false (by omega)
          have hPs : P < s.size := by rw [ls_size]; exact hP2
          have d2 : decide ((s.size : Int) < (P : Int)) = false := decide_eq_false (by omega)
          have d2n : decide (s.size < P) = false := decide_eq_false (by omega)
          have d2m : ¬ s.size < P := by omega
          obtain ⟨P', hP'⟩ : ∃ P' : Int, P' = (P : Int) := ⟨_, rfl⟩
          have z1s := cut_l s P (by omega)
          have hpi : (P : Int) ≤ (s.size : Int) := by omega
          have HPR := Lib.hid (fun (h : ts[0].k = 1 ∨ ts[0].k = 4) => (show Lib.hasPrefix (ls (s.extract P s.size)) (ls ts[0].t) = true by
            unfold Lib.hasPrefix
            rw [List.isPrefixOf_iff_prefix, ls_ex, List.take_of_length_le (by rw [List.length_drop, ← ls_size]; exact Nat.le_refl _)]
            exact hP5 h))
          clear el1 el2 hPe hP1 hP2 hP5
          generalize ts[0].k = K at *
          generalize ts[0].t = T at *
          generalize ts[0].v = V at *
          have n3 : (K != 0) = true := by rw [bne_iff_ne]; omega
          subst hP'
          clear hlast
          by_cases k1 : K = 1
          · subst k1
            have HPX := Lib.hid (fun w => Tryd.strings_HasPrefix (s.extract P s.size) T w)
            rw [show Lib.hasPrefix (s.extract P s.size).data.toList T.data.toList = true from HPR.out (.inl rfl)] at HPX
            clear HPR hP3 hP4
            go_wp2_with fail
            obtain ⟨W, N0, e1, e2, x0, x1, x2, x3, hbW⟩ := laid30 wr 1 T V (P : Int)
            rw [e1, e2]
            have HBW := Lib.hid hbW
            have HE2 := Lib.hid e2
            clear hbW e1 e2
            go_quiet ((go_at_call 28; exact Calls.quiet_of_same (HPX.out _)))
            obtain ⟨W2, hW2⟩ : ∃ W2, W2 = W.drewN nq := ⟨_, rfl⟩
            rw [← hW2]
            have HW2 := Lib.hid hW2
            clear hW2
            have m0 : W2.cell? ⟨r, o2, none⟩ = some (.int .i64 1) := by rw [HW2.out]; exact (HBW.out.cell (p := ⟨r, _, none⟩) hrw).trans t0
            have m1 : W2.cell? ⟨r, o2 + 1, none⟩ = some (.string T) := by rw [HW2.out]; exact (HBW.out.cell (p := ⟨r, _, none⟩) hrw).trans t1
            have m2 : W2.cell? ⟨r, o2 + 2, none⟩ = some (.int .i64 V) := by rw [HW2.out]; exact (HBW.out.cell (p := ⟨r, _, none⟩) hrw).trans t2
            have m3 : W2.cell? ⟨r, o2 + 3, none⟩ = some (.int .i64 (P : Int)) := by rw [HW2.out]; exact (HBW.out.cell (p := ⟨r, _, none⟩) hrw).trans t3
            have z0 : W2.cell? ⟨N0, 0, none⟩ = some (.int .i64 1) := by rw [HW2.out]; exact x0
            have z1 : W2.cell? ⟨N0, 1, none⟩ = some (.string T) := by rw [HW2.out]; exact x1
            have z2 : W2.cell? ⟨N0, 2, none⟩ = some (.int .i64 V) := by rw [HW2.out]; exact x2
            have z3 : W2.cell? ⟨N0, 3, none⟩ = some (.int .i64 (P : Int)) := by rw [HW2.out]; exact x3
            clear x0 x1 x2 x3  t0 t1 t2 t3
            go_wp2_with fail
            go_quiet (fail)
            have BX := Lib.hid (show Below w3.heap.size w3 (W2.drewN nq) from bdn (by rw [HW2.out]; exact bdn (hB.out.trans (HBW.out.mono hB.out.size)) _) _)
            clear m0 m1 m2 m3 z0 z1 z2 z3
            go_wp2_with fail
            go_roundw
            case rel => exact ⟨0 + 1, by have := hlt; omega, by first | rfl | go_num, BX⟩
            case measure => first | (simp [intOf]; done) | (simp [intOf]; omega)
          by_cases k4 : K = 4
          · subst k4
            have HPX := Lib.hid (fun w => Tryd.strings_HasPrefix (s.extract P s.size) T w)
            rw [show Lib.hasPrefix (s.extract P s.size).data.toList T.data.toList = true from HPR.out (.inr rfl)] at HPX
            clear HPR hP3 hP4 k1
            go_wp2_with fail
            obtain ⟨W, N0, e1, e2, x0, x1, x2, x3, hbW⟩ := laid30 wr 4 T V (P : Int)
            rw [e1, e2]
            have HBW := Lib.hid hbW
            have HE2 := Lib.hid e2
            clear hbW e1 e2
            go_quiet ((go_at_call 28; exact Calls.quiet_of_same (HPX.out _)))
            obtain ⟨W2, hW2⟩ : ∃ W2, W2 = W.drewN nq := ⟨_, rfl⟩
            rw [← hW2]
            have HW2 := Lib.hid hW2
            clear hW2
            have m0 : W2.cell? ⟨r, o2, none⟩ = some (.int .i64 4) := by rw [HW2.out]; exact (HBW.out.cell (p := ⟨r, _, none⟩) hrw).trans t0
            have m1 : W2.cell? ⟨r, o2 + 1, none⟩ = some (.string T) := by rw [HW2.out]; exact (HBW.out.cell (p := ⟨r, _, none⟩) hrw).trans t1
            have m2 : W2.cell? ⟨r, o2 + 2, none⟩ = some (.int .i64 V) := by rw [HW2.out]; exact (HBW.out.cell (p := ⟨r, _, none⟩) hrw).trans t2
            have m3 : W2.cell? ⟨r, o2 + 3, none⟩ = some (.int .i64 (P : Int)) := by rw [HW2.out]; exact (HBW.out.cell (p := ⟨r, _, none⟩) hrw).trans t3
            have z0 : W2.cell? ⟨N0, 0, none⟩ = some (.int .i64 4) := by rw [HW2.out]; exact x0
            have z1 : W2.cell? ⟨N0, 1, none⟩ = some (.string T) := by rw [HW2.out]; exact x1
            have z2 : W2.cell? ⟨N0, 2, none⟩ = some (.int .i64 V) := by rw [HW2.out]; exact x2
            have z3 : W2.cell? ⟨N0, 3, none⟩ = some (.int .i64 (P : Int)) := by rw [HW2.out]; exact x3
            clear x0 x1 x2 x3  t0 t1 t2 t3
            go_wp2_with fail
            go_quiet (fail)
            have BX := Lib.hid (show Below w3.heap.size w3 (W2.drewN nq) from bdn (by rw [HW2.out]; exact bdn (hB.out.trans (HBW.out.mono hB.out.size)) _) _)
            clear m0 m1 m2 m3 z0 z1 z2 z3
            go_wp2_with fail
            go_roundw
            case rel => exact ⟨0 + 1, by have := hlt; omega, by first | rfl | go_num, BX⟩
            case measure => first | (simp [intOf]; done) | (simp [intOf]; omega)
          have q1 : (K == 1) = false := by rw [beq_eq_false_iff_ne]; exact k1
          have q4 : (K == 4) = false := by rw [beq_eq_false_iff_ne]; exact k4
          clear HPR hP3 hP4 k1 k4
          go_wp2_with fail
          obtain ⟨W, N0, e1, e2, x0, x1, x2, x3, hbW⟩ := laid30 wr K T V (P : Int)
          rw [e1, e2]
          have HBW := Lib.hid hbW
          have HE2 := Lib.hid e2
          clear hbW e1 e2
          go_quiet (fail)
          obtain ⟨W2, hW2⟩ : ∃ W2, W2 = W.drewN nq := ⟨_, rfl⟩
          rw [← hW2]
          have HW2 := Lib.hid hW2
          clear hW2
          have m0 : W2.cell? ⟨r, o2, none⟩ = some (.int .i64 K) := by rw [HW2.out]; exact (HBW.out.cell (p := ⟨r, _, none⟩) hrw).trans t0
          have m1 : W2.cell? ⟨r, o2 + 1, none⟩ = some (.string T) := by rw [HW2.out]; exact (HBW.out.cell (p := ⟨r, _, none⟩) hrw).trans t1
          have m2 : W2.cell? ⟨r, o2 + 2, none⟩ = some (.int .i64 V) := by rw [HW2.out]; exact (HBW.out.cell (p := ⟨r, _, none⟩) hrw).trans t2
          have m3 : W2.cell? ⟨r, o2 + 3, none⟩ = some (.int .i64 (P : Int)) := by rw [HW2.out]; exact (HBW.out.cell (p := ⟨r, _, none⟩) hrw).trans t3
          have z0 : W2.cell? ⟨N0, 0, none⟩ = some (.int .i64 K) := by rw [HW2.out]; exact x0
          have z1 : W2.cell? ⟨N0, 1, none⟩ = some (.string T) := by rw [HW2.out]; exact x1
          have z2 : W2.cell? ⟨N0, 2, none⟩ = some (.int .i64 V) := by rw [HW2.out]; exact x2
          have z3 : W2.cell? ⟨N0, 3, none⟩ = some (.int .i64 (P : Int)) := by rw [HW2.out]; exact x3
          clear x0 x1 x2 x3  t0 t1 t2 t3
          go_wp2_with fail
          go_quiet (fail)
          have BX := Lib.hid (show Below w3.heap.size w3 (W2.drewN nq) from bdn (by rw [HW2.out]; exact bdn (hB.out.trans (HBW.out.mono hB.out.size)) _) _)
          clear m0 m1 m2 m3 z0 z1 z2 z3
          go_wp2_with fail
          go_roundw
          case rel => exact ⟨0 + 1, by have := hlt; omega, by first | rfl | go_num, BX⟩
          case measure => first | (simp [intOf]; done) | (simp [intOf]; omega)
        · have hix : 0 = ts.length := by have := HNT.out; omega
          have el1 : l[0] = ⟨0, ⟨#[]⟩, 0, (s.size : Int)⟩ := by simp only [HLE.out]; exact get_end _ _ _ hix _
          have el2 : m[0] = ⟨0, ⟨#[]⟩, 0, ((s.size + c : Nat) : Int)⟩ := by simp only [HME.out]; exact get_end _ _ _ hix _
          rw [el1] at s0 s1 s2 s3
          rw [el2] at t0 t1 t2 t3
          dsimp only at s0 s1 s2 s3 t0 t1 t2 t3
          rw [show ((s.size + c : Nat) : Int) = (s.size : Int) + (c : Int) by omega] at t3
          have dl : decide ((0 : Int) < (n : Int) - 1) = false := decide_eq_false (by have := HNT.out; omega)
          have de : ((0 : Int) == (n : Int) - 1) = true := by rw [beq_iff_eq]; have := HNT.out; omega
          have d1 : decide ((s.size : Int) < 0) = false := decide_eq_false (by omega)
          have d2 : decide ((s.size : Int) < (s.size : Int)) = false := decide_eq_false (by omega)
          have n5 : ((s.size : Int) != (s.size : Int)) = false := by simp
          have n6 : ((s.size : Int) + (c : Int) != (s.size : Int) + (c : Int)) = false := by simp
          obtain rfl : n = 1 := by have := HNT.out; omega
          clear el1 el2 hix hlast
          go_wp2_with fail
          obtain ⟨W, N0, e1, e2, x0, x1, x2, x3, hbW⟩ := laid30 wr 0 ⟨#[]⟩ 0 (s.size : Int)
          rw [e1, e2]
          have HBW := Lib.hid hbW
          have HE2 := Lib.hid e2
          clear hbW e1 e2
          go_quiet (fail)
          obtain ⟨W2, hW2⟩ : ∃ W2, W2 = W.drewN nq := ⟨_, rfl⟩
          rw [← hW2]
          have HW2 := Lib.hid hW2
          clear hW2
          have m0 : W2.cell? ⟨r, o2, none⟩ = some (.int .i64 0) := by rw [HW2.out]; exact (HBW.out.cell (p := ⟨r, _, none⟩) hrw).trans t0
          have m1 : W2.cell? ⟨r, o2 + 1, none⟩ = some (.string ⟨#[]⟩) := by rw [HW2.out]; exact (HBW.out.cell (p := ⟨r, _, none⟩) hrw).trans t1
          have m2 : W2.cell? ⟨r, o2 + 2, none⟩ = some (.int .i64 0) := by rw [HW2.out]; exact (HBW.out.cell (p := ⟨r, _, none⟩) hrw).trans t2
          have m3 : W2.cell? ⟨r, o2 + 3, none⟩ = some (.int .i64 ((s.size : Int) + (c : Int))) := by rw [HW2.out]; exact (HBW.out.cell (p := ⟨r, _, none⟩) hrw).trans t3
          have z0 : W2.cell? ⟨N0, 0, none⟩ = some (.int .i64 0) := by rw [HW2.out]; exact x0
          have z1 : W2.cell? ⟨N0, 1, none⟩ = some (.string ⟨#[]⟩) := by rw [HW2.out]; exact x1
          have z2 : W2.cell? ⟨N0, 2, none⟩ = some (.int .i64 0) := by rw [HW2.out]; exact x2
          have z3 : W2.cell? ⟨N0, 3, none⟩ = some (.int .i64 (s.size : Int)) := by rw [HW2.out]; exact x3
          clear x0 x1 x2 x3  t0 t1 t2 t3
          go_wp2_with fail
          go_quiet (fail)
          have BX := Lib.hid (show Below w3.heap.size w3 (W2.drewN nq) from bdn (by rw [HW2.out]; exact bdn (hB.out.trans (HBW.out.mono hB.out.size)) _) _)
          clear m0 m1 m2 m3 z0 z1 z2 z3
          go_wp2_with fail
          go_roundw
          case rel => exact ⟨1, Nat.le_refl _, rfl, BX⟩
          case measure => first | (simp [intOf]; done) | (simp [intOf]; omega)
      | succ j =>
        have hlt' : (j : Int) + 1 < (n : Int) := by omega
        obtain ⟨g, o1, rfl, hg, s0, s1, s2, s3⟩ := HLa.out (j + 1) hl1
        obtain ⟨r, o2, rfl, hr, t0, t1, t2, t3⟩ := HLb.out (j + 1) hl2
        replace s0 := (hB.out.cell (p := ⟨g, _, none⟩) hg).trans s0
        replace s1 := (hB.out.cell (p := ⟨g, _, none⟩) hg).trans s1
        replace s2 := (hB.out.cell (p := ⟨g, _, none⟩) hg).trans s2
        replace s3 := (hB.out.cell (p := ⟨g, _, none⟩) hg).trans s3
        replace t0 := (hB.out.cell (p := ⟨r, _, none⟩) hr).trans t0
        replace t1 := (hB.out.cell (p := ⟨r, _, none⟩) hr).trans t1
        replace t2 := (hB.out.cell (p := ⟨r, _, none⟩) hr).trans t2
        replace t3 := (hB.out.cell (p := ⟨r, _, none⟩) hr).trans t3
        have hgw : g < wr.heap.size := Nat.lt_of_lt_of_le hg hB.out.size
        have hrw : r < wr.heap.size := Nat.lt_of_lt_of_le hr hB.out.size
        clear hg hr
        have u1 : IntKind.i64.wrap ((n : Int) - 1) = (n : Int) - 1 := IntWalk.i64_in _ (by omega)
        have u2 : IntKind.i64.wrap ((s.size : Int) + (c : Int)) = (s.size : Int) + (c : Int) := IntWalk.i64_in _ (by omega)
        have u3 : IntKind.i64.wrap ((j : Int) + 1 - 1) = (j : Int) := by rw [show (j : Int) + 1 - 1 = j by omega]; exact IntWalk.i64_in _ (by omega)
        have u4 : IntKind.i64.wrap (j : Int) = (j : Int) := IntWalk.i64_in _ (by omega)
        have j0 : (0 : Int) ≤ (j : Int) + 1 := by omega
        have j1 : (j : Int) < (n : Int) := by omega
        have j2 : decide ((0 : Int) < (j : Int) + 1) = true := decide_eq_true (by omega)
        obtain ⟨g', o1', eg, hg', -, -, -, sp⟩ := HLa.out j (by omega)
        injection eg with eg
        injection eg with eg1 eg2 _
        subst eg1 eg2
        replace sp := (hB.out.cell (p := ⟨g, _, none⟩) hg').trans sp
        clear hg'
        by_cases hlast : (j + 1) < ts.length
        · obtain ⟨P, hPe, hP1, hP2, hP3, hP4, hP5, -⟩ := HPl.out.at (j + 1) hlast
          have el1 : l[(j + 1)] = ts[(j + 1)] := by simp only [HLE.out]; exact get_ts _ _ _ hlast _
          have el2 : m[(j + 1)] = ts[(j + 1)] := by simp only [HME.out]; exact get_ts _ _ _ hlast _
          rw [el1] at s0 s1 s2 s3
          rw [el2] at t0 t1 t2 t3
          rw [hPe] at s3 t3
          obtain ⟨Q, hQe, -, -, -, -, -, hQ6⟩ := HPl.out.at j (by omega)
          have hQ7 := hQ6 hlast
          have el3 : l[j] = ts[j] := by simp only [HLE.out]; exact get_ts _ _ _ (by omega) _
          rw [el3] at sp
          rw [hPe] at hQ7
          generalize ts[j].p = D at *
          have d0 : decide ((P : Int) ≤ D) = false := decide_eq_false (by omega)
          clear hQ6 hQ7 hQe el3
          have dl : decide (((j : Int) + 1) < (n : Int) - 1) = true := decide_eq_true (by have := HNT.out; omega)
          have de : (((j : Int) + 1) == (n : Int) - 1) = false := by rw [beq_eq_false_iff_ne]; have := HNT.out; omega
          skip
          skip
          have dl2 : decide ((1 : Int) < (n : Int)) = true := decide_eq_true (by have := HNT.out; omega)
          have d1 : decide ((P : Int) < 0) = false := decide_eq_false (by omega)
          have hPs : P < s.size := by rw [ls_size]; exact hP2
          have d2 : decide ((s.size : Int) < (P : Int)) = false := decide_eq_false (by omega)
          have d2n : decide (s.size < P) = false := decide_eq_false (by omega)
          have d2m : ¬ s.size < P := by omega
          obtain ⟨P', hP'⟩ : ∃ P' : Int, P' = (P : Int) := ⟨_, rfl⟩
          have z1s := cut_l s P (by omega)
          have hpi : (P : Int) ≤ (s.size : Int) := by omega
          have HPR := Lib.hid (fun (h : ts[(j + 1)].k = 1 ∨ ts[(j + 1)].k = 4) => (show Lib.hasPrefix (ls (s.extract P s.size)) (ls ts[(j + 1)].t) = true by
            unfold Lib.hasPrefix
            rw [List.isPrefixOf_iff_prefix, ls_ex, List.take_of_length_le (by rw [List.length_drop, ← ls_size]; exact Nat.le_refl _)]
            exact hP5 h))
          clear el1 el2 hPe hP1 hP2 hP5
          generalize ts[(j + 1)].k = K at *
          generalize ts[(j + 1)].t = T at *
          generalize ts[(j + 1)].v = V at *
          have n3 : (K != 0) = true := by rw [bne_iff_ne]; omega
          subst hP'
          clear hlast
          by_cases k1 : K = 1
          · subst k1
            have HPX := Lib.hid (fun w => Tryd.strings_HasPrefix (s.extract P s.size) T w)
            rw [show Lib.hasPrefix (s.extract P s.size).data.toList T.data.toList = true from HPR.out (.inl rfl)] at HPX
            clear HPR hP3 hP4
            go_wp2_with fail
            obtain ⟨W, N0, e1, e2, x0, x1, x2, x3, hbW⟩ := laid30 wr 1 T V (P : Int)
            rw [e1, e2]
            have HBW := Lib.hid hbW
            have HE2 := Lib.hid e2
            have y3 : W.cell? ⟨g, o1 + j * 4 + 3, none⟩ = some (.int .i64 D) := (hbW.cell (p := ⟨g, _, none⟩) hgw).trans sp
            clear hbW e1 e2
            go_quiet ((go_at_call 28; exact Calls.quiet_of_same (HPX.out _)))
            obtain ⟨W2, hW2⟩ : ∃ W2, W2 = W.drewN nq := ⟨_, rfl⟩
            rw [← hW2]
            have HW2 := Lib.hid hW2
            clear hW2
            have m0 : W2.cell? ⟨r, o2 + (j + 1) * 4, none⟩ = some (.int .i64 1) := by rw [HW2.out]; exact (HBW.out.cell (p := ⟨r, _, none⟩) hrw).trans t0
            have m1 : W2.cell? ⟨r, o2 + (j + 1) * 4 + 1, none⟩ = some (.string T) := by rw [HW2.out]; exact (HBW.out.cell (p := ⟨r, _, none⟩) hrw).trans t1
            have m2 : W2.cell? ⟨r, o2 + (j + 1) * 4 + 2, none⟩ = some (.int .i64 V) := by rw [HW2.out]; exact (HBW.out.cell (p := ⟨r, _, none⟩) hrw).trans t2
            have m3 : W2.cell? ⟨r, o2 + (j + 1) * 4 + 3, none⟩ = some (.int .i64 (P : Int)) := by rw [HW2.out]; exact (HBW.out.cell (p := ⟨r, _, none⟩) hrw).trans t3
            have z0 : W2.cell? ⟨N0, 0, none⟩ = some (.int .i64 1) := by rw [HW2.out]; exact x0
            have z1 : W2.cell? ⟨N0, 1, none⟩ = some (.string T) := by rw [HW2.out]; exact x1
            have z2 : W2.cell? ⟨N0, 2, none⟩ = some (.int .i64 V) := by rw [HW2.out]; exact x2
            have z3 : W2.cell? ⟨N0, 3, none⟩ = some (.int .i64 (P : Int)) := by rw [HW2.out]; exact x3
            clear x0 x1 x2 x3 y3 sp t0 t1 t2 t3
            go_wp2_with fail
            go_quiet (fail)
            have BX := Lib.hid (show Below w3.heap.size w3 (W2.drewN nq) from bdn (by rw [HW2.out]; exact bdn (hB.out.trans (HBW.out.mono hB.out.size)) _) _)
            clear m0 m1 m2 m3 z0 z1 z2 z3
            go_wp2_with fail
            go_roundw
            case rel => exact ⟨(j + 1) + 1, by have := hlt; omega, by first | rfl | go_num, BX⟩
            case measure => first | (simp [intOf]; done) | (simp [intOf]; omega)
          by_cases k4 : K = 4
          · subst k4
            have HPX := Lib.hid (fun w => Tryd.strings_HasPrefix (s.extract P s.size) T w)
            rw [show Lib.hasPrefix (s.extract P s.size).data.toList T.data.toList = true from HPR.out (.inr rfl)] at HPX
            clear HPR hP3 hP4 k1
            go_wp2_with fail
            obtain ⟨W, N0, e1, e2, x0, x1, x2, x3, hbW⟩ := laid30 wr 4 T V (P : Int)
            rw [e1, e2]
            have HBW := Lib.hid hbW
            have HE2 := Lib.hid e2
            have y3 : W.cell? ⟨g, o1 + j * 4 + 3, none⟩ = some (.int .i64 D) := (hbW.cell (p := ⟨g, _, none⟩) hgw).trans sp
            clear hbW e1 e2
            go_quiet ((go_at_call 28; exact Calls.quiet_of_same (HPX.out _)))
            obtain ⟨W2, hW2⟩ : ∃ W2, W2 = W.drewN nq := ⟨_, rfl⟩
            rw [← hW2]
            have HW2 := Lib.hid hW2
            clear hW2
            have m0 : W2.cell? ⟨r, o2 + (j + 1) * 4, none⟩ = some (.int .i64 4) := by rw [HW2.out]; exact (HBW.out.cell (p := ⟨r, _, none⟩) hrw).trans t0
            have m1 : W2.cell? ⟨r, o2 + (j + 1) * 4 + 1, none⟩ = some (.string T) := by rw [HW2.out]; exact (HBW.out.cell (p := ⟨r, _, none⟩) hrw).trans t1
            have m2 : W2.cell? ⟨r, o2 + (j + 1) * 4 + 2, none⟩ = some (.int .i64 V) := by rw [HW2.out]; exact (HBW.out.cell (p := ⟨r, _, none⟩) hrw).trans t2
            have m3 : W2.cell? ⟨r, o2 + (j + 1) * 4 + 3, none⟩ = some (.int .i64 (P : Int)) := by rw [HW2.out]; exact (HBW.out.cell (p := ⟨r, _, none⟩) hrw).trans t3
            have z0 : W2.cell? ⟨N0, 0, none⟩ = some (.int .i64 4) := by rw [HW2.out]; exact x0
            have z1 : W2.cell? ⟨N0, 1, none⟩ = some (.string T) := by rw [HW2.out]; exact x1
            have z2 : W2.cell? ⟨N0, 2, none⟩ = some (.int .i64 V) := by rw [HW2.out]; exact x2
            have z3 : W2.cell? ⟨N0, 3, none⟩ = some (.int .i64 (P : Int)) := by rw [HW2.out]; exact x3
            clear x0 x1 x2 x3 y3 sp t0 t1 t2 t3
            go_wp2_with fail
            go_quiet (fail)
            have BX := Lib.hid (show Below w3.heap.size w3 (W2.drewN nq) from bdn (by rw [HW2.out]; exact bdn (hB.out.trans (HBW.out.mono hB.out.size)) _) _)
            clear m0 m1 m2 m3 z0 z1 z2 z3
            go_wp2_with fail
            go_roundw
            case rel => exact ⟨(j + 1) + 1, by have := hlt; omega, by first | rfl | go_num, BX⟩
            case measure => first | (simp [intOf]; done) | (simp [intOf]; omega)
          have q1 : (K == 1) = false := by rw [beq_eq_false_iff_ne]; exact k1
          have q4 : (K == 4) = false := by rw [beq_eq_false_iff_ne]; exact k4
          clear HPR hP3 hP4 k1 k4
          go_wp2_with fail
          obtain ⟨W, N0, e1, e2, x0, x1, x2, x3, hbW⟩ := laid30 wr K T V (P : Int)
          rw [e1, e2]
          have HBW := Lib.hid hbW
          have HE2 := Lib.hid e2
          have y3 : W.cell? ⟨g, o1 + j * 4 + 3, none⟩ = some (.int .i64 D) := (hbW.cell (p := ⟨g, _, none⟩) hgw).trans sp
          clear hbW e1 e2
          go_quiet (fail)
          obtain ⟨W2, hW2⟩ : ∃ W2, W2 = W.drewN nq := ⟨_, rfl⟩
          rw [← hW2]
          have HW2 := Lib.hid hW2
          clear hW2
          have m0 : W2.cell? ⟨r, o2 + (j + 1) * 4, none⟩ = some (.int .i64 K) := by rw [HW2.out]; exact (HBW.out.cell (p := ⟨r, _, none⟩) hrw).trans t0
          have m1 : W2.cell? ⟨r, o2 + (j + 1) * 4 + 1, none⟩ = some (.string T) := by rw [HW2.out]; exact (HBW.out.cell (p := ⟨r, _, none⟩) hrw).trans t1
          have m2 : W2.cell? ⟨r, o2 + (j + 1) * 4 + 2, none⟩ = some (.int .i64 V) := by rw [HW2.out]; exact (HBW.out.cell (p := ⟨r, _, none⟩) hrw).trans t2
          have m3 : W2.cell? ⟨r, o2 + (j + 1) * 4 + 3, none⟩ = some (.int .i64 (P : Int)) := by rw [HW2.out]; exact (HBW.out.cell (p := ⟨r, _, none⟩) hrw).trans t3
          have z0 : W2.cell? ⟨N0, 0, none⟩ = some (.int .i64 K) := by rw [HW2.out]; exact x0
          have z1 : W2.cell? ⟨N0, 1, none⟩ = some (.string T) := by rw [HW2.out]; exact x1
          have z2 : W2.cell? ⟨N0, 2, none⟩ = some (.int .i64 V) := by rw [HW2.out]; exact x2
          have z3 : W2.cell? ⟨N0, 3, none⟩ = some (.int .i64 (P : Int)) := by rw [HW2.out]; exact x3
          clear x0 x1 x2 x3 y3 sp t0 t1 t2 t3
          go_wp2_with fail
          go_quiet (fail)
          have BX := Lib.hid (show Below w3.heap.size w3 (W2.drewN nq) from bdn (by rw [HW2.out]; exact bdn (hB.out.trans (HBW.out.mono hB.out.size)) _) _)
          clear m0 m1 m2 m3 z0 z1 z2 z3
          go_wp2_with fail
          go_roundw
          case rel => exact ⟨(j + 1) + 1, by have := hlt; omega, by first | rfl | go_num, BX⟩
          case measure => first | (simp [intOf]; done) | (simp [intOf]; omega)
        · have hix : (j + 1) = ts.length := by have := HNT.out; omega
          have el1 : l[(j + 1)] = ⟨0, ⟨#[]⟩, 0, (s.size : Int)⟩ := by simp only [HLE.out]; exact get_end _ _ _ hix _
          have el2 : m[(j + 1)] = ⟨0, ⟨#[]⟩, 0, ((s.size + c : Nat) : Int)⟩ := by simp only [HME.out]; exact get_end _ _ _ hix _
          rw [el1] at s0 s1 s2 s3
          rw [el2] at t0 t1 t2 t3
          dsimp only at s0 s1 s2 s3 t0 t1 t2 t3
          rw [show ((s.size + c : Nat) : Int) = (s.size : Int) + (c : Int) by omega] at t3
          obtain ⟨Q, hQe, -, hQ3, -, -, -, -⟩ := HPl.out.at j (by omega)
          have el3 : l[j] = ts[j] := by simp only [HLE.out]; exact get_ts _ _ _ (by omega) _
          rw [el3] at sp
          have hQs : Q < s.size := by rw [ls_size]; exact hQ3
          rw [hQe] at sp
          obtain ⟨D, hD⟩ : ∃ D : Int, D = (Q : Int) := ⟨_, rfl⟩
          rw [← hD] at sp
          have d0 : decide ((s.size : Int) ≤ D) = false := decide_eq_false (by omega)
          clear hQe el3 hD hQ3 hQs
          have dl : decide (((j : Int) + 1) < (n : Int) - 1) = false := decide_eq_false (by have := HNT.out; omega)
          have de : (((j : Int) + 1) == (n : Int) - 1) = true := by rw [beq_iff_eq]; have := HNT.out; omega
          have d1 : decide ((s.size : Int) < 0) = false := decide_eq_false (by omega)
          have d2 : decide ((s.size : Int) < (s.size : Int)) = false := decide_eq_false (by omega)
          have n5 : ((s.size : Int) != (s.size : Int)) = false := by simp
          have n6 : ((s.size : Int) + (c : Int) != (s.size : Int) + (c : Int)) = false := by simp
          skip
          clear el1 el2 hix hlast
          go_wp2_with fail
          obtain ⟨W, N0, e1, e2, x0, x1, x2, x3, hbW⟩ := laid30 wr 0 ⟨#[]⟩ 0 (s.size : Int)
          rw [e1, e2]
          have HBW := Lib.hid hbW
          have HE2 := Lib.hid e2
          have y3 : W.cell? ⟨g, o1 + j * 4 + 3, none⟩ = some (.int .i64 D) := (hbW.cell (p := ⟨g, _, none⟩) hgw).trans sp
          clear hbW e1 e2
          go_quiet (fail)
          obtain ⟨W2, hW2⟩ : ∃ W2, W2 = W.drewN nq := ⟨_, rfl⟩
          rw [← hW2]
          have HW2 := Lib.hid hW2
          clear hW2
          have m0 : W2.cell? ⟨r, o2 + (j + 1) * 4, none⟩ = some (.int .i64 0) := by rw [HW2.out]; exact (HBW.out.cell (p := ⟨r, _, none⟩) hrw).trans t0
          have m1 : W2.cell? ⟨r, o2 + (j + 1) * 4 + 1, none⟩ = some (.string ⟨#[]⟩) := by rw [HW2.out]; exact (HBW.out.cell (p := ⟨r, _, none⟩) hrw).trans t1
          have m2 : W2.cell? ⟨r, o2 + (j + 1) * 4 + 2, none⟩ = some (.int .i64 0) := by rw [HW2.out]; exact (HBW.out.cell (p := ⟨r, _, none⟩) hrw).trans t2
          have m3 : W2.cell? ⟨r, o2 + (j + 1) * 4 + 3, none⟩ = some (.int .i64 ((s.size : Int) + (c : Int))) := by rw [HW2.out]; exact (HBW.out.cell (p := ⟨r, _, none⟩) hrw).trans t3
          have z0 : W2.cell? ⟨N0, 0, none⟩ = some (.int .i64 0) := by rw [HW2.out]; exact x0
          have z1 : W2.cell? ⟨N0, 1, none⟩ = some (.string ⟨#[]⟩) := by rw [HW2.out]; exact x1
          have z2 : W2.cell? ⟨N0, 2, none⟩ = some (.int .i64 0) := by rw [HW2.out]; exact x2
          have z3 : W2.cell? ⟨N0, 3, none⟩ = some (.int .i64 (s.size : Int)) := by rw [HW2.out]; exact x3
          clear x0 x1 x2 x3 y3 sp t0 t1 t2 t3
          go_wp2_with fail
          go_quiet (fail)
          have BX := Lib.hid (show Below w3.heap.size w3 (W2.drewN nq) from bdn (by rw [HW2.out]; exact bdn (hB.out.trans (HBW.out.mono hB.out.size)) _) _)
          clear m0 m1 m2 m3 z0 z1 z2 z3
          go_wp2_with fail
          go_roundw
          case rel => exact ⟨(j + 1) + 1, by have := hlt; omega, by first | rfl | go_num, BX⟩
          case measure => first | (simp [intOf]; done) | (simp [intOf]; omega)
    · have hge : ¬ (k : Int) < (n : Int) := by omega
      have B4 := Lib.hid (below_call B3.out hB.out)
      clear hlt
      go_wp2_with fail
      refine (HAW.out _ (HT.out.call B4.out)).mono ?_
      rintro e wz ⟨rfl, hbz⟩
      have BZ := Lib.hid (below_call B4.out hbz)
      clear hbz
      go_wp2_with fail
      go_ret
      exact ⟨rfl, BZ.out⟩
end Go.Proofs.YtikmaljhfckbgaaDoor
