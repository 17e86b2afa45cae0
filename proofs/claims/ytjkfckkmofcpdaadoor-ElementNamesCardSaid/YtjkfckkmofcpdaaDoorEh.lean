/- The walk of ElementNames. -/
import Derived.Test.YtjkfckkmofcpdaaDoorEg
set_option linter.unusedVariables false
set_option linter.unusedSimpArgs false
namespace Go.Proofs.YtjkfckkmofcpdaaDoor
open Go.Sort Go.ChangeShapes Go.WideShapes Go.ChangeAt Go.RowKit
theorem fd_le (n : Int) : ∀ f i, fd n f i ≤ i + f := by
  intro f
  induction f with
  | zero => intro i; exact Nat.le_refl _
  | succ f ih =>
    intro i
    unfold fd
    split
    · omega
    · have := ih (i + 1); omega
theorem fd_num (n : Int) : ∀ f i, fd n f i < i + f → dn (fd n f i) = n := by
  intro f
  induction f with
  | zero => intro i h; exact absurd h (by unfold fd; omega)
  | succ f ih =>
    intro i h
    unfold fd at h ⊢
    by_cases he : dn i = n
    · rw [if_pos he]; exact he
    · rw [if_neg he] at h ⊢
      exact ih (i + 1) (by omega)
theorem fdI_num {n : Int} (h : fdI n < 23) : dn (fdI n) = n := fd_num n 23 0 h
theorem nm_own (i : Nat) (h : i < 23) : fmI (dnm i) = i ∧ 2 ≤ dn i ∧ dn i ≤ 128 := by
  have key : ∀ k : Fin 23, fmI (dnm k.val) = k.val ∧ 2 ≤ dn k.val ∧ dn k.val ≤ 128 := by decide +kernel
  exact key ⟨i, h⟩
def rqP (l : List Int) : Bool := decide (l.length ≤ 11) && (decide (∀ i, i < l.length → fdI (l.getD i 0) < 23) && decide (∀ j, j < l.length - 1 → l.getD j 0 < l.getD (j + 1) 0))
theorem rq_p (k : Int) : rqP (rqL k) = true := by
  unfold rqL
  repeat' split
  all_goals (rename_i h; first | decide +kernel | (clear h; decide +kernel) | rfl)
theorem rq_all (k : Int) : (rqL k).length ≤ 11 ∧ ∀ (i : Nat) (h : i < (rqL k).length), fdI (rqL k)[i] < 23 ∧ ∀ (j : Nat) (hj : i = j + 1), ¬ ((rqL k)[i] ≤ (rqL k)[j]'(by omega)) := by
  have h := rq_p k
  unfold rqP at h
  rw [Bool.and_eq_true, Bool.and_eq_true, decide_eq_true_iff, decide_eq_true_iff, decide_eq_true_iff] at h
  obtain ⟨h1, h2, h3⟩ := h
  refine ⟨h1, fun i hi => ?_⟩
  have e : ∀ (i : Nat) (hi : i < (rqL k).length), (rqL k).getD i 0 = (rqL k)[i] := fun i hi => by rw [List.getD_eq_getElem?_getD, List.getElem?_eq_getElem hi]; rfl
  refine ⟨by rw [← e i hi]; exact h2 i hi, fun j hj => ?_⟩
  subst hj
  have := h3 j (by omega)
  rw [e (j + 1) hi, e j (by omega)] at this
  omega
set_option maxHeartbeats 8000000 in
set_option maxRecDepth 20000 in
theorem names_no (a b kd : Int) (ok : Bool) (w : World) (hX : DT w) (hT : TabP w) (L : List Int) (x0 x2 x3 x4 y0 y2 y3 y4 : Int) (x1 y1 : ByteArray) (hLn : L.length ≤ 11)
    (HL : Hid (∀ (i : Nat) (h : i < L.length), fdI L[i] < 23 ∧ ∀ (j : Nat) (hj : i = j + 1), ¬ (L[i] ≤ L[j]'(by omega))))
    (HR : Hid (∀ w, Calls Tryd.prog 16 #[.int .i64 kd] w fun e w' => ∃ v, e = .returned v ∧ Ints w' v L ∧ Below w.heap.size w w'))
    (HFa : Hid (∀ w, DT w → Calls Tryd.prog 9 #[.int .i64 a] w fun e w' => e = .returned (.tuple #[.agg #[.int .i64 x0, .string x1, .int .i64 x2, .int .i64 x3, .int .i64 x4], .bool false]) ∧ Below w.heap.size w w'))
    (HFb : Hid (∀ w, DT w → Calls Tryd.prog 9 #[.int .i64 b] w fun e w' => e = .returned (.tuple #[.agg #[.int .i64 y0, .string y1, .int .i64 y2, .int .i64 y3, .int .i64 y4], .bool ok]) ∧ Below w.heap.size w w'))
     : Calls Tryd.prog 8 #[.int .i64 a, .int .i64 b, .int .i64 kd] w fun e w' => e = .returned (.bool true) ∧ Below w.heap.size w w' := by
  have HX := Lib.hid hX
  have HT := Lib.hid hT
  have HA := Lib.hid awake_any
  have HF := Lib.hid (fun n w h => find_any n w h)
  clear hX hT
  go_enter Tryd.func8, Tryd.ntmps8
  go_wp2_with fail
  refine (HFa.out _ HX.out).mono ?_
  rintro e w1 ⟨rfl, hb⟩
  have B1 := Lib.hid (hb.alloc hb.size (.cells #[.int .i64 x0, .string x1, .int .i64 x2, .int .i64 x3, .int .i64 x4] 23))
  have N1 := Lib.hid (Blk.new w1 23 #[.int .i64 x0, .string x1, .int .i64 x2, .int .i64 x3, .int .i64 x4])
  clear hb
  go_wp2_with fail
  refine (HFb.out _ (HX.out.call B1.out)).mono ?_
  rintro e w2 ⟨rfl, hb⟩
  have B2b := Lib.hid (below_call B1.out hb)
  have N1b := Lib.hid ((N1.out.call hb).alloc (.cells #[.int .i64 y0, .string y1, .int .i64 y2, .int .i64 y3, .int .i64 y4] 23))
  have N2 := Lib.hid (Blk.new w2 23 #[.int .i64 y0, .string y1, .int .i64 y2, .int .i64 y3, .int .i64 y4])
  have B2 := Lib.hid (B2b.out.alloc B2b.out.size (.cells #[.int .i64 y0, .string y1, .int .i64 y2, .int .i64 y3, .int .i64 y4] 23))
  have xs0 : w2.cell? ⟨w1.heap.size, 0, none⟩ = some (.int .i64 x0) := (N1.out.call hb).cell 0
  have xs1 : w2.cell? ⟨w1.heap.size, 1, none⟩ = some (.string x1) := (N1.out.call hb).cell 1
  have xl := (N1.out.call hb).lt
  clear hb
  go_wp2_with fail
  refine (HR.out _).mono ?_
  rintro e w5 ⟨v, rfl, hi, hb⟩
  obtain ⟨A, c, rfl, hc, hI⟩ := hi.o
  have HI := Lib.hid hI
  have B5 := Lib.hid (below_call (B2.out) hb)
  have hcc : (L.length : Int) ≤ 11 := by omega
  clear hi hI hb
  go_wp2_with fail
  go_loopw [14] (fun y wr => ∃ i : Nat, Hid (i ≤ L.length) ∧ y = .int .i64 i ∧ Hid (Below w.heap.size w wr) ∧ Hid (IntO wr A L)) (fun y _ => L.length - (intOf y).toNat)
  case atStart => exact ⟨0, Lib.hid (Nat.zero_le _), rfl, B5, HI⟩
  case round =>
    obtain ⟨i, hi, rfl, hB, hO⟩ := hrel
    have hi1 := hi.out
    by_cases hik : i < L.length
    · have hlt : (i : Int) < (L.length : Int) := by omega
      obtain ⟨g, rfl, hg, c0⟩ := hO.out i hik
      obtain ⟨hf, hs⟩ := HL.out i hik
      have hle1 : Hid (i + 1 ≤ L.length) := Lib.hid (by omega)
      obtain ⟨K, hK⟩ : ∃ K, K = L[i] := ⟨_, rfl⟩
      have hf2 : fdI K < 23 := by rw [hK]; exact hf
      have c02 : wr.cell? ⟨g, i, none⟩ = some (.int .i64 K) := by rw [hK]; exact c0
      have hs2 : ∀ (j : Nat) (hj : i = j + 1), L[j]'(by omega) < K := by rw [hK]; exact hs
      clear hf c0 hs hK
      have hf := hf2
      have c0 := c02
      have hs := hs2
      clear hf2 c02 hs2
      have HF3 := Lib.hid (HF.out K wr (HX.out.call hB.out))
      simp only [decide_eq_true hf] at HF3
      dsimp only [spA] at HF3
      have HG := Lib.hid hg
      cases i with
      | zero =>
        have C0 := Lib.hid c0
        clear hs hf
        generalize fdI K = q at *
        generalize dn q = z0 at *
        generalize dnm q = z1 at *
        generalize dk q = z2 at *
        generalize dl q = z3 at *
        generalize dv q = z4 at *
        go_wp2_with fail
        refine HF3.out.mono ?_
        rintro e u1 ⟨rfl, hb⟩
        have B6 := Lib.hid (below_call hB.out hb)
        have hg2 : g < u1.heap.size := Nat.lt_of_lt_of_le HG.out hb.size
        have s0 : u1.cell? ⟨g, 0, none⟩ = some (.int .i64 K) := (hb.cell (p := ⟨g, 0, none⟩) HG.out).trans C0.out
        have HO2 := Lib.hid (show IntO u1 (some ⟨g, 0, none⟩) L from fun j hj => by
          obtain ⟨g', e, hg', hc'⟩ := hO.out j hj
          exact ⟨g', e, Nat.lt_of_lt_of_le hg' hb.size, (hb.cell (p := ⟨g', j, none⟩) hg').trans hc'⟩)
        clear hb c0 hg
        go_wp2_with fail
        try go_quiet (fail)
        go_wp2_with fail
        go_roundw
        case rel => exact ⟨0 + 1, hle1, by go_num, Lib.hid (by first | exact (bdn (B6.out.alloc B6.out.size _) _) | exact B6.out.alloc B6.out.size _), Lib.hid (fun j hj => by
          obtain ⟨g', e, hg', hc'⟩ := HO2.out j hj
          exact ⟨g', e, by simp; omega, (Below.cell ((Below.refl u1.heap.size u1).alloc (Nat.le_refl _) _) (p := ⟨g', j, none⟩) hg').trans hc'⟩)⟩
        case measure => have := hle1.out; simp [intOf]; omega
      | succ j =>
        have hj := hs j rfl
        obtain ⟨g', e', hg', d0⟩ := hO.out j (by omega)
        injection e' with e'
        injection e' with e' _
        subst e'
        have C0 := Lib.hid c0
        have D0 := Lib.hid d0
        clear hs hf
        generalize L[j] = M at *
        have hd : decide (K ≤ M) = false := decide_eq_false (by omega)
        generalize fdI K = q at *
        generalize dn q = z0 at *
        generalize dnm q = z1 at *
        generalize dk q = z2 at *
        generalize dl q = z3 at *
        generalize dv q = z4 at *
        have hp : decide ((0 : Int) < ((j + 1 : Nat) : Int)) = true := decide_eq_true (by omega)
        go_wp2_with fail
        refine HF3.out.mono ?_
        rintro e u1 ⟨rfl, hb⟩
        have B6 := Lib.hid (below_call hB.out hb)
        have hg2 : g < u1.heap.size := Nat.lt_of_lt_of_le HG.out hb.size
        have s0 : u1.cell? ⟨g, j + 1, none⟩ = some (.int .i64 K) := (hb.cell (p := ⟨g, j + 1, none⟩) HG.out).trans C0.out
        have t0 : u1.cell? ⟨g, j, none⟩ = some (.int .i64 M) := (hb.cell (p := ⟨g, j, none⟩) HG.out).trans D0.out
        have HO2 := Lib.hid (show IntO u1 (some ⟨g, 0, none⟩) L from fun j hj => by
          obtain ⟨g', e, hg', hc'⟩ := hO.out j hj
          exact ⟨g', e, Nat.lt_of_lt_of_le hg' hb.size, (hb.cell (p := ⟨g', j, none⟩) hg').trans hc'⟩)
        clear hb c0 d0 hg hg'
        go_wp2_with fail
        try go_quiet (fail)
        go_wp2_with fail
        go_roundw
        case rel => exact ⟨j + 1 + 1, hle1, by go_num, Lib.hid (by first | exact (bdn (B6.out.alloc B6.out.size _) _) | exact B6.out.alloc B6.out.size _), Lib.hid (fun j hj => by
          obtain ⟨g', e, hg', hc'⟩ := HO2.out j hj
          exact ⟨g', e, by simp; omega, (Below.cell ((Below.refl u1.heap.size u1).alloc (Nat.le_refl _) _) (p := ⟨g', j, none⟩) hg').trans hc'⟩)⟩
        case measure => have := hle1.out; simp [intOf]; omega
    · have hge : ¬ (i : Int) < (L.length : Int) := by omega
      have HX9 := Lib.hid (HX.out.call hB.out)
      have HT9 := Lib.hid (HT.out.call hB.out)
      go_wp2_with fail
      refine (HA.out _ HX9.out HT9.out).mono ?_
      rintro e w9 ⟨rfl, hb⟩
      have HB9 := Lib.hid (below_call hB.out hb)
      clear hb
      go_wp2_with fail
      go_ret
      exact ⟨rfl, HB9.out⟩
set_option maxHeartbeats 8000000 in
set_option maxRecDepth 20000 in
theorem names_one (a b kd : Int) (w : World) (hX : DT w) (hT : TabP w) (L : List Int) (x0 x2 x3 x4 y0 y2 y3 y4 : Int) (x1 y1 : ByteArray) (hLn : L.length ≤ 11)
    (HL : Hid (∀ (i : Nat) (h : i < L.length), fdI L[i] < 23 ∧ ∀ (j : Nat) (hj : i = j + 1), ¬ (L[i] ≤ L[j]'(by omega))))
    (HR : Hid (∀ w, Calls Tryd.prog 16 #[.int .i64 kd] w fun e w' => ∃ v, e = .returned v ∧ Ints w' v L ∧ Below w.heap.size w w'))
    (HFa : Hid (∀ w, DT w → Calls Tryd.prog 9 #[.int .i64 a] w fun e w' => e = .returned (.tuple #[.agg #[.int .i64 x0, .string x1, .int .i64 x2, .int .i64 x3, .int .i64 x4], .bool true]) ∧ Below w.heap.size w w'))
    (HFb : Hid (∀ w, DT w → Calls Tryd.prog 9 #[.int .i64 b] w fun e w' => e = .returned (.tuple #[.agg #[.int .i64 y0, .string y1, .int .i64 y2, .int .i64 y3, .int .i64 y4], .bool false]) ∧ Below w.heap.size w w'))
    (hxa : x0 = a) (ha1 : 2 ≤ a) (ha2 : a ≤ 128) (HBN : Hid (∀ w, DT w → Calls Tryd.prog 11 #[.string x1] w fun e w' => e = .returned (.tuple #[.int .i64 a, .bool true]) ∧ Below w.heap.size w w')) : Calls Tryd.prog 8 #[.int .i64 a, .int .i64 b, .int .i64 kd] w fun e w' => e = .returned (.bool true) ∧ Below w.heap.size w w' := by
  have HX := Lib.hid hX
  have HT := Lib.hid hT
  have HA := Lib.hid awake_any
  have HF := Lib.hid (fun n w h => find_any n w h)
  subst hxa
  have f1 : (x0 != x0) = false := by simp
  have f2 : decide (x0 < 2) = false := decide_eq_false (by omega)
  have f3 : decide (128 < x0) = false := decide_eq_false (by omega)
  clear hX hT
  go_enter Tryd.func8, Tryd.ntmps8
  go_wp2_with fail
  refine (HFa.out _ HX.out).mono ?_
  rintro e w1 ⟨rfl, hb⟩
  have B1 := Lib.hid (hb.alloc hb.size (.cells #[.int .i64 x0, .string x1, .int .i64 x2, .int .i64 x3, .int .i64 x4] 23))
  have N1 := Lib.hid (Blk.new w1 23 #[.int .i64 x0, .string x1, .int .i64 x2, .int .i64 x3, .int .i64 x4])
  clear hb
  go_wp2_with fail
  refine (HFb.out _ (HX.out.call B1.out)).mono ?_
  rintro e w2 ⟨rfl, hb⟩
  have B2b := Lib.hid (below_call B1.out hb)
  have N1b := Lib.hid ((N1.out.call hb).alloc (.cells #[.int .i64 y0, .string y1, .int .i64 y2, .int .i64 y3, .int .i64 y4] 23))
  have N2 := Lib.hid (Blk.new w2 23 #[.int .i64 y0, .string y1, .int .i64 y2, .int .i64 y3, .int .i64 y4])
  have B2 := Lib.hid (B2b.out.alloc B2b.out.size (.cells #[.int .i64 y0, .string y1, .int .i64 y2, .int .i64 y3, .int .i64 y4] 23))
  have xs0 : w2.cell? ⟨w1.heap.size, 0, none⟩ = some (.int .i64 x0) := (N1.out.call hb).cell 0
  have xs1 : w2.cell? ⟨w1.heap.size, 1, none⟩ = some (.string x1) := (N1.out.call hb).cell 1
  have xl := (N1.out.call hb).lt
  clear hb
  go_wp2_with fail
  refine (HBN.out _ (HX.out.call B2.out)).mono ?_
  rintro e w3 ⟨rfl, hb⟩
  have B3 := Lib.hid (below_call B2.out hb)
  have xt0 : w3.cell? ⟨w1.heap.size, 0, none⟩ = some (.int .i64 x0) := (N1b.out.call hb).cell 0
  have xt1 : w3.cell? ⟨w1.heap.size, 1, none⟩ = some (.string x1) := (N1b.out.call hb).cell 1
  have yt1 : w3.cell? ⟨w2.heap.size, 1, none⟩ = some (.string y1) := (N2.out.call hb).cell 1
  have xl2 := (N1b.out.call hb).lt
  have yl2 := (N2.out.call hb).lt
  clear hb
  go_wp2_with fail
  refine (HR.out _).mono ?_
  rintro e w5 ⟨v, rfl, hi, hb⟩
  obtain ⟨A, c, rfl, hc, hI⟩ := hi.o
  have HI := Lib.hid hI
  have B5 := Lib.hid (below_call (B3.out) hb)
  have hcc : (L.length : Int) ≤ 11 := by omega
  clear hi hI hb
  go_wp2_with fail
  go_loopw [14] (fun y wr => ∃ i : Nat, Hid (i ≤ L.length) ∧ y = .int .i64 i ∧ Hid (Below w.heap.size w wr) ∧ Hid (IntO wr A L)) (fun y _ => L.length - (intOf y).toNat)
  case atStart => exact ⟨0, Lib.hid (Nat.zero_le _), rfl, B5, HI⟩
  case round =>
    obtain ⟨i, hi, rfl, hB, hO⟩ := hrel
    have hi1 := hi.out
    by_cases hik : i < L.length
    · have hlt : (i : Int) < (L.length : Int) := by omega
      obtain ⟨g, rfl, hg, c0⟩ := hO.out i hik
      obtain ⟨hf, hs⟩ := HL.out i hik
      have hle1 : Hid (i + 1 ≤ L.length) := Lib.hid (by omega)
      obtain ⟨K, hK⟩ : ∃ K, K = L[i] := ⟨_, rfl⟩
      have hf2 : fdI K < 23 := by rw [hK]; exact hf
      have c02 : wr.cell? ⟨g, i, none⟩ = some (.int .i64 K) := by rw [hK]; exact c0
      have hs2 : ∀ (j : Nat) (hj : i = j + 1), L[j]'(by omega) < K := by rw [hK]; exact hs
      clear hf c0 hs hK
      have hf := hf2
      have c0 := c02
      have hs := hs2
      clear hf2 c02 hs2
      have HF3 := Lib.hid (HF.out K wr (HX.out.call hB.out))
      simp only [decide_eq_true hf] at HF3
      dsimp only [spA] at HF3
      have HG := Lib.hid hg
      cases i with
      | zero =>
        have C0 := Lib.hid c0
        clear hs hf
        generalize fdI K = q at *
        generalize dn q = z0 at *
        generalize dnm q = z1 at *
        generalize dk q = z2 at *
        generalize dl q = z3 at *
        generalize dv q = z4 at *
        go_wp2_with fail
        refine HF3.out.mono ?_
        rintro e u1 ⟨rfl, hb⟩
        have B6 := Lib.hid (below_call hB.out hb)
        have hg2 : g < u1.heap.size := Nat.lt_of_lt_of_le HG.out hb.size
        have s0 : u1.cell? ⟨g, 0, none⟩ = some (.int .i64 K) := (hb.cell (p := ⟨g, 0, none⟩) HG.out).trans C0.out
        have HO2 := Lib.hid (show IntO u1 (some ⟨g, 0, none⟩) L from fun j hj => by
          obtain ⟨g', e, hg', hc'⟩ := hO.out j hj
          exact ⟨g', e, Nat.lt_of_lt_of_le hg' hb.size, (hb.cell (p := ⟨g', j, none⟩) hg').trans hc'⟩)
        clear hb c0 hg
        go_wp2_with fail
        try go_quiet (fail)
        go_wp2_with fail
        go_roundw
        case rel => exact ⟨0 + 1, hle1, by go_num, Lib.hid (by first | exact (bdn (B6.out.alloc B6.out.size _) _) | exact B6.out.alloc B6.out.size _), Lib.hid (fun j hj => by
          obtain ⟨g', e, hg', hc'⟩ := HO2.out j hj
          exact ⟨g', e, by simp; omega, (Below.cell ((Below.refl u1.heap.size u1).alloc (Nat.le_refl _) _) (p := ⟨g', j, none⟩) hg').trans hc'⟩)⟩
        case measure => have := hle1.out; simp [intOf]; omega
      | succ j =>
        have hj := hs j rfl
        obtain ⟨g', e', hg', d0⟩ := hO.out j (by omega)
        injection e' with e'
        injection e' with e' _
        subst e'
        have C0 := Lib.hid c0
        have D0 := Lib.hid d0
        clear hs hf
        generalize L[j] = M at *
        have hd : decide (K ≤ M) = false := decide_eq_false (by omega)
        generalize fdI K = q at *
        generalize dn q = z0 at *
        generalize dnm q = z1 at *
        generalize dk q = z2 at *
        generalize dl q = z3 at *
        generalize dv q = z4 at *
        have hp : decide ((0 : Int) < ((j + 1 : Nat) : Int)) = true := decide_eq_true (by omega)
        go_wp2_with fail
        refine HF3.out.mono ?_
        rintro e u1 ⟨rfl, hb⟩
        have B6 := Lib.hid (below_call hB.out hb)
        have hg2 : g < u1.heap.size := Nat.lt_of_lt_of_le HG.out hb.size
        have s0 : u1.cell? ⟨g, j + 1, none⟩ = some (.int .i64 K) := (hb.cell (p := ⟨g, j + 1, none⟩) HG.out).trans C0.out
        have t0 : u1.cell? ⟨g, j, none⟩ = some (.int .i64 M) := (hb.cell (p := ⟨g, j, none⟩) HG.out).trans D0.out
        have HO2 := Lib.hid (show IntO u1 (some ⟨g, 0, none⟩) L from fun j hj => by
          obtain ⟨g', e, hg', hc'⟩ := hO.out j hj
          exact ⟨g', e, Nat.lt_of_lt_of_le hg' hb.size, (hb.cell (p := ⟨g', j, none⟩) hg').trans hc'⟩)
        clear hb c0 d0 hg hg'
        go_wp2_with fail
        try go_quiet (fail)
        go_wp2_with fail
        go_roundw
        case rel => exact ⟨j + 1 + 1, hle1, by go_num, Lib.hid (by first | exact (bdn (B6.out.alloc B6.out.size _) _) | exact B6.out.alloc B6.out.size _), Lib.hid (fun j hj => by
          obtain ⟨g', e, hg', hc'⟩ := HO2.out j hj
          exact ⟨g', e, by simp; omega, (Below.cell ((Below.refl u1.heap.size u1).alloc (Nat.le_refl _) _) (p := ⟨g', j, none⟩) hg').trans hc'⟩)⟩
        case measure => have := hle1.out; simp [intOf]; omega
    · have hge : ¬ (i : Int) < (L.length : Int) := by omega
      have HX9 := Lib.hid (HX.out.call hB.out)
      have HT9 := Lib.hid (HT.out.call hB.out)
      go_wp2_with fail
      refine (HA.out _ HX9.out HT9.out).mono ?_
      rintro e w9 ⟨rfl, hb⟩
      have HB9 := Lib.hid (below_call hB.out hb)
      clear hb
      go_wp2_with fail
      go_ret
      exact ⟨rfl, HB9.out⟩
set_option maxHeartbeats 8000000 in
set_option maxRecDepth 20000 in
theorem names_same (a b kd : Int) (w : World) (hX : DT w) (hT : TabP w) (L : List Int) (x0 x2 x3 x4 y0 y2 y3 y4 : Int) (x1 y1 : ByteArray) (hLn : L.length ≤ 11)
    (HL : Hid (∀ (i : Nat) (h : i < L.length), fdI L[i] < 23 ∧ ∀ (j : Nat) (hj : i = j + 1), ¬ (L[i] ≤ L[j]'(by omega))))
    (HR : Hid (∀ w, Calls Tryd.prog 16 #[.int .i64 kd] w fun e w' => ∃ v, e = .returned v ∧ Ints w' v L ∧ Below w.heap.size w w'))
    (HFa : Hid (∀ w, DT w → Calls Tryd.prog 9 #[.int .i64 a] w fun e w' => e = .returned (.tuple #[.agg #[.int .i64 x0, .string x1, .int .i64 x2, .int .i64 x3, .int .i64 x4], .bool true]) ∧ Below w.heap.size w w'))
    (HFb : Hid (∀ w, DT w → Calls Tryd.prog 9 #[.int .i64 b] w fun e w' => e = .returned (.tuple #[.agg #[.int .i64 y0, .string y1, .int .i64 y2, .int .i64 y3, .int .i64 y4], .bool true]) ∧ Below w.heap.size w w'))
    (hxa : x0 = a) (ha1 : 2 ≤ a) (ha2 : a ≤ 128) (HBN : Hid (∀ w, DT w → Calls Tryd.prog 11 #[.string x1] w fun e w' => e = .returned (.tuple #[.int .i64 a, .bool true]) ∧ Below w.heap.size w w')) (hab : b = a) (hn : x1 = y1) : Calls Tryd.prog 8 #[.int .i64 a, .int .i64 b, .int .i64 kd] w fun e w' => e = .returned (.bool true) ∧ Below w.heap.size w w' := by
  have HX := Lib.hid hX
  have HT := Lib.hid hT
  have HA := Lib.hid awake_any
  have HF := Lib.hid (fun n w h => find_any n w h)
  subst hab
  subst hn
  subst hxa
  have f1 : (x0 != x0) = false := by simp
  have f2 : decide (x0 < 2) = false := decide_eq_false (by omega)
  have f3 : decide (128 < x0) = false := decide_eq_false (by omega)
  have f4 : (x1.toList == x1.toList) = true := by simp
  have f5 : (x0 == x0) = true := by simp
  clear hX hT
  go_enter Tryd.func8, Tryd.ntmps8
  go_wp2_with fail
  refine (HFa.out _ HX.out).mono ?_
  rintro e w1 ⟨rfl, hb⟩
  have B1 := Lib.hid (hb.alloc hb.size (.cells #[.int .i64 x0, .string x1, .int .i64 x2, .int .i64 x3, .int .i64 x4] 23))
  have N1 := Lib.hid (Blk.new w1 23 #[.int .i64 x0, .string x1, .int .i64 x2, .int .i64 x3, .int .i64 x4])
  clear hb
  go_wp2_with fail
  refine (HFb.out _ (HX.out.call B1.out)).mono ?_
  rintro e w2 ⟨rfl, hb⟩
  have B2b := Lib.hid (below_call B1.out hb)
  have N1b := Lib.hid ((N1.out.call hb).alloc (.cells #[.int .i64 y0, .string x1, .int .i64 y2, .int .i64 y3, .int .i64 y4] 23))
  have N2 := Lib.hid (Blk.new w2 23 #[.int .i64 y0, .string x1, .int .i64 y2, .int .i64 y3, .int .i64 y4])
  have B2 := Lib.hid (B2b.out.alloc B2b.out.size (.cells #[.int .i64 y0, .string x1, .int .i64 y2, .int .i64 y3, .int .i64 y4] 23))
  have xs0 : w2.cell? ⟨w1.heap.size, 0, none⟩ = some (.int .i64 x0) := (N1.out.call hb).cell 0
  have xs1 : w2.cell? ⟨w1.heap.size, 1, none⟩ = some (.string x1) := (N1.out.call hb).cell 1
  have xl := (N1.out.call hb).lt
  clear hb
  go_wp2_with fail
  refine (HBN.out _ (HX.out.call B2.out)).mono ?_
  rintro e w3 ⟨rfl, hb⟩
  have B3 := Lib.hid (below_call B2.out hb)
  have xt0 : w3.cell? ⟨w1.heap.size, 0, none⟩ = some (.int .i64 x0) := (N1b.out.call hb).cell 0
  have xt1 : w3.cell? ⟨w1.heap.size, 1, none⟩ = some (.string x1) := (N1b.out.call hb).cell 1
  have yt1 : w3.cell? ⟨w2.heap.size, 1, none⟩ = some (.string x1) := (N2.out.call hb).cell 1
  have xl2 := (N1b.out.call hb).lt
  have yl2 := (N2.out.call hb).lt
  clear hb
  go_wp2_with fail
  refine (HR.out _).mono ?_
  rintro e w5 ⟨v, rfl, hi, hb⟩
  obtain ⟨A, c, rfl, hc, hI⟩ := hi.o
  have HI := Lib.hid hI
  have B5 := Lib.hid (below_call (B3.out) hb)
  have hcc : (L.length : Int) ≤ 11 := by omega
  clear hi hI hb
  go_wp2_with fail
  go_loopw [14] (fun y wr => ∃ i : Nat, Hid (i ≤ L.length) ∧ y = .int .i64 i ∧ Hid (Below w.heap.size w wr) ∧ Hid (IntO wr A L)) (fun y _ => L.length - (intOf y).toNat)
  case atStart => exact ⟨0, Lib.hid (Nat.zero_le _), rfl, B5, HI⟩
  case round =>
    obtain ⟨i, hi, rfl, hB, hO⟩ := hrel
    have hi1 := hi.out
    by_cases hik : i < L.length
    · have hlt : (i : Int) < (L.length : Int) := by omega
      obtain ⟨g, rfl, hg, c0⟩ := hO.out i hik
      obtain ⟨hf, hs⟩ := HL.out i hik
      have hle1 : Hid (i + 1 ≤ L.length) := Lib.hid (by omega)
      obtain ⟨K, hK⟩ : ∃ K, K = L[i] := ⟨_, rfl⟩
      have hf2 : fdI K < 23 := by rw [hK]; exact hf
      have c02 : wr.cell? ⟨g, i, none⟩ = some (.int .i64 K) := by rw [hK]; exact c0
      have hs2 : ∀ (j : Nat) (hj : i = j + 1), L[j]'(by omega) < K := by rw [hK]; exact hs
      clear hf c0 hs hK
      have hf := hf2
      have c0 := c02
      have hs := hs2
      clear hf2 c02 hs2
      have HF3 := Lib.hid (HF.out K wr (HX.out.call hB.out))
      simp only [decide_eq_true hf] at HF3
      dsimp only [spA] at HF3
      have HG := Lib.hid hg
      cases i with
      | zero =>
        have C0 := Lib.hid c0
        clear hs hf
        generalize fdI K = q at *
        generalize dn q = z0 at *
        generalize dnm q = z1 at *
        generalize dk q = z2 at *
        generalize dl q = z3 at *
        generalize dv q = z4 at *
        go_wp2_with fail
        refine HF3.out.mono ?_
        rintro e u1 ⟨rfl, hb⟩
        have B6 := Lib.hid (below_call hB.out hb)
        have hg2 : g < u1.heap.size := Nat.lt_of_lt_of_le HG.out hb.size
        have s0 : u1.cell? ⟨g, 0, none⟩ = some (.int .i64 K) := (hb.cell (p := ⟨g, 0, none⟩) HG.out).trans C0.out
        have HO2 := Lib.hid (show IntO u1 (some ⟨g, 0, none⟩) L from fun j hj => by
          obtain ⟨g', e, hg', hc'⟩ := hO.out j hj
          exact ⟨g', e, Nat.lt_of_lt_of_le hg' hb.size, (hb.cell (p := ⟨g', j, none⟩) hg').trans hc'⟩)
        clear hb c0 hg
        go_wp2_with fail
        try go_quiet (fail)
        go_wp2_with fail
        go_roundw
        case rel => exact ⟨0 + 1, hle1, by go_num, Lib.hid (by first | exact (bdn (B6.out.alloc B6.out.size _) _) | exact B6.out.alloc B6.out.size _), Lib.hid (fun j hj => by
          obtain ⟨g', e, hg', hc'⟩ := HO2.out j hj
          exact ⟨g', e, by simp; omega, (Below.cell ((Below.refl u1.heap.size u1).alloc (Nat.le_refl _) _) (p := ⟨g', j, none⟩) hg').trans hc'⟩)⟩
        case measure => have := hle1.out; simp [intOf]; omega
      | succ j =>
        have hj := hs j rfl
        obtain ⟨g', e', hg', d0⟩ := hO.out j (by omega)
        injection e' with e'
        injection e' with e' _
        subst e'
        have C0 := Lib.hid c0
        have D0 := Lib.hid d0
        clear hs hf
        generalize L[j] = M at *
        have hd : decide (K ≤ M) = false := decide_eq_false (by omega)
        generalize fdI K = q at *
        generalize dn q = z0 at *
        generalize dnm q = z1 at *
        generalize dk q = z2 at *
        generalize dl q = z3 at *
        generalize dv q = z4 at *
        have hp : decide ((0 : Int) < ((j + 1 : Nat) : Int)) = true := decide_eq_true (by omega)
        go_wp2_with fail
        refine HF3.out.mono ?_
        rintro e u1 ⟨rfl, hb⟩
        have B6 := Lib.hid (below_call hB.out hb)
        have hg2 : g < u1.heap.size := Nat.lt_of_lt_of_le HG.out hb.size
        have s0 : u1.cell? ⟨g, j + 1, none⟩ = some (.int .i64 K) := (hb.cell (p := ⟨g, j + 1, none⟩) HG.out).trans C0.out
        have t0 : u1.cell? ⟨g, j, none⟩ = some (.int .i64 M) := (hb.cell (p := ⟨g, j, none⟩) HG.out).trans D0.out
        have HO2 := Lib.hid (show IntO u1 (some ⟨g, 0, none⟩) L from fun j hj => by
          obtain ⟨g', e, hg', hc'⟩ := hO.out j hj
          exact ⟨g', e, Nat.lt_of_lt_of_le hg' hb.size, (hb.cell (p := ⟨g', j, none⟩) hg').trans hc'⟩)
        clear hb c0 d0 hg hg'
        go_wp2_with fail
        try go_quiet (fail)
        go_wp2_with fail
        go_roundw
        case rel => exact ⟨j + 1 + 1, hle1, by go_num, Lib.hid (by first | exact (bdn (B6.out.alloc B6.out.size _) _) | exact B6.out.alloc B6.out.size _), Lib.hid (fun j hj => by
          obtain ⟨g', e, hg', hc'⟩ := HO2.out j hj
          exact ⟨g', e, by simp; omega, (Below.cell ((Below.refl u1.heap.size u1).alloc (Nat.le_refl _) _) (p := ⟨g', j, none⟩) hg').trans hc'⟩)⟩
        case measure => have := hle1.out; simp [intOf]; omega
    · have hge : ¬ (i : Int) < (L.length : Int) := by omega
      have HX9 := Lib.hid (HX.out.call hB.out)
      have HT9 := Lib.hid (HT.out.call hB.out)
      go_wp2_with fail
      refine (HA.out _ HX9.out HT9.out).mono ?_
      rintro e w9 ⟨rfl, hb⟩
      have HB9 := Lib.hid (below_call hB.out hb)
      clear hb
      go_wp2_with fail
      go_ret
      exact ⟨rfl, HB9.out⟩
set_option maxHeartbeats 8000000 in
set_option maxRecDepth 20000 in
theorem names_diff (a b kd : Int) (w : World) (hX : DT w) (hT : TabP w) (L : List Int) (x0 x2 x3 x4 y0 y2 y3 y4 : Int) (x1 y1 : ByteArray) (hLn : L.length ≤ 11)
    (HL : Hid (∀ (i : Nat) (h : i < L.length), fdI L[i] < 23 ∧ ∀ (j : Nat) (hj : i = j + 1), ¬ (L[i] ≤ L[j]'(by omega))))
    (HR : Hid (∀ w, Calls Tryd.prog 16 #[.int .i64 kd] w fun e w' => ∃ v, e = .returned v ∧ Ints w' v L ∧ Below w.heap.size w w'))
    (HFa : Hid (∀ w, DT w → Calls Tryd.prog 9 #[.int .i64 a] w fun e w' => e = .returned (.tuple #[.agg #[.int .i64 x0, .string x1, .int .i64 x2, .int .i64 x3, .int .i64 x4], .bool true]) ∧ Below w.heap.size w w'))
    (HFb : Hid (∀ w, DT w → Calls Tryd.prog 9 #[.int .i64 b] w fun e w' => e = .returned (.tuple #[.agg #[.int .i64 y0, .string y1, .int .i64 y2, .int .i64 y3, .int .i64 y4], .bool true]) ∧ Below w.heap.size w w'))
    (hxa : x0 = a) (ha1 : 2 ≤ a) (ha2 : a ≤ 128) (HBN : Hid (∀ w, DT w → Calls Tryd.prog 11 #[.string x1] w fun e w' => e = .returned (.tuple #[.int .i64 a, .bool true]) ∧ Below w.heap.size w w')) (hab : (a == b) = false) (hn : (x1.toList == y1.toList) = false) : Calls Tryd.prog 8 #[.int .i64 a, .int .i64 b, .int .i64 kd] w fun e w' => e = .returned (.bool true) ∧ Below w.heap.size w w' := by
  have HX := Lib.hid hX
  have HT := Lib.hid hT
  have HA := Lib.hid awake_any
  have HF := Lib.hid (fun n w h => find_any n w h)
  subst hxa
  have f1 : (x0 != x0) = false := by simp
  have f2 : decide (x0 < 2) = false := decide_eq_false (by omega)
  have f3 : decide (128 < x0) = false := decide_eq_false (by omega)
  clear hX hT
  go_enter Tryd.func8, Tryd.ntmps8
  go_wp2_with fail
  refine (HFa.out _ HX.out).mono ?_
  rintro e w1 ⟨rfl, hb⟩
  have B1 := Lib.hid (hb.alloc hb.size (.cells #[.int .i64 x0, .string x1, .int .i64 x2, .int .i64 x3, .int .i64 x4] 23))
  have N1 := Lib.hid (Blk.new w1 23 #[.int .i64 x0, .string x1, .int .i64 x2, .int .i64 x3, .int .i64 x4])
  clear hb
  go_wp2_with fail
  refine (HFb.out _ (HX.out.call B1.out)).mono ?_
  rintro e w2 ⟨rfl, hb⟩
  have B2b := Lib.hid (below_call B1.out hb)
  have N1b := Lib.hid ((N1.out.call hb).alloc (.cells #[.int .i64 y0, .string y1, .int .i64 y2, .int .i64 y3, .int .i64 y4] 23))
  have N2 := Lib.hid (Blk.new w2 23 #[.int .i64 y0, .string y1, .int .i64 y2, .int .i64 y3, .int .i64 y4])
  have B2 := Lib.hid (B2b.out.alloc B2b.out.size (.cells #[.int .i64 y0, .string y1, .int .i64 y2, .int .i64 y3, .int .i64 y4] 23))
  have xs0 : w2.cell? ⟨w1.heap.size, 0, none⟩ = some (.int .i64 x0) := (N1.out.call hb).cell 0
  have xs1 : w2.cell? ⟨w1.heap.size, 1, none⟩ = some (.string x1) := (N1.out.call hb).cell 1
  have xl := (N1.out.call hb).lt
  clear hb
  go_wp2_with fail
  refine (HBN.out _ (HX.out.call B2.out)).mono ?_
  rintro e w3 ⟨rfl, hb⟩
  have B3 := Lib.hid (below_call B2.out hb)
  have xt0 : w3.cell? ⟨w1.heap.size, 0, none⟩ = some (.int .i64 x0) := (N1b.out.call hb).cell 0
  have xt1 : w3.cell? ⟨w1.heap.size, 1, none⟩ = some (.string x1) := (N1b.out.call hb).cell 1
  have yt1 : w3.cell? ⟨w2.heap.size, 1, none⟩ = some (.string y1) := (N2.out.call hb).cell 1
  have xl2 := (N1b.out.call hb).lt
  have yl2 := (N2.out.call hb).lt
  clear hb
  go_wp2_with fail
  refine (HR.out _).mono ?_
  rintro e w5 ⟨v, rfl, hi, hb⟩
  obtain ⟨A, c, rfl, hc, hI⟩ := hi.o
  have HI := Lib.hid hI
  have B5 := Lib.hid (below_call (B3.out) hb)
  have hcc : (L.length : Int) ≤ 11 := by omega
  clear hi hI hb
  go_wp2_with fail
  go_loopw [14] (fun y wr => ∃ i : Nat, Hid (i ≤ L.length) ∧ y = .int .i64 i ∧ Hid (Below w.heap.size w wr) ∧ Hid (IntO wr A L)) (fun y _ => L.length - (intOf y).toNat)
  case atStart => exact ⟨0, Lib.hid (Nat.zero_le _), rfl, B5, HI⟩
  case round =>
    obtain ⟨i, hi, rfl, hB, hO⟩ := hrel
    have hi1 := hi.out
    by_cases hik : i < L.length
    · have hlt : (i : Int) < (L.length : Int) := by omega
      obtain ⟨g, rfl, hg, c0⟩ := hO.out i hik
      obtain ⟨hf, hs⟩ := HL.out i hik
      have hle1 : Hid (i + 1 ≤ L.length) := Lib.hid (by omega)
      obtain ⟨K, hK⟩ : ∃ K, K = L[i] := ⟨_, rfl⟩
      have hf2 : fdI K < 23 := by rw [hK]; exact hf
      have c02 : wr.cell? ⟨g, i, none⟩ = some (.int .i64 K) := by rw [hK]; exact c0
      have hs2 : ∀ (j : Nat) (hj : i = j + 1), L[j]'(by omega) < K := by rw [hK]; exact hs
      clear hf c0 hs hK
      have hf := hf2
      have c0 := c02
      have hs := hs2
      clear hf2 c02 hs2
      have HF3 := Lib.hid (HF.out K wr (HX.out.call hB.out))
      simp only [decide_eq_true hf] at HF3
      dsimp only [spA] at HF3
      have HG := Lib.hid hg
      cases i with
      | zero =>
        have C0 := Lib.hid c0
        clear hs hf
        generalize fdI K = q at *
        generalize dn q = z0 at *
        generalize dnm q = z1 at *
        generalize dk q = z2 at *
        generalize dl q = z3 at *
        generalize dv q = z4 at *
        go_wp2_with fail
        refine HF3.out.mono ?_
        rintro e u1 ⟨rfl, hb⟩
        have B6 := Lib.hid (below_call hB.out hb)
        have hg2 : g < u1.heap.size := Nat.lt_of_lt_of_le HG.out hb.size
        have s0 : u1.cell? ⟨g, 0, none⟩ = some (.int .i64 K) := (hb.cell (p := ⟨g, 0, none⟩) HG.out).trans C0.out
        have HO2 := Lib.hid (show IntO u1 (some ⟨g, 0, none⟩) L from fun j hj => by
          obtain ⟨g', e, hg', hc'⟩ := hO.out j hj
          exact ⟨g', e, Nat.lt_of_lt_of_le hg' hb.size, (hb.cell (p := ⟨g', j, none⟩) hg').trans hc'⟩)
        clear hb c0 hg
        go_wp2_with fail
        try go_quiet (fail)
        go_wp2_with fail
        go_roundw
        case rel => exact ⟨0 + 1, hle1, by go_num, Lib.hid (by first | exact (bdn (B6.out.alloc B6.out.size _) _) | exact B6.out.alloc B6.out.size _), Lib.hid (fun j hj => by
          obtain ⟨g', e, hg', hc'⟩ := HO2.out j hj
          exact ⟨g', e, by simp; omega, (Below.cell ((Below.refl u1.heap.size u1).alloc (Nat.le_refl _) _) (p := ⟨g', j, none⟩) hg').trans hc'⟩)⟩
        case measure => have := hle1.out; simp [intOf]; omega
      | succ j =>
        have hj := hs j rfl
        obtain ⟨g', e', hg', d0⟩ := hO.out j (by omega)
        injection e' with e'
        injection e' with e' _
        subst e'
        have C0 := Lib.hid c0
        have D0 := Lib.hid d0
        clear hs hf
        generalize L[j] = M at *
        have hd : decide (K ≤ M) = false := decide_eq_false (by omega)
        generalize fdI K = q at *
        generalize dn q = z0 at *
        generalize dnm q = z1 at *
        generalize dk q = z2 at *
        generalize dl q = z3 at *
        generalize dv q = z4 at *
        have hp : decide ((0 : Int) < ((j + 1 : Nat) : Int)) = true := decide_eq_true (by omega)
        go_wp2_with fail
        refine HF3.out.mono ?_
        rintro e u1 ⟨rfl, hb⟩
        have B6 := Lib.hid (below_call hB.out hb)
        have hg2 : g < u1.heap.size := Nat.lt_of_lt_of_le HG.out hb.size
        have s0 : u1.cell? ⟨g, j + 1, none⟩ = some (.int .i64 K) := (hb.cell (p := ⟨g, j + 1, none⟩) HG.out).trans C0.out
        have t0 : u1.cell? ⟨g, j, none⟩ = some (.int .i64 M) := (hb.cell (p := ⟨g, j, none⟩) HG.out).trans D0.out
        have HO2 := Lib.hid (show IntO u1 (some ⟨g, 0, none⟩) L from fun j hj => by
          obtain ⟨g', e, hg', hc'⟩ := hO.out j hj
          exact ⟨g', e, Nat.lt_of_lt_of_le hg' hb.size, (hb.cell (p := ⟨g', j, none⟩) hg').trans hc'⟩)
        clear hb c0 d0 hg hg'
        go_wp2_with fail
        try go_quiet (fail)
        go_wp2_with fail
        go_roundw
        case rel => exact ⟨j + 1 + 1, hle1, by go_num, Lib.hid (by first | exact (bdn (B6.out.alloc B6.out.size _) _) | exact B6.out.alloc B6.out.size _), Lib.hid (fun j hj => by
          obtain ⟨g', e, hg', hc'⟩ := HO2.out j hj
          exact ⟨g', e, by simp; omega, (Below.cell ((Below.refl u1.heap.size u1).alloc (Nat.le_refl _) _) (p := ⟨g', j, none⟩) hg').trans hc'⟩)⟩
        case measure => have := hle1.out; simp [intOf]; omega
    · have hge : ¬ (i : Int) < (L.length : Int) := by omega
      have HX9 := Lib.hid (HX.out.call hB.out)
      have HT9 := Lib.hid (HT.out.call hB.out)
      go_wp2_with fail
      refine (HA.out _ HX9.out HT9.out).mono ?_
      rintro e w9 ⟨rfl, hb⟩
      have HB9 := Lib.hid (below_call hB.out hb)
      clear hb
      go_wp2_with fail
      go_ret
      exact ⟨rfl, HB9.out⟩
end Go.Proofs.YtjkfckkmofcpdaaDoor
