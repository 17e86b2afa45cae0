/- Num and Var of the reference. -/
import Derived.Test.YtknipjjmpdnomaaDoorE
set_option linter.unusedVariables false
set_option linter.unusedSimpArgs false
namespace Go.Proofs.YtknipjjmpdnomaaDoor
open Go.Sort Go.ChangeShapes Go.WideShapes Go.ChangeAt Go.RowKit
theorem nu_small (n w : Nat) (h1 : 1 ≤ w) (h2 : w ≤ 3) (h3 : n < 10 ^ w) : nuBad n w = false := by
  unfold nuBad
  rw [decide_eq_false (by omega), decide_eq_false (by omega), decide_eq_false (by omega), decide_eq_false (by rw [Int.toNat_natCast, Int.toNat_natCast]; omega)]; rfl
theorem conv1 (w : World) (b : Int) (h : 0 ≤ b ∧ b < 256) :
    (convert 44 9 (.slice (some ⟨w.heap.size, 0, none⟩) 1 1)).run Tryd.prog (w.alloc (.cells #[.int .u8 b] 5)) = .ok (.string (d1 b)) (w.alloc (.cells #[.int .u8 b] 5)) :=
  run_convert_bytes_back (P := Tryd.prog) (w.alloc (.cells #[.int .u8 b] 5)) 44 9 5 ⟨w.heap.size, 0, none⟩ 1 [UInt8.ofNat b.toNat] Tryd.underlying44 Tryd.underlying5 Tryd.underlying9 (fun j hj => by
    have hc := World.cell?_alloc_mark w #[.int .u8 b] 5 (0, 0) j
    have ha : (⟨w.heap.size, 0, none⟩ : Addr).add j = ⟨w.heap.size, j, none⟩ := by simp [Addr.add]; intro h; exact h.symm
    rw [ha]
    refine Eq.trans hc ?_
    clear ha hc
    match j, hj with
    | 0, _ =>
      have : (((UInt8.ofNat b.toNat).toNat : Nat) : Int) = b := by rw [UInt8.toNat_ofNat']; omega
      exact congrArg (fun x => some (Value.int .u8 x)) this.symm)
set_option maxHeartbeats 2000000 in
theorem rnum_any (n wd : Int) (hn : Hid (n ≤ 9223372036854775807)) (w : World) :
    Calls Tryd.prog 8 #[.int .i64 n, .int .i64 wd] w fun e w' => e = .returned (.tuple #[.string (nuV n wd), .int .i64 (nuE n wd)]) ∧ Below w.heap.size w w' := by
  by_cases h1 : wd < 1
  · obtain ⟨e1, e2⟩ := nu_bad (n := n) (wd := wd) (show nuBad n wd = true by unfold nuBad; rw [decide_eq_true h1]; rfl)
    rw [e1, e2]
    have c1 : decide (wd < 1) = true := decide_eq_true h1
    clear e1 e2 h1
    go_enter Tryd.func8, Tryd.ntmps8
    go_wp2_with fail
    exact bodyPost_ret (v := .tuple #[.string ⟨#[]⟩, .int .i64 4]) (by simp [results, Tryd.results8, go_sem]) rfl ⟨rfl, Below.refl _ _⟩
  have c1 : decide (wd < 1) = false := decide_eq_false h1
  by_cases h2 : 15 < wd
  · obtain ⟨e1, e2⟩ := nu_bad (n := n) (wd := wd) (show nuBad n wd = true by unfold nuBad; rw [decide_eq_true h2]; simp)
    rw [e1, e2]
    have c2 : decide (15 < wd) = true := decide_eq_true h2
    clear e1 e2 h1 h2
    go_enter Tryd.func8, Tryd.ntmps8
    go_wp2_with fail
    exact bodyPost_ret (v := .tuple #[.string ⟨#[]⟩, .int .i64 4]) (by simp [results, Tryd.results8, go_sem]) rfl ⟨rfl, Below.refl _ _⟩
  have c2 : decide (15 < wd) = false := decide_eq_false h2
  by_cases h3 : n < 0
  · obtain ⟨e1, e2⟩ := nu_bad (n := n) (wd := wd) (show nuBad n wd = true by unfold nuBad; rw [decide_eq_true h3]; simp)
    rw [e1, e2]
    have c3 : decide (n < 0) = true := decide_eq_true h3
    clear e1 e2 h1 h2 h3
    go_enter Tryd.func8, Tryd.ntmps8
    go_wp2_with fail
    exact bodyPost_ret (v := .tuple #[.string ⟨#[]⟩, .int .i64 4]) (by simp [results, Tryd.results8, go_sem]) rfl ⟨rfl, Below.refl _ _⟩
  have c3 : decide (n < 0) = false := decide_eq_false h3
  obtain ⟨N, rfl⟩ : ∃ N : Nat, n = N := ⟨n.toNat, by omega⟩
  obtain ⟨W, rfl⟩ : ∃ W : Nat, wd = W := ⟨wd.toNat, by omega⟩
  have HBD : Hid (nuBad N W = decide (10 ^ W ≤ N)) := by
    refine Lib.hid ?_
    unfold nuBad
    rw [c1, c2, decide_eq_false h3, Int.toNat_natCast, Int.toNat_natCast]; rfl
  have HN := Lib.hid (show N ≤ 9223372036854775807 by have := hn.out; omega)
  have hW : (W : Int) ≤ 15 := by omega
  have hW1 : (1 : Int) ≤ (W : Int) := by omega
  have hW9 : W ≤ 15 := by omega
  have HG : Hid (nuBad N W = false → nuE N W = 0 ∧ nuV N W = bst (dgw W N)) := Lib.hid (fun h => by have := nu_ok h; rw [Int.toNat_natCast, Int.toNat_natCast] at this; exact this)
  have HF : Hid (nuBad N W = true → nuE N W = 4 ∧ nuV N W = ⟨#[]⟩) := Lib.hid nu_bad
  generalize nuE N W = E at *
  generalize nuV N W = V at *
  obtain ⟨NI, hNI⟩ : ∃ NI : Int, NI = (N : Int) := ⟨_, rfl⟩
  rw [← hNI] at c3 h3 ⊢
  have HNI := Lib.hid hNI
  clear h1 h2 h3 hn hNI
  go_enter Tryd.func8, Tryd.ntmps8
  go_wp2_with fail
  go_loopg [0, 6, 7] W (fun g x y z wr => ∃ (j m : Nat) (S : ByteArray), Hid (g + j = W) ∧ x = .int .i64 m ∧ y = .string S ∧ z = .int .i64 j ∧ Hid (m = N / 10 ^ j) ∧ Hid (ls S = dgw j N) ∧ Hid (S.size = j) ∧ Hid (Below w.heap.size w wr))
  case atStart => exact ⟨0, N, _, Lib.hid rfl, by rw [HNI.out], rfl, rfl, Lib.hid (by simp), Lib.hid rfl, Lib.hid rfl, Lib.hid (Below.refl _ _)⟩
  case round =>
    obtain ⟨j, m, S, hg, rfl, rfl, rfl, hm, hS, hz, hB⟩ := hrel
    obtain ⟨M, hM⟩ : ∃ M : Int, M = (m : Int) := ⟨_, rfl⟩
    rw [← hM]
    have HM := Lib.hid hM
    have hM0 : 0 ≤ M := by omega
    clear hM
    have hS100 : S.size ≤ 100 := by have := hz.out; have := hg.out; omega
    by_cases hlt : j < W
    · have c6 : decide ((j : Int) < (W : Int)) = true := decide_eq_true (by omega)
      obtain ⟨a, ha⟩ : ∃ a : Nat, a = m % 10 := ⟨_, rfl⟩
      obtain ⟨b, hb⟩ : ∃ b : Nat, b = m / 10 := ⟨_, rfl⟩
      obtain ⟨A, hA⟩ : ∃ A : Int, A = (a : Int) := ⟨_, rfl⟩
      obtain ⟨C, hC⟩ : ∃ C : Int, 48 + A = C := ⟨_, rfl⟩
      have e1' : M % 10 = A := by have := HM.out; omega
      have e2' : M / 10 = b := by have := HM.out; omega
      have e1 : Int.tmod M 10 = A := by rw [Int.tmod_eq_emod_of_nonneg (by omega)]; omega
      have e2 : Int.tdiv M 10 = b := by rw [Int.tdiv_eq_ediv_of_nonneg (by omega)]; omega
      have ha9 : a < 10 := by omega
      have hC1 : 48 ≤ C := by omega
      have hC2 : C ≤ 57 := by omega
      have hcv := fun w => conv1 w C (by omega)
      have hCn : C.toNat = 48 + a := by omega
      have e3 : wrap64 (b : Int) = b := IntWalk.wrap64_in _ (by have h1 := HN.out; have h2 : m ≤ N := by { rw [hm.out]; exact Nat.div_le_self _ _ }; omega)
      have E3 := Lib.hid e3
      have HV := Lib.hid (show ls (d1 C ++ S) = dgw (j + 1) N by rw [ls_app, hS.out]; show UInt8.ofNat C.toNat :: _ = UInt8.ofNat _ :: _; rw [hCn, ha, hm.out]; rfl)
      have HQ := Lib.hid (show b = N / 10 ^ (j + 1) by rw [hb, hm.out, Nat.div_div_eq_div_mul, Nat.pow_succ])
      have HZ := Lib.hid (show (d1 C ++ S).size = j + 1 by rw [ByteArray.size_append, hz.out, d1_size]; omega)
      have hD : (d1 C).size ≤ 100 := by rw [d1_size]; omega
      generalize d1 C = D at *
      have HA := Lib.hid hA
      clear ha hb hCn ha9 hA e3
      go_wp2_with fail
      go_roundg (gk - 1)
      case measure => have := hg.out; omega
      case rel => exact ⟨j + 1, b, _, Lib.hid (by have := hg.out; omega), by first | rfl | rw [E3.out], rfl, by first | rfl | go_num, HQ, HV, HZ, Lib.hid (by first | exact hB.out.alloc hB.out.size _ | exact (hB.out.alloc hB.out.size _).trans (Below.refl _ _))⟩
    · have hjW : j = W := by have := hg.out; omega
      subst hjW
      have c6 : decide ((j : Int) < (j : Int)) = false := decide_eq_false (by omega)
      have hSb : S = bst (dgw j N) := ls_ext (by rw [ls_bst]; exact hS.out)
      have HSB := Lib.hid hSb
      clear hSb
      by_cases hn : N < 10 ^ j
      · have hm0 : m = 0 := by rw [hm.out]; exact Nat.div_eq_of_lt hn
        obtain rfl : M = 0 := by have := HM.out; omega
        obtain ⟨hE, hV⟩ := HG.out (HBD.out.trans (decide_eq_false (by omega)))
        have HEE := Lib.hid hE
        have HVV := Lib.hid hV
        clear hE hV hn hm0
        go_wp2_with fail
        exact bodyPost_ret (v := .tuple #[.string S, .int .i64 0]) (by simp [results, Tryd.results8, go_sem]) rfl ⟨by rw [HEE.out, HVV.out, HSB.out], hB.out⟩
      · obtain ⟨hE, hV⟩ := HF.out (HBD.out.trans (decide_eq_true (by omega)))
        have HEE := Lib.hid hE
        have HVV := Lib.hid hV
        have hm0 : 0 < m := by rw [hm.out]; exact Nat.div_pos (by omega) (Nat.pow_pos (by omega))
        have hm1 : decide (0 < M) = true := decide_eq_true (by have := HM.out; omega)
        have hm2 : 0 < M := by have := HM.out; omega
        clear hm0 hE hV hn
        go_wp2_with fail
        exact bodyPost_ret (v := .tuple #[.string ⟨#[]⟩, .int .i64 4]) (by simp [results, Tryd.results8, go_sem]) rfl ⟨by rw [HEE.out, HVV.out], hB.out⟩
/- Var -/
set_option maxHeartbeats 1000000 in
theorem rvar_any (s : ByteArray) (dg : Int) (hs : s.size ≤ 2000) (w : World) :
    Calls Tryd.prog 12 #[.string s, .int .i64 dg] w fun e w' => e = .returned (.tuple #[.string (vaV s dg), .int .i64 (vaE s dg)]) ∧ Below w.heap.size w w' := by
  have hsi : (s.size : Int) ≤ 2000 := by omega
  obtain ⟨V, hV⟩ : ∃ V, V = vaV s dg := ⟨_, rfl⟩
  obtain ⟨E, hE⟩ : ∃ E, E = vaE s dg := ⟨_, rfl⟩
  rw [← hV, ← hE]
  unfold vaV at hV
  rw [← hE] at hV
  unfold vaE at hE
  by_cases h1 : dg ≠ 2 ∧ dg ≠ 3
  · rw [if_pos h1] at hE
    subst hE
    rw [if_neg (by omega)] at hV
    subst hV
    have c1 : (dg != 2) = true := by rw [bne_iff_ne]; exact h1.1
    have c2 : (dg != 3) = true := by rw [bne_iff_ne]; exact h1.2
    have c1b : (dg == 2) = false := by rw [beq_eq_false_iff_ne]; exact h1.1
    have c2b : (dg == 3) = false := by rw [beq_eq_false_iff_ne]; exact h1.2
    clear h1
    go_enter Tryd.func12, Tryd.ntmps12
    go_wp2_with fail
    exact bodyPost_ret (v := .tuple #[.string ⟨#[]⟩, .int .i64 4]) (by simp [results, Tryd.results12, go_sem]) rfl ⟨rfl, Below.refl _ _⟩
  rw [if_neg h1] at hE
  by_cases h2 : 255 < s.size
  · rw [if_pos (.inl h2)] at hE
    subst hE
    rw [if_neg (by omega)] at hV
    subst hV
    have c3 : decide (255 < (s.size : Int)) = true := decide_eq_true (by omega)
    have c3b : 255 < s.size := h2
    have h3 : dg = 2 ∨ dg = 3 := by omega
    clear h1
    rcases h3 with rfl | rfl
    · go_enter Tryd.func12, Tryd.ntmps12
      go_wp2_with fail
      exact bodyPost_ret (v := .tuple #[.string ⟨#[]⟩, .int .i64 3]) (by simp [results, Tryd.results12, go_sem]) rfl ⟨rfl, Below.refl _ _⟩
    · go_enter Tryd.func12, Tryd.ntmps12
      go_wp2_with fail
      exact bodyPost_ret (v := .tuple #[.string ⟨#[]⟩, .int .i64 3]) (by simp [results, Tryd.results12, go_sem]) rfl ⟨rfl, Below.refl _ _⟩
  have c3 : decide (255 < (s.size : Int)) = false := decide_eq_false (by omega)
  by_cases h4 : dg = 2
  · subst h4
    by_cases h5 : 99 < s.size
    · rw [if_pos (.inr ⟨rfl, h5⟩)] at hE
      subst hE
      rw [if_neg (by omega)] at hV
      subst hV
      have c4 : decide (99 < (s.size : Int)) = true := decide_eq_true (by omega)
      clear h1 h2
      go_enter Tryd.func12, Tryd.ntmps12
      go_wp2_with fail
      exact bodyPost_ret (v := .tuple #[.string ⟨#[]⟩, .int .i64 3]) (by simp [results, Tryd.results12, go_sem]) rfl ⟨rfl, Below.refl _ _⟩
    · rw [if_neg (fun c => c.elim h2 (fun c => h5 c.2))] at hE
      subst hE
      rw [if_pos rfl] at hV
      have c4 : decide (99 < (s.size : Int)) = false := decide_eq_false (by omega)
      have HD := Lib.hid (rnum_any s.size 2 (Lib.hid (by omega)) w)
      obtain ⟨n1, n2⟩ : nuE s.size 2 = 0 ∧ nuV s.size 2 = bst (dgw 2 s.size) := nu_ok (nu_small s.size 2 (by omega) (by omega) (by omega))
      rw [n1, n2] at HD
      clear n1 n2
      have hsz := bst_size (dgw 2 s.size)
      rw [dgw_len] at hsz
      rw [show (2 : Int).toNat = 2 from rfl] at hV
      generalize bst (dgw 2 s.size) = P at *
      have HV := Lib.hid hV
      have hP : P.size ≤ 10 := by omega
      clear h1 h2 h5 hV hsz
      go_enter Tryd.func12, Tryd.ntmps12
      go_wp2_with fail
      refine HD.out.mono ?_
      rintro e w1 ⟨rfl, hb1⟩
      have HB1 := Lib.hid hb1
      clear hb1
      go_wp2_with fail
      exact bodyPost_ret (v := .tuple #[.string (P ++ s), .int .i64 0]) (by simp [results, Tryd.results12, go_sem]) rfl ⟨by rw [HV.out], HB1.out⟩
  · obtain rfl : dg = 3 := by omega
    rw [if_neg (fun c => c.elim h2 (fun c => h4 c.1))] at hE
    subst hE
    rw [if_pos rfl] at hV
    have HD := Lib.hid (rnum_any s.size 3 (Lib.hid (by omega)) w)
    obtain ⟨n1, n2⟩ : nuE s.size 3 = 0 ∧ nuV s.size 3 = bst (dgw 3 s.size) := nu_ok (nu_small s.size 3 (by omega) (by omega) (by omega))
    rw [n1, n2] at HD
    clear n1 n2
    have hsz := bst_size (dgw 3 s.size)
    rw [dgw_len] at hsz
    rw [show (3 : Int).toNat = 3 from rfl] at hV
    generalize bst (dgw 3 s.size) = P at *
    have HV := Lib.hid hV
    have hP : P.size ≤ 10 := by omega
    clear h1 h2 h4 hV hsz
    go_enter Tryd.func12, Tryd.ntmps12
    go_wp2_with fail
    refine HD.out.mono ?_
    rintro e w1 ⟨rfl, hb1⟩
    have HB1 := Lib.hid hb1
    clear hb1
    go_wp2_with fail
    exact bodyPost_ret (v := .tuple #[.string (P ++ s), .int .i64 0]) (by simp [results, Tryd.results12, go_sem]) rfl ⟨by rw [HV.out], HB1.out⟩
end Go.Proofs.YtknipjjmpdnomaaDoor
