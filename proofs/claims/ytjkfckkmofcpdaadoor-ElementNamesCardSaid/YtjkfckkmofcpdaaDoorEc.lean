/- Encode. -/
import Derived.Test.YtjkfckkmofcpdaaDoorEb
set_option linter.unusedVariables false
set_option linter.unusedSimpArgs false
namespace Go.Proofs.YtjkfckkmofcpdaaDoor
open Go.Sort Go.ChangeShapes Go.WideShapes Go.ChangeAt Go.RowKit
def enV (n : Int) (s : ByteArray) : ByteArray := if ckE n s ≠ 0 then ⟨#[]⟩ else if 0 < dv (fdI n) then vaV s (dv (fdI n)) else s ++ bst (List.replicate (dl (fdI n) - s.size).toNat 32)
def enE (n : Int) (s : ByteArray) : Int := if ckE n s ≠ 0 then ckE n s else if 0 < dv (fdI n) then vaE s (dv (fdI n)) else 0
theorem ck_zero {n : Int} {s : ByteArray} (h : ckE n s = 0) : fdI n < 23 ∧ (s.size : Int) ≤ dl (fdI n) := by
  unfold ckE at h
  by_cases h1 : fdI n < 23
  · rw [if_neg (by omega)] at h
    refine ⟨h1, ?_⟩
    by_cases h2 : (s.size : Int) < shV (dn (fdI n)) (dl (fdI n)) (dv (fdI n))
    · rw [if_pos h2] at h; cases h
    · rw [if_neg h2] at h
      by_cases h3 : dl (fdI n) < s.size
      · rw [if_pos h3] at h; cases h
      · omega
  · rw [if_pos (by omega)] at h; cases h
set_option maxHeartbeats 2000000 in
theorem encode_any (n : Int) (s : ByteArray) (hs : s.size ≤ 2000) (w : World) (hX : DT w) (hT : TabP w) : Calls Tryd.prog 19 #[.int .i64 n, .string s] w fun e w' => e = .returned (.tuple #[.string (enV n s), .int .i64 (enE n s)]) ∧ Below w.heap.size w w' := by
  have HC := Lib.hid (check_any n s hs w hX)
  have HXX := Lib.hid hX
  have HFd := Lib.hid (fun w h => find_any n w h)
  have HTT := Lib.hid hT
  unfold enV enE
  by_cases h0 : ckE n s = 0
  · obtain ⟨z1, z2⟩ := ck_zero h0
    rw [h0] at HC
    have e0 : ¬ ckE n s ≠ 0 := by omega
    rw [if_neg e0, if_neg e0]
    clear h0 hX hT e0
    dsimp only [spA] at HFd
    obtain ⟨i, hi⟩ : ∃ i, i = fdI n := ⟨_, rfl⟩
    rw [← hi] at z1 z2 ⊢
    rw [show fdI n = i from hi.symm] at HFd
    clear hi
    simp only [decide_eq_true z1] at HFd
    have hin := dn_in i
    have HV := Lib.hid (fun w h => var_any s (dv i) hs w h)
    generalize dn i = a0 at *
    generalize dnm i = a1 at *
    generalize dk i = a2 at *
    generalize dl i = a3 at *
    generalize dv i = a4 at *
    by_cases h4 : 0 < a4
    · rw [if_pos h4, if_pos h4]
      have c4 : decide (0 < a4) = true := decide_eq_true h4
      generalize vaV s a4 = V at *
      generalize vaE s a4 = E at *
      go_enter Tryd.func19, Tryd.ntmps19
      go_wp2_with fail
      refine HC.out.mono ?_
      rintro e w1 ⟨rfl, hb⟩
      have HB1 := Lib.hid hb
      clear hb
      go_wp2_with fail
      refine (HFd.out _ (HXX.out.call HB1.out)).mono ?_
      rintro e w2 ⟨rfl, hb⟩
      have HB2 := Lib.hid (below_call HB1.out hb)
      clear hb
      go_wp2_with fail
      refine (HV.out _ (HTT.out.call (HB2.out.alloc HB2.out.size _))).mono ?_
      rintro e w3 ⟨rfl, hb⟩
      have HB3 := Lib.hid (below_call (HB2.out.alloc HB2.out.size _) hb)
      clear hb
      go_wp2_with fail
      exact bodyPost_ret (v := .tuple #[.string V, .int .i64 E]) (by simp [results, Tryd.results19, go_sem]) rfl ⟨rfl, HB3.out⟩
    · rw [if_neg h4, if_neg h4]
      have c4 : decide (0 < a4) = false := decide_eq_false h4
      obtain ⟨m, hm⟩ : ∃ m : Nat, a3 = (s.size : Int) + m := ⟨(a3 - s.size).toNat, by omega⟩
      have e3 : (a3 - (s.size : Int)).toNat = m := by omega
      have hw3 : IntKind.i64.wrap (a3 - (s.size : Int)) = (m : Int) := by rw [show a3 - (s.size : Int) = (m : Int) by omega]; exact IntWalk.i64_in _ (by omega)
      have HR := Lib.hid (fun w => sp_call m (by omega) w)
      rw [e3]
      have hmi : (m : Int) ≤ 255 := by omega
      have zs : (bst (List.replicate m 32)).size ≤ 400 := by rw [bst_size, List.length_replicate]; omega
      have zs2 : s.size ≤ 400 := by omega
      generalize bst (List.replicate m 32) = R at *
      subst hm
      have e5 : (s.size : Int) + (m : Int) - (s.size : Int) = (m : Int) := by omega
      clear hw3
      go_enter Tryd.func19, Tryd.ntmps19
      go_wp2_with fail
      refine HC.out.mono ?_
      rintro e w1 ⟨rfl, hb⟩
      have HB1 := Lib.hid hb
      clear hb
      go_wp2_with fail
      refine (HFd.out _ (HXX.out.call HB1.out)).mono ?_
      rintro e w2 ⟨rfl, hb⟩
      have HB2 := Lib.hid (below_call HB1.out hb)
      clear hb
      go_wp2_with fail
      try rw [e5]
      refine (HR.out _).mono ?_
      rintro e w3 ⟨rfl, hb⟩
      have HB3 := Lib.hid (below_call (HB2.out.alloc HB2.out.size _) hb)
      clear hb
      go_wp2_with fail
      exact bodyPost_ret (v := .tuple #[.string (s ++ R), .int .i64 0]) (by simp [results, Tryd.results19, go_sem]) rfl ⟨rfl, HB3.out⟩
  · rw [if_pos h0, if_pos h0]
    generalize ckE n s = E at *
    have c0 : (E == 0) = false := beq_eq_false_iff_ne.2 h0
    have c1 : (E != 0) = true := by rw [bne, c0]; rfl
    clear h0 hX hT
    go_enter Tryd.func19, Tryd.ntmps19
    go_wp2_with fail
    refine HC.out.mono ?_
    rintro e w1 ⟨rfl, hb⟩
    have HB1 := Lib.hid hb
    clear hb
    go_wp2_with fail
    exact bodyPost_ret (v := .tuple #[.string ⟨#[]⟩, .int .i64 E]) (by simp [results, Tryd.results19, go_sem]) rfl ⟨rfl, HB1.out⟩
end Go.Proofs.YtjkfckkmofcpdaaDoor
