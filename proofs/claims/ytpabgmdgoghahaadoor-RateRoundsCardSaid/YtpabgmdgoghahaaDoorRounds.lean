/- RateRounds: the walk, whole. -/
import Derived.Test.YtpabgmdgoghahaaDoorZ
set_option linter.unusedVariables false
set_option linter.unusedSimpArgs false
namespace Go.Proofs.YtpabgmdgoghahaaDoor.rateRounds
open Go.Sort Go.ChangeShapes Go.WideShapes Go.ChangeAt Go.RowKit
theorem sB_cur {f t : ByteArray} (h : sB f t = true) : curL t.data.toList = true ∧ sB t f = true := by
  simp only [sB, Bool.and_eq_true, Bool.not_eq_true', beq_eq_false_iff_ne] at h
  refine ⟨h.1.2, ?_⟩
  simp only [sB, Bool.and_eq_true, Bool.not_eq_true', beq_eq_false_iff_ne]
  exact ⟨⟨h.1.2, h.1.1⟩, fun e => h.2 e.symm⟩
theorem chk_of {f t : ByteArray} {n d : Int} (h : sB f t = true) (hn : 1 ≤ n ∧ n ≤ 1099511627776) (hd : 1 ≤ d ∧ d ≤ 1099511627776) : chkR f t n d = 0 := by
  unfold chkR
  rw [if_neg (by rw [h]; decide), if_neg]
  simp only [Bool.not_eq_false, Bool.and_eq_true, pB, decide_eq_true_eq]
  exact ⟨hn, hd⟩
set_option maxHeartbeats 2000000 in
theorem walk (a : Int) (c f t : ByteArray) (n d mode : Int) (w : World) (wa : (Lit.int .i64 a).wf = true) (hc : c.size ≤ maxLen) (hf : f.size ≤ maxLen) (ht : t.size ≤ maxLen) (wn : (Lit.int .i64 n).wf = true) (wd : (Lit.int .i64 d).wf = true) (wm : (Lit.int .i64 mode).wf = true) :
    Calls Tryd.prog 7 #[.agg #[.int .i64 a, .string c], .agg #[.string f, .string t, .int .i64 n, .int .i64 d], .int .i64 mode] w fun e w' => e = .returned (.bool true) ∧ Below w.heap.size w w' := by
  clear wa wn wd wm
  by_cases g1 : a < -1048576
  · exact out1 a c f t n d mode w g1
  replace g1 : -1048576 ≤ a := by omega
  by_cases g2 : 1048576 < a
  · exact out2 a c f t n d mode w g1 g2
  replace g2 : a ≤ 1048576 := by omega
  by_cases g3 : 1048576 < n
  · exact out3 a c f t n d mode w g1 g2 g3
  replace g3 : n ≤ 1048576 := by omega
  by_cases g4 : 1048576 < d
  · exact out4 a c f t n d mode w g1 g2 g3 g4
  replace g4 : d ≤ 1048576 := by omega
  have hs := fun w => small_any f t n d w hf ht
  cases hb : smallB f t
  · rw [hb] at hs
    exact out5 a c f t n d mode w g1 g2 g3 g4 hs
  rw [hb] at hs
  by_cases g6 : 20 < c.size
  · exact out6 a c f t n d mode w g1 g2 g3 g4 hs hc g6
  replace g6 : c.size ≤ 20 := by omega
  cases hcur : curL c.data.toList
  · exact err a c f t n d mode w g1 g2 g3 g4 hs g6 11 (by decide) (fun w => conv_1 a c f t n d mode w hc hcur)
  by_cases he : chkR f t n d = 0
  case neg => exact err a c f t n d mode w g1 g2 g3 g4 hs g6 _ he (fun w => conv_2 a c f t n d mode w hc hf ht hcur (by omega) (by omega) _ rfl he)
  cases hcf : (c.toList == f.toList)
  · exact err a c f t n d mode w g1 g2 g3 g4 hs g6 11 (by decide) (fun w => conv_3 a c f t n d mode w hc hf ht hcur (by omega) (by omega) he hcf)
  by_cases hm : mode < 1 ∨ 4 < mode
  · exact err a c f t n d mode w g1 g2 g3 g4 hs g6 4 (by decide) (fun w => conv_4 a c f t n d mode w hc hf ht hcur (by omega) (by omega) he hcf hm)
  have m1 : 1 ≤ mode := by omega
  have m2 : mode ≤ 4 := by omega
  clear hm
  obtain ⟨hsB, hn, hd⟩ := chk_zero he
  obtain ⟨K, rfl⟩ := Int.eq_ofNat_of_zero_le (show 0 ≤ n by omega)
  obtain ⟨L, rfl⟩ := Int.eq_ofNat_of_zero_le (show 0 ≤ d by omega)
  obtain ⟨hP, hq, x, X, Y, hx, hX, hY, R⟩ := rnd a K L mode g1 g2 (by omega) (by omega) (by omega) (by omega) m1 m2
  have hv := fun w => conv_5 a c f t (K : Int) (L : Int) mode _ w hc hf ht hcur (by omega) (by omega) he hcf (fun w => scale_ok a c K L mode w hc hcur (by omega) (by omega) (by omega) (by omega) (by omega) (by omega) m1 m2 hP hq)
  rw [hx] at hv
  obtain ⟨x0, x1, X0, X1, Y0, Y1, hdown, hup, hhalf⟩ := R
  by_cases hYX : Y = X
  · subst hYX
    obtain ⟨K', L', e1, e2, k1, k2, l1, l2, b1, b2, b3, b4⟩ := back a K L x (hY.trans hX.symm) (by omega) (by omega)
    have hi := fun w => inv_ok f t (K : Int) (L : Int) w hf ht he
    rw [e1, e2] at hi
    obtain ⟨ct, hsB'⟩ := sB_cur hsB
    have he' : chkR t f (K' : Int) (L' : Int) = 0 := chk_of hsB' (by omega) (by omega)
    have hxP : x.natAbs * K' = L' * a.natAbs := by
      have := Nat.div_add_mod (x.natAbs * K') L'
      rw [b1, b2] at this
      omega
    have hxB : L' * a.natAbs ≤ 1048576 * 1048576 := Nat.mul_le_mul (by omega) (by omega)
    have hv2 := fun w => conv_5 x t t f (K' : Int) (L' : Int) mode _ w ht ht hf ct (by omega) (by omega) he' (beq_self_eq_true _) (fun w => scale_ok x t K' L' mode w ht ct (by omega) (by omega) (by omega) (by omega) (by omega) (by omega) m1 m2 (by omega) (by omega))
    rw [b1, b2, b3 mode, show ((a.natAbs : Nat) : Int) + bI false = a.natAbs from by simp [bI], b4] at hv2
    have hfc : (f.toList == c.toList) = true := by
      rw [beq_iff_eq] at hcf ⊢
      exact hcf.symm
    rcases (show mode = 1 ∨ mode = 2 ∨ mode = 3 ∨ mode = 4 from by omega) with rfl | rfl | h3
    · exact down_zero a c f t K L w g1 g2 g3 g4 hs g6 (by omega) (by omega) x Y hX hY x0 x1 X0 X1 hv K' L' hi hv2 hfc
    · exact up_zero a c f t K L w g1 g2 g3 g4 hs g6 (by omega) (by omega) x Y hX hY x0 x1 X0 X1 hv K' L' hi hv2 hfc
    · exact half_zero a c f t K L mode w g1 g2 g3 g4 hs g6 (by omega) (by omega) x Y hX hY x0 x1 X0 X1 hv (beq_eq_false_iff_ne.2 (by omega)) (beq_eq_false_iff_ne.2 (by omega)) K' L' hi hv2 hfc
  · rcases (show mode = 1 ∨ mode = 2 ∨ mode = 3 ∨ mode = 4 from by omega) with rfl | rfl | h3
    · obtain ⟨h1, h2⟩ := hdown rfl
      rcases (show Y < X ∨ X < Y from by omega) with g | g
      · exact down_neg a c f t K L w g1 g2 g3 g4 hs g6 (by omega) (by omega) x X Y hX hY x0 x1 X0 X1 Y0 Y1 hv g (by omega) h2
      · exact down_pos a c f t K L w g1 g2 g3 g4 hs g6 (by omega) (by omega) x X Y hX hY x0 x1 X0 X1 Y0 Y1 hv g (by omega) h2
    · obtain ⟨h1, h2⟩ := hup rfl
      rcases (show Y < X ∨ X < Y from by omega) with g | g
      · exact up_neg a c f t K L w g1 g2 g3 g4 hs g6 (by omega) (by omega) x X Y hX hY x0 x1 X0 X1 Y0 Y1 hv g (by omega) h2
      · exact up_pos a c f t K L w g1 g2 g3 g4 hs g6 (by omega) (by omega) x X Y hX hY x0 x1 X0 X1 Y0 Y1 hv g (by omega) h2
    · have h1 := hhalf h3
      rcases (show Y < X ∨ X < Y from by omega) with g | g
      · exact half_neg a c f t K L mode w g1 g2 g3 g4 hs g6 (by omega) (by omega) x X Y hX hY x0 x1 X0 X1 Y0 Y1 hv (beq_eq_false_iff_ne.2 (by omega)) (beq_eq_false_iff_ne.2 (by omega)) g (by omega)
      · exact half_pos a c f t K L mode w g1 g2 g3 g4 hs g6 (by omega) (by omega) x X Y hX hY x0 x1 X0 X1 Y0 Y1 hv (beq_eq_false_iff_ne.2 (by omega)) (beq_eq_false_iff_ne.2 (by omega)) g (by omega)
end Go.Proofs.YtpabgmdgoghahaaDoor.rateRounds
