/- Inverse of both. -/
import Derived.Test.YtpabgmdgoghahaaDoorC
set_option linter.unusedVariables false
set_option linter.unusedSimpArgs false
namespace Go.Proofs.YtpabgmdgoghahaaDoor
open Go.Sort Go.ChangeShapes Go.WideShapes Go.ChangeAt Go.RowKit
/-- the zero rate -/
def rt0 : Value := rt ⟨#[]⟩ ⟨#[]⟩ 0 0
theorem sB_len {f t : ByteArray} (h : sB f t = true) : f.size = 3 ∧ t.size = 3 := by
  simp only [sB, curL, Bool.and_eq_true, decide_eq_true_eq] at h
  exact ⟨h.1.1.1, h.1.2.1⟩
theorem chk_zero {f t : ByteArray} {n d : Int} (h : chkR f t n d = 0) : sB f t = true ∧ (1 ≤ n ∧ n ≤ 1099511627776) ∧ (1 ≤ d ∧ d ≤ 1099511627776) := by
  unfold chkR at h
  split at h
  · omega
  · rename_i h1
    split at h
    · omega
    · rename_i h2
      simp only [Bool.not_eq_false, pB, Bool.and_eq_true, decide_eq_true_eq] at h1 h2
      exact ⟨h1, h2.1, h2.2⟩
theorem chk_vals (f t : ByteArray) (n d : Int) : chkR f t n d = 0 ∨ chkR f t n d = 4 ∨ chkR f t n d = 11 := by
  unfold chkR; split
  · exact .inr (.inr rfl)
  · split
    · exact .inr (.inl rfl)
    · exact .inl rfl
set_option maxHeartbeats 1000000 in
theorem inv_ok (f t : ByteArray) (n d : Int) (w : World) (hf : f.size ≤ maxLen) (ht : t.size ≤ maxLen) (h : chkR f t n d = 0) :
    Calls Tryd.prog 19 #[rt f t n d] w fun e w' => e = .returned (.tuple #[rt t f (redN d n) (redD d n), .int .i64 0]) ∧ Below w.heap.size w w' := by
  obtain ⟨-, hn, hd⟩ := chk_zero h
  have hc := fun w => check_any f t n d w hf ht
  rw [h] at hc
  have HC := Lib.hid hc
  have HR : Hid (∀ w, _) := Lib.hid (fun w => reduce_any d n w (by omega) (by omega))
  generalize redN d n = x at *
  generalize redD d n = y at *
  unfold rt at *
  clear hc h hn hd hf ht
  go_enter Tryd.func19, Tryd.ntmps19
  go_wp2_with fail
  refine (HC.out _).mono ?_
  rintro e w1 ⟨rfl, hb⟩
  obtain ⟨d1, o1, rfl⟩ := regrow_of hb
  clear hb
  go_wp2_with fail
  refine (HR.out _).mono ?_
  rintro e w1 ⟨rfl, hb⟩
  obtain ⟨d2, o2, rfl⟩ := regrow_of hb
  clear hb
  go_wp2_with fail
  exact bodyPost_ret (v := .tuple #[.agg #[.string t, .string f, .int .i64 x, .int .i64 y], .int .i64 0]) (by simp [results, Tryd.results19, go_sem]) rfl ⟨rfl, bre (al (al (Below.refl _ _))) _ _⟩
theorem inv_no (f t : ByteArray) (n d : Int) (w : World) (hf : f.size ≤ maxLen) (ht : t.size ≤ maxLen) (E : Int) (h : chkR f t n d = E) (h0 : E ≠ 0) :
    Calls Tryd.prog 19 #[rt f t n d] w fun e w' => e = .returned (.tuple #[rt0, .int .i64 E]) ∧ Below w.heap.size w w' := by
  have hc := fun w => check_any f t n d w hf ht
  rw [h] at hc
  have HC := Lib.hid hc
  have hE : (E != 0) = true := by rw [bne_iff_ne]; exact h0
  unfold rt0 rt at *
  clear hc h h0 hf ht
  go_enter Tryd.func19, Tryd.ntmps19
  go_wp2_with fail
  refine (HC.out _).mono ?_
  rintro e w1 ⟨rfl, hb⟩
  obtain ⟨d1, o1, rfl⟩ := regrow_of hb
  clear hb
  go_wp2_with fail
  exact bodyPost_ret (v := .tuple #[.agg #[.string ⟨#[]⟩, .string ⟨#[]⟩, .int .i64 0, .int .i64 0], .int .i64 E]) (by simp [results, Tryd.results19, go_sem]) rfl ⟨rfl, bre (al (al (Below.refl _ _))) _ _⟩
set_option maxHeartbeats 1000000 in
theorem rinv_ok (f t : ByteArray) (n d : Int) (w : World) (hf : f.size ≤ maxLen) (ht : t.size ≤ maxLen) (h : chkR f t n d = 0) :
    Calls Tryd.prog 20 #[rt f t n d] w fun e w' => e = .returned (.tuple #[rt t f (redN d n) (redD d n), .int .i64 0]) ∧ Below w.heap.size w w' := by
  obtain ⟨-, hn, hd⟩ := chk_zero h
  have hc := fun w => rcheck_any f t n d w hf ht
  rw [h] at hc
  have HC := Lib.hid hc
  have HR : Hid (∀ w, _) := Lib.hid (fun w => rreduce_any d n w (by omega) (by omega))
  generalize redN d n = x at *
  generalize redD d n = y at *
  unfold rt at *
  clear hc h hn hd hf ht
  go_enter Tryd.func20, Tryd.ntmps20
  go_wp2_with fail
  refine (HC.out _).mono ?_
  rintro e w1 ⟨rfl, hb⟩
  obtain ⟨d1, o1, rfl⟩ := regrow_of hb
  clear hb
  go_wp2_with fail
  refine (HR.out _).mono ?_
  rintro e w1 ⟨rfl, hb⟩
  obtain ⟨d2, o2, rfl⟩ := regrow_of hb
  clear hb
  go_wp2_with fail
  exact bodyPost_ret (v := .tuple #[.agg #[.string t, .string f, .int .i64 x, .int .i64 y], .int .i64 0]) (by simp [results, Tryd.results20, go_sem]) rfl ⟨rfl, bre (al (al (Below.refl _ _))) _ _⟩
theorem rinv_no (f t : ByteArray) (n d : Int) (w : World) (hf : f.size ≤ maxLen) (ht : t.size ≤ maxLen) (E : Int) (h : chkR f t n d = E) (h0 : E ≠ 0) :
    Calls Tryd.prog 20 #[rt f t n d] w fun e w' => e = .returned (.tuple #[rt0, .int .i64 E]) ∧ Below w.heap.size w w' := by
  have hc := fun w => rcheck_any f t n d w hf ht
  rw [h] at hc
  have HC := Lib.hid hc
  have hE : (E != 0) = true := by rw [bne_iff_ne]; exact h0
  unfold rt0 rt at *
  clear hc h h0 hf ht
  go_enter Tryd.func20, Tryd.ntmps20
  go_wp2_with fail
  refine (HC.out _).mono ?_
  rintro e w1 ⟨rfl, hb⟩
  obtain ⟨d1, o1, rfl⟩ := regrow_of hb
  clear hb
  go_wp2_with fail
  exact bodyPost_ret (v := .tuple #[.agg #[.string ⟨#[]⟩, .string ⟨#[]⟩, .int .i64 0, .int .i64 0], .int .i64 E]) (by simp [results, Tryd.results20, go_sem]) rfl ⟨rfl, bre (al (al (Below.refl _ _))) _ _⟩
end Go.Proofs.YtpabgmdgoghahaaDoor
