/- The reference's Var. -/
import Derived.Test.YtknipjjmpdnomaaGreatDoorI
set_option linter.unusedVariables false
set_option linter.unusedSimpArgs false
namespace Go.Proofs.YtknipjjmpdnomaaGreatDoor
open Go.Sort Go.ChangeShapes Go.WideShapes Go.ChangeAt Go.RowKit
/-- what is wrong with a text of variable length after k digits, k being right -/
def vB (k : Nat) (T : ByteArray) (m E : Int) : Prop :=
  (T.size < k ∧ E = 1) ∨ (k ≤ T.size ∧ allD (ls (T.extract 0 k)) = false ∧ E = 2) ∨
  (k ≤ T.size ∧ allD (ls (T.extract 0 k)) = true ∧ ∃ v : Nat, v = valF 0 (ls (T.extract 0 k)) ∧ ((m < v ∧ E = 3) ∨ ((v : Int) ≤ m ∧ 255 < v ∧ E = 3) ∨ ((v : Int) ≤ m ∧ v ≤ 255 ∧ T.size < k + v ∧ E = 1)))
def vBad (T : ByteArray) (n m E : Int) : Prop := ((n ≠ 2 ∧ n ≠ 3) ∧ E = 4) ∨ ((n = 2 ∨ n = 3) ∧ m < 0 ∧ E = 4) ∨ (0 ≤ m ∧ n = 2 ∧ vB 2 T m E) ∨ (0 ≤ m ∧ n = 3 ∧ vB 3 T m E)
theorem rVar_dead (h : Nat) (T : ByteArray) (e n m : Int) (he : e ≠ 0) (w : World) (hk : Blk w h 44 (rr T e)) : Calls Tryz.prog 16 #[.pointer (some ⟨h, 0, none⟩), .int .i64 n, .int .i64 m] w (RP h w (.string ⟨#[]⟩) T e) := by
  obtain ⟨c0, c1, f0, f1, hl⟩ := cell2 hk
  have HK := Lib.hid hk
  have d1 : (e == 0) = false := by rw [beq_eq_false_iff_ne]; exact he
  have d2 : (e != 0) = true := by rw [bne_iff_ne]; exact he
  clear hk he
  go_enter Tryz.func16, Tryz.ntmps16
  go_wp2_with fail
  exact bodyPost_ret (v := .string ⟨#[]⟩) (by simp [results, Tryz.results16, go_sem]) rfl ⟨rfl, HK.out, Below.refl _ _, fun _ _ _ _ hb => hb⟩
theorem val_k (k : Nat) (T : ByteArray) (h : allD (ls (T.extract 0 k)) = true) (hk : k ≤ T.size) : valF 0 (ls (T.extract 0 k)) < 10 ^ k := by
  have := valF_lt _ h
  rw [← ls_size, ByteArray.size_extract, show min k T.size - 0 = k by omega] at this
  exact this
set_option maxHeartbeats 1000000 in
theorem rVar2_bad (h : Nat) (T : ByteArray) (m E : Int) (hT : T.size ≤ 1000) (hm : 0 ≤ m) (hE : vB 2 T m E) (w : World) (hk : Blk w h 44 (rr T 0)) : Calls Tryz.prog 16 #[.pointer (some ⟨h, 0, none⟩), .int .i64 2, .int .i64 m] w (RP h w (.string ⟨#[]⟩) T E) := by
  have HFL := Lib.hid (rfail_any h T 0 E w hk)
  have HK := Lib.hid (rr_set1 hk E)
  obtain ⟨c0, c1, f0, f1, hl⟩ := cell2 hk
  clear hk
  have km : decide (m < 0) = false := decide_eq_false (by omega)
  rcases hE with ⟨h1, rfl⟩ | ⟨h1, h2, rfl⟩ | ⟨h1, h2, v, hv, hE⟩
  · have k3 : decide ((T.size : Int) < 2) = true := decide_eq_true (by omega)
    clear h1
    go_enter Tryz.func16, Tryz.ntmps16
    go_wp2_with fail
    refine (HFL.out).mono ?_
    rintro x w1 ⟨rfl, rfl⟩
    go_wp2_with fail
    exact bodyPost_ret (v := .string ⟨#[]⟩) (by simp [results, Tryz.results16, go_sem]) rfl ⟨rfl, HK.out, setB _ _ _ _, setK _ _ _ _⟩
  · have k3 : decide ((T.size : Int) < 2) = false := decide_eq_false (by omega)
    have k3b : ¬ T.size < 2 := by omega
    have q1 : ∀ w : World, (Instr.slice 9 (.string T) none (some (.int .i64 2)) none).run Tryz.prog w = .ok (.string (T.extract 0 2)) w := cut_h T 2 h1
    have RD := Lib.hid (fun w => rdigits_any (T.extract 0 2) w (by rw [ByteArray.size_extract]; omega))
    rw [h2] at RD
    generalize T.extract 0 2 = A at *
    clear h1 h2
    go_enter Tryz.func16, Tryz.ntmps16
    go_wp2_with ((go_at_call 36; refine (RD.out _).mono ?_; rintro e w0 ⟨rfl, rfl⟩))
    refine (HFL.out).mono ?_
    rintro x w1 ⟨rfl, rfl⟩
    go_wp2_with fail
    exact bodyPost_ret (v := .string ⟨#[]⟩) (by simp [results, Tryz.results16, go_sem]) rfl ⟨rfl, HK.out, setB _ _ _ _, setK _ _ _ _⟩
  · have k3 : decide ((T.size : Int) < 2) = false := decide_eq_false (by omega)
    have k3b : ¬ T.size < 2 := by omega
    have q1 : ∀ w : World, (Instr.slice 9 (.string T) none (some (.int .i64 2)) none).run Tryz.prog w = .ok (.string (T.extract 0 2)) w := cut_h T 2 h1
    have RD := Lib.hid (fun w => rdigits_any (T.extract 0 2) w (by rw [ByteArray.size_extract]; omega))
    rw [h2] at RD
    have RN := Lib.hid (fun w => rnumber_any (T.extract 0 2) h2 (by rw [ByteArray.size_extract]; omega) w)
    have hvk := val_k 2 T h2 h1
    rw [← hv] at RN hvk
    generalize T.extract 0 2 = A at *
    have hvi : (v : Int) < 1000 := by omega
    clear h2 hv
    rcases hE with ⟨h5, rfl⟩ | ⟨h5, h6, rfl⟩ | ⟨h5, h6, h7, rfl⟩
    · have k5 : decide (m < (v : Int)) = true := decide_eq_true h5
      clear h1 h5 hvk
      go_enter Tryz.func16, Tryz.ntmps16
      go_wp2_with (first | (go_at_call 36; (with_reducible refine (RD.out _).mono ?_); rintro e w0 ⟨rfl, rfl⟩) | (go_at_call 37; (with_reducible refine (RN.out _).mono ?_); rintro e w00 ⟨rfl, rfl⟩))
      refine (HFL.out).mono ?_
      rintro x w1 ⟨rfl, rfl⟩
      go_wp2_with fail
      exact bodyPost_ret (v := .string ⟨#[]⟩) (by simp [results, Tryz.results16, go_sem]) rfl ⟨rfl, HK.out, setB _ _ _ _, setK _ _ _ _⟩
    · have k5 : decide (m < (v : Int)) = false := decide_eq_false (by omega)
      have k6 : decide (255 < (v : Int)) = true := decide_eq_true (by omega)
      clear h1 h5 h6 hvk
      go_enter Tryz.func16, Tryz.ntmps16
      go_wp2_with (first | (go_at_call 36; (with_reducible refine (RD.out _).mono ?_); rintro e w0 ⟨rfl, rfl⟩) | (go_at_call 37; (with_reducible refine (RN.out _).mono ?_); rintro e w00 ⟨rfl, rfl⟩))
      refine (HFL.out).mono ?_
      rintro x w1 ⟨rfl, rfl⟩
      go_wp2_with fail
      exact bodyPost_ret (v := .string ⟨#[]⟩) (by simp [results, Tryz.results16, go_sem]) rfl ⟨rfl, HK.out, setB _ _ _ _, setK _ _ _ _⟩
    · have k5 : decide (m < (v : Int)) = false := decide_eq_false (by omega)
      have k6 : decide (255 < (v : Int)) = false := decide_eq_false (by omega)
      obtain ⟨aw, haw⟩ : ∃ aw : Nat, aw = 2 + v := ⟨_, rfl⟩
      have e1 : 2 + (v : Int) = (aw : Int) := by omega
      have k7 : decide ((T.size : Int) < (aw : Int)) = true := decide_eq_true (by omega)
      have k7b : T.size < aw := by omega
      clear h1 h5 h6 h7 hvk haw
      go_enter Tryz.func16, Tryz.ntmps16
      go_wp2_with (first | (go_at_call 36; (with_reducible refine (RD.out _).mono ?_); rintro e w0 ⟨rfl, rfl⟩) | (go_at_call 37; (with_reducible refine (RN.out _).mono ?_); rintro e w00 ⟨rfl, rfl⟩))
      refine (HFL.out).mono ?_
      rintro x w1 ⟨rfl, rfl⟩
      go_wp2_with fail
      exact bodyPost_ret (v := .string ⟨#[]⟩) (by simp [results, Tryz.results16, go_sem]) rfl ⟨rfl, HK.out, setB _ _ _ _, setK _ _ _ _⟩
set_option maxHeartbeats 1000000 in
theorem rVar3_bad (h : Nat) (T : ByteArray) (m E : Int) (hT : T.size ≤ 1000) (hm : 0 ≤ m) (hE : vB 3 T m E) (w : World) (hk : Blk w h 44 (rr T 0)) : Calls Tryz.prog 16 #[.pointer (some ⟨h, 0, none⟩), .int .i64 3, .int .i64 m] w (RP h w (.string ⟨#[]⟩) T E) := by
  have HFL := Lib.hid (rfail_any h T 0 E w hk)
  have HK := Lib.hid (rr_set1 hk E)
  obtain ⟨c0, c1, f0, f1, hl⟩ := cell2 hk
  clear hk
  have km : decide (m < 0) = false := decide_eq_false (by omega)
  rcases hE with ⟨h1, rfl⟩ | ⟨h1, h2, rfl⟩ | ⟨h1, h2, v, hv, hE⟩
  · have k3 : decide ((T.size : Int) < 3) = true := decide_eq_true (by omega)
    clear h1
    go_enter Tryz.func16, Tryz.ntmps16
    go_wp2_with fail
    refine (HFL.out).mono ?_
    rintro x w1 ⟨rfl, rfl⟩
    go_wp2_with fail
    exact bodyPost_ret (v := .string ⟨#[]⟩) (by simp [results, Tryz.results16, go_sem]) rfl ⟨rfl, HK.out, setB _ _ _ _, setK _ _ _ _⟩
  · have k3 : decide ((T.size : Int) < 3) = false := decide_eq_false (by omega)
    have k3b : ¬ T.size < 3 := by omega
    have q1 : ∀ w : World, (Instr.slice 9 (.string T) none (some (.int .i64 3)) none).run Tryz.prog w = .ok (.string (T.extract 0 3)) w := cut_h T 3 h1
    have RD := Lib.hid (fun w => rdigits_any (T.extract 0 3) w (by rw [ByteArray.size_extract]; omega))
    rw [h2] at RD
    generalize T.extract 0 3 = A at *
    clear h1 h2
    go_enter Tryz.func16, Tryz.ntmps16
    go_wp2_with ((go_at_call 36; refine (RD.out _).mono ?_; rintro e w0 ⟨rfl, rfl⟩))
    refine (HFL.out).mono ?_
    rintro x w1 ⟨rfl, rfl⟩
    go_wp2_with fail
    exact bodyPost_ret (v := .string ⟨#[]⟩) (by simp [results, Tryz.results16, go_sem]) rfl ⟨rfl, HK.out, setB _ _ _ _, setK _ _ _ _⟩
  · have k3 : decide ((T.size : Int) < 3) = false := decide_eq_false (by omega)
    have k3b : ¬ T.size < 3 := by omega
    have q1 : ∀ w : World, (Instr.slice 9 (.string T) none (some (.int .i64 3)) none).run Tryz.prog w = .ok (.string (T.extract 0 3)) w := cut_h T 3 h1
    have RD := Lib.hid (fun w => rdigits_any (T.extract 0 3) w (by rw [ByteArray.size_extract]; omega))
    rw [h2] at RD
    have RN := Lib.hid (fun w => rnumber_any (T.extract 0 3) h2 (by rw [ByteArray.size_extract]; omega) w)
    have hvk := val_k 3 T h2 h1
    rw [← hv] at RN hvk
    generalize T.extract 0 3 = A at *
    have hvi : (v : Int) < 1000 := by omega
    clear h2 hv
    rcases hE with ⟨h5, rfl⟩ | ⟨h5, h6, rfl⟩ | ⟨h5, h6, h7, rfl⟩
    · have k5 : decide (m < (v : Int)) = true := decide_eq_true h5
      clear h1 h5 hvk
      go_enter Tryz.func16, Tryz.ntmps16
      go_wp2_with (first | (go_at_call 36; (with_reducible refine (RD.out _).mono ?_); rintro e w0 ⟨rfl, rfl⟩) | (go_at_call 37; (with_reducible refine (RN.out _).mono ?_); rintro e w00 ⟨rfl, rfl⟩))
      refine (HFL.out).mono ?_
      rintro x w1 ⟨rfl, rfl⟩
      go_wp2_with fail
      exact bodyPost_ret (v := .string ⟨#[]⟩) (by simp [results, Tryz.results16, go_sem]) rfl ⟨rfl, HK.out, setB _ _ _ _, setK _ _ _ _⟩
    · have k5 : decide (m < (v : Int)) = false := decide_eq_false (by omega)
      have k6 : decide (255 < (v : Int)) = true := decide_eq_true (by omega)
      clear h1 h5 h6 hvk
      go_enter Tryz.func16, Tryz.ntmps16
      go_wp2_with (first | (go_at_call 36; (with_reducible refine (RD.out _).mono ?_); rintro e w0 ⟨rfl, rfl⟩) | (go_at_call 37; (with_reducible refine (RN.out _).mono ?_); rintro e w00 ⟨rfl, rfl⟩))
      refine (HFL.out).mono ?_
      rintro x w1 ⟨rfl, rfl⟩
      go_wp2_with fail
      exact bodyPost_ret (v := .string ⟨#[]⟩) (by simp [results, Tryz.results16, go_sem]) rfl ⟨rfl, HK.out, setB _ _ _ _, setK _ _ _ _⟩
    · have k5 : decide (m < (v : Int)) = false := decide_eq_false (by omega)
      have k6 : decide (255 < (v : Int)) = false := decide_eq_false (by omega)
      obtain ⟨aw, haw⟩ : ∃ aw : Nat, aw = 3 + v := ⟨_, rfl⟩
      have e1 : 3 + (v : Int) = (aw : Int) := by omega
      have k7 : decide ((T.size : Int) < (aw : Int)) = true := decide_eq_true (by omega)
      have k7b : T.size < aw := by omega
      clear h1 h5 h6 h7 hvk haw
      go_enter Tryz.func16, Tryz.ntmps16
      go_wp2_with (first | (go_at_call 36; (with_reducible refine (RD.out _).mono ?_); rintro e w0 ⟨rfl, rfl⟩) | (go_at_call 37; (with_reducible refine (RN.out _).mono ?_); rintro e w00 ⟨rfl, rfl⟩))
      refine (HFL.out).mono ?_
      rintro x w1 ⟨rfl, rfl⟩
      go_wp2_with fail
      exact bodyPost_ret (v := .string ⟨#[]⟩) (by simp [results, Tryz.results16, go_sem]) rfl ⟨rfl, HK.out, setB _ _ _ _, setK _ _ _ _⟩
set_option maxHeartbeats 1000000 in
theorem rVar_bad (h : Nat) (T : ByteArray) (n m E : Int) (hT : T.size ≤ 1000) (hE : vBad T n m E) (w : World) (hk : Blk w h 44 (rr T 0)) : Calls Tryz.prog 16 #[.pointer (some ⟨h, 0, none⟩), .int .i64 n, .int .i64 m] w (RP h w (.string ⟨#[]⟩) T E) := by
  rcases hE with ⟨⟨h1, h2⟩, rfl⟩ | ⟨h1, h2, rfl⟩ | ⟨h1, rfl, h2⟩ | ⟨h1, rfl, h2⟩
  · have HFL := Lib.hid (rfail_any h T 0 4 w hk)
    have HK := Lib.hid (rr_set1 hk 4)
    obtain ⟨c0, c1, f0, f1, hl⟩ := cell2 hk
    have n1 : (n != 2) = true := by rw [bne_iff_ne]; exact h1
    have n2 : (n != 3) = true := by rw [bne_iff_ne]; exact h2
    have n3 : (n == 2) = false := by rw [beq_eq_false_iff_ne]; exact h1
    have n4 : (n == 3) = false := by rw [beq_eq_false_iff_ne]; exact h2
    clear hk h1 h2
    go_enter Tryz.func16, Tryz.ntmps16
    go_wp2_with fail
    refine (HFL.out).mono ?_
    rintro x w1 ⟨rfl, rfl⟩
    go_wp2_with fail
    exact bodyPost_ret (v := .string ⟨#[]⟩) (by simp [results, Tryz.results16, go_sem]) rfl ⟨rfl, HK.out, setB _ _ _ _, setK _ _ _ _⟩
  · have HFL := Lib.hid (rfail_any h T 0 4 w hk)
    have HK := Lib.hid (rr_set1 hk 4)
    obtain ⟨c0, c1, f0, f1, hl⟩ := cell2 hk
    have km : decide (m < 0) = true := decide_eq_true h2
    clear hk h2
    rcases h1 with rfl | rfl
    · go_enter Tryz.func16, Tryz.ntmps16
      go_wp2_with fail
      refine (HFL.out).mono ?_
      rintro x w1 ⟨rfl, rfl⟩
      go_wp2_with fail
      exact bodyPost_ret (v := .string ⟨#[]⟩) (by simp [results, Tryz.results16, go_sem]) rfl ⟨rfl, HK.out, setB _ _ _ _, setK _ _ _ _⟩
    · go_enter Tryz.func16, Tryz.ntmps16
      go_wp2_with fail
      refine (HFL.out).mono ?_
      rintro x w1 ⟨rfl, rfl⟩
      go_wp2_with fail
      exact bodyPost_ret (v := .string ⟨#[]⟩) (by simp [results, Tryz.results16, go_sem]) rfl ⟨rfl, HK.out, setB _ _ _ _, setK _ _ _ _⟩
  · exact rVar2_bad h T m E hT h1 h2 w hk
  · exact rVar3_bad h T m E hT h1 h2 w hk
theorem ex_ex (T : ByteArray) (k aw : Nat) (h : k ≤ aw) (ha : aw ≤ T.size) : (T.extract 0 aw).extract k (T.extract 0 aw).size = T.extract k aw := by
  refine ls_ext ?_
  rw [ByteArray.size_extract, show min aw T.size - 0 = aw by omega, ls_ex, ls_ex, ls_ex, List.drop_zero, Nat.sub_zero, List.drop_take, List.take_take, Nat.min_self]
set_option maxHeartbeats 1000000 in
theorem rVar2_ok (h v aw : Nat) (T : ByteArray) (m : Int) (hm : (v : Int) ≤ m) (hT : T.size ≤ 1000) (hd : allD (ls (T.extract 0 2)) = true) (hv : v = valF 0 (ls (T.extract 0 2))) (haw : 2 + v = aw) (hv2 : v ≤ 255) (ha : aw ≤ T.size) (w : World) (hk : Blk w h 44 (rr T 0)) : Calls Tryz.prog 16 #[.pointer (some ⟨h, 0, none⟩), .int .i64 2, .int .i64 m] w (RP h w (.string (T.extract 2 aw)) (T.extract aw T.size) 0) := by
  have HTK := Lib.hid (rtake_any h aw T 0 ha (by omega) w hk)
  have HK := Lib.hid (rr_set0 hk (T.extract aw T.size))
  obtain ⟨c0, c1, f0, f1, hl⟩ := cell2 hk
  have km : decide (m < 0) = false := decide_eq_false (by omega)
  have k3 : decide ((T.size : Int) < 2) = false := decide_eq_false (by omega)
  have k3b : ¬ T.size < 2 := by omega
  have q1 : ∀ w : World, (Instr.slice 9 (.string T) none (some (.int .i64 2)) none).run Tryz.prog w = .ok (.string (T.extract 0 2)) w := cut_h T 2 (by omega)
  have q2 : ∀ w : World, (Instr.slice 9 (.string (T.extract 0 aw)) (some (.int .i64 2)) none none).run Tryz.prog w = .ok (.string (T.extract 2 aw)) w := fun w => by
    have := cut_l (T.extract 0 aw) 2 (by rw [ByteArray.size_extract]; omega) w
    rw [ex_ex T 2 aw (by omega) ha] at this
    exact this
  have RD := Lib.hid (fun w => rdigits_any (T.extract 0 2) w (by rw [ByteArray.size_extract]; omega))
  rw [hd] at RD
  have RN := Lib.hid (fun w => rnumber_any (T.extract 0 2) hd (by rw [ByteArray.size_extract]; omega) w)
  rw [← hv] at RN
  have k5 : decide (m < (v : Int)) = false := decide_eq_false (by omega)
  have k6 : decide (255 < (v : Int)) = false := decide_eq_false (by omega)
  have e1 : 2 + (v : Int) = (aw : Int) := by omega
  have k7 : decide ((T.size : Int) < (aw : Int)) = false := decide_eq_false (by omega)
  have k7b : ¬ T.size < aw := by omega
  have hvi : (v : Int) ≤ 255 := by omega
  clear hv hd hk
  generalize T.extract 0 2 = A at *
  generalize T.extract 0 aw = A2 at *
  generalize T.extract 2 aw = X at *
  generalize T.extract aw T.size = B at *
  clear haw ha hm
  go_enter Tryz.func16, Tryz.ntmps16
  go_wp2_with (first | (go_at_call 36; (with_reducible refine (RD.out _).mono ?_); rintro e w0 ⟨rfl, rfl⟩) | (go_at_call 37; (with_reducible refine (RN.out _).mono ?_); rintro e w00 ⟨rfl, rfl⟩))
  refine (HTK.out).mono ?_
  rintro x w1 ⟨rfl, rfl⟩
  go_wp2_with fail
  exact bodyPost_ret (v := .string X) (by simp [results, Tryz.results16, go_sem]) rfl ⟨rfl, HK.out, setB _ _ _ _, setK _ _ _ _⟩
set_option maxHeartbeats 1000000 in
theorem rVar3_ok (h v aw : Nat) (T : ByteArray) (m : Int) (hm : (v : Int) ≤ m) (hT : T.size ≤ 1000) (hd : allD (ls (T.extract 0 3)) = true) (hv : v = valF 0 (ls (T.extract 0 3))) (haw : 3 + v = aw) (hv2 : v ≤ 255) (ha : aw ≤ T.size) (w : World) (hk : Blk w h 44 (rr T 0)) : Calls Tryz.prog 16 #[.pointer (some ⟨h, 0, none⟩), .int .i64 3, .int .i64 m] w (RP h w (.string (T.extract 3 aw)) (T.extract aw T.size) 0) := by
  have HTK := Lib.hid (rtake_any h aw T 0 ha (by omega) w hk)
  have HK := Lib.hid (rr_set0 hk (T.extract aw T.size))
  obtain ⟨c0, c1, f0, f1, hl⟩ := cell2 hk
  have km : decide (m < 0) = false := decide_eq_false (by omega)
  have k3 : decide ((T.size : Int) < 3) = false := decide_eq_false (by omega)
  have k3b : ¬ T.size < 3 := by omega
  have q1 : ∀ w : World, (Instr.slice 9 (.string T) none (some (.int .i64 3)) none).run Tryz.prog w = .ok (.string (T.extract 0 3)) w := cut_h T 3 (by omega)
  have q2 : ∀ w : World, (Instr.slice 9 (.string (T.extract 0 aw)) (some (.int .i64 3)) none none).run Tryz.prog w = .ok (.string (T.extract 3 aw)) w := fun w => by
    have := cut_l (T.extract 0 aw) 3 (by rw [ByteArray.size_extract]; omega) w
    rw [ex_ex T 3 aw (by omega) ha] at this
    exact this
  have RD := Lib.hid (fun w => rdigits_any (T.extract 0 3) w (by rw [ByteArray.size_extract]; omega))
  rw [hd] at RD
  have RN := Lib.hid (fun w => rnumber_any (T.extract 0 3) hd (by rw [ByteArray.size_extract]; omega) w)
  rw [← hv] at RN
  have k5 : decide (m < (v : Int)) = false := decide_eq_false (by omega)
  have k6 : decide (255 < (v : Int)) = false := decide_eq_false (by omega)
  have e1 : 3 + (v : Int) = (aw : Int) := by omega
  have k7 : decide ((T.size : Int) < (aw : Int)) = false := decide_eq_false (by omega)
  have k7b : ¬ T.size < aw := by omega
  have hvi : (v : Int) ≤ 255 := by omega
  clear hv hd hk
  generalize T.extract 0 3 = A at *
  generalize T.extract 0 aw = A2 at *
  generalize T.extract 3 aw = X at *
  generalize T.extract aw T.size = B at *
  clear haw ha hm
  go_enter Tryz.func16, Tryz.ntmps16
  go_wp2_with (first | (go_at_call 36; (with_reducible refine (RD.out _).mono ?_); rintro e w0 ⟨rfl, rfl⟩) | (go_at_call 37; (with_reducible refine (RN.out _).mono ?_); rintro e w00 ⟨rfl, rfl⟩))
  refine (HTK.out).mono ?_
  rintro x w1 ⟨rfl, rfl⟩
  go_wp2_with fail
  exact bodyPost_ret (v := .string X) (by simp [results, Tryz.results16, go_sem]) rfl ⟨rfl, HK.out, setB _ _ _ _, setK _ _ _ _⟩
end Go.Proofs.YtknipjjmpdnomaaGreatDoor
