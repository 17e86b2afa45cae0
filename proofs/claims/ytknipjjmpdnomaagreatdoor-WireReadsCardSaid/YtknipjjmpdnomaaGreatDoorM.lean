/- What the reading functions answer. -/
import Derived.Test.YtknipjjmpdnomaaGreatDoorJ
set_option linter.unusedVariables false
set_option linter.unusedSimpArgs false
namespace Go.Proofs.YtknipjjmpdnomaaGreatDoor
open Go.Sort Go.ChangeShapes Go.WideShapes Go.ChangeAt Go.RowKit
set_option maxHeartbeats 1000000 in
theorem clo26_bad (c : Nat) (L : ByteArray) (n E : Int) (hL : L.size ≤ 1000) (hE : nBad L n E) (w : World) (hc : w.cell? ⟨c, 0, none⟩ = some (.int .i64 n)) : Calls Tryz.prog 26 #[.string L, .pointer (some ⟨c, 0, none⟩)] w fun e w' => e = .returned (.tuple #[.int .i64 0, .int .i64 0, .int .i64 E]) ∧ Below w.heap.size w w' := by
  rcases hE with ⟨h1 | h1, rfl⟩ | ⟨h1, h2, h3, rfl⟩ | ⟨W, rfl, h1, h2, h3, h4, rfl⟩
  · have k1 : decide (n < 1) = true := decide_eq_true h1
    go_enter Tryz.func26, Tryz.ntmps26
    go_wp2_with fail
    exact bodyPost_ret (v := .tuple #[.int .i64 0, .int .i64 0, .int .i64 4]) (by simp [results, Tryz.results26, go_sem]) rfl ⟨rfl, Below.refl _ _⟩
  · have k1 : decide (n < 1) = false := decide_eq_false (by omega)
    have k2 : decide (15 < n) = true := decide_eq_true h1
    go_enter Tryz.func26, Tryz.ntmps26
    go_wp2_with fail
    exact bodyPost_ret (v := .tuple #[.int .i64 0, .int .i64 0, .int .i64 4]) (by simp [results, Tryz.results26, go_sem]) rfl ⟨rfl, Below.refl _ _⟩
  · have k1 : decide (n < 1) = false := decide_eq_false (by omega)
    have k2 : decide (15 < n) = false := decide_eq_false (by omega)
    have k3 : decide ((L.size : Int) < n) = true := decide_eq_true h3
    clear h1 h2 h3
    go_enter Tryz.func26, Tryz.ntmps26
    go_wp2_with fail
    exact bodyPost_ret (v := .tuple #[.int .i64 0, .int .i64 0, .int .i64 1]) (by simp [results, Tryz.results26, go_sem]) rfl ⟨rfl, Below.refl _ _⟩
  · have k1 : decide ((W : Int) < 1) = false := decide_eq_false (by omega)
    have k1b : ¬ W = 0 := by omega
    have k2 : decide (15 < (W : Int)) = false := decide_eq_false (by omega)
    have k3 : decide ((L.size : Int) < (W : Int)) = false := decide_eq_false (by omega)
    have k3b : ¬ L.size < W := by omega
    have q1 := cut_h L W h3
    have RD := Lib.hid (fun w => isdigits_any (L.extract 0 W) w (by unfold maxLen; rw [ByteArray.size_extract]; omega))
    rw [show isD (L.extract 0 W) = false by unfold isD; rw [show allD (L.extract 0 W).data.toList = false from h4]; rfl] at RD
    generalize L.extract 0 W = A at *
    clear h1 h2 h3 h4
    go_enter Tryz.func26, Tryz.ntmps26
    go_wp2_with (go_at_call 27; refine (RD.out _).mono ?_; rintro e w0 ⟨rfl, rfl⟩)
    exact bodyPost_ret (v := .tuple #[.int .i64 0, .int .i64 0, .int .i64 2]) (by simp [results, Tryz.results26, go_sem]) rfl ⟨rfl, Below.refl _ _⟩
set_option maxHeartbeats 1000000 in
theorem clo29_bad (c : Nat) (L : ByteArray) (n E : Int) (hL : L.size ≤ 1000) (hE : aBad L n E) (w : World) (hc : w.cell? ⟨c, 0, none⟩ = some (.int .i64 n)) : Calls Tryz.prog 29 #[.string L, .pointer (some ⟨c, 0, none⟩)] w fun e w' => e = .returned (.tuple #[.int .i64 0, .int .i64 0, .int .i64 E]) ∧ Below w.heap.size w w' := by
  rcases hE with ⟨h1 | h1, rfl⟩ | ⟨h1, h2, h3, rfl⟩ | ⟨W, rfl, h1, h2, h3, h4, rfl⟩
  · have k1 : decide (n < 1) = true := decide_eq_true h1
    go_enter Tryz.func29, Tryz.ntmps29
    go_wp2_with fail
    exact bodyPost_ret (v := .tuple #[.int .i64 0, .int .i64 0, .int .i64 4]) (by simp [results, Tryz.results29, go_sem]) rfl ⟨rfl, Below.refl _ _⟩
  · have k1 : decide (n < 1) = false := decide_eq_false (by omega)
    have k2 : decide (255 < n) = true := decide_eq_true h1
    go_enter Tryz.func29, Tryz.ntmps29
    go_wp2_with fail
    exact bodyPost_ret (v := .tuple #[.int .i64 0, .int .i64 0, .int .i64 4]) (by simp [results, Tryz.results29, go_sem]) rfl ⟨rfl, Below.refl _ _⟩
  · have k1 : decide (n < 1) = false := decide_eq_false (by omega)
    have k2 : decide (255 < n) = false := decide_eq_false (by omega)
    have k3 : decide ((L.size : Int) < n) = true := decide_eq_true h3
    clear h1 h2 h3
    go_enter Tryz.func29, Tryz.ntmps29
    go_wp2_with fail
    exact bodyPost_ret (v := .tuple #[.int .i64 0, .int .i64 0, .int .i64 1]) (by simp [results, Tryz.results29, go_sem]) rfl ⟨rfl, Below.refl _ _⟩
  · have k1 : decide ((W : Int) < 1) = false := decide_eq_false (by omega)
    have k1b : ¬ W = 0 := by omega
    have k2 : decide (255 < (W : Int)) = false := decide_eq_false (by omega)
    have k3 : decide ((L.size : Int) < (W : Int)) = false := decide_eq_false (by omega)
    have k3b : ¬ L.size < W := by omega
    have q1 := cut_h L W h3
    have RD := Lib.hid (fun w => isprint_any (L.extract 0 W) (by rw [ByteArray.size_extract]; omega) w)
    rw [h4] at RD
    generalize L.extract 0 W = A at *
    clear h1 h2 h3 h4
    go_enter Tryz.func29, Tryz.ntmps29
    go_wp2_with (go_at_call 30; refine (RD.out _).mono ?_; rintro e w0 ⟨rfl, rfl⟩)
    exact bodyPost_ret (v := .tuple #[.int .i64 0, .int .i64 0, .int .i64 2]) (by simp [results, Tryz.results29, go_sem]) rfl ⟨rfl, Below.refl _ _⟩
set_option maxHeartbeats 1000000 in
theorem clo34_bad (c : Nat) (L : ByteArray) (n E : Int) (hL : L.size ≤ 1000) (hE : tBad L n E) (w : World) (hc : w.cell? ⟨c, 0, none⟩ = some (.int .i64 n)) : Calls Tryz.prog 34 #[.string L, .pointer (some ⟨c, 0, none⟩)] w fun e w' => e = .returned (.tuple #[.int .i64 0, .int .i64 0, .int .i64 E]) ∧ Below w.heap.size w w' := by
  rcases hE with ⟨h1, rfl⟩ | ⟨h1, h2, rfl⟩
  · have k1 : decide (n < 0) = true := decide_eq_true h1
    go_enter Tryz.func34, Tryz.ntmps34
    go_wp2_with fail
    exact bodyPost_ret (v := .tuple #[.int .i64 0, .int .i64 0, .int .i64 4]) (by simp [results, Tryz.results34, go_sem]) rfl ⟨rfl, Below.refl _ _⟩
  · have k1 : decide (n < 0) = false := decide_eq_false (by omega)
    have k2 : decide ((L.size : Int) < n) = true := decide_eq_true h2
    clear h1 h2
    go_enter Tryz.func34, Tryz.ntmps34
    go_wp2_with fail
    exact bodyPost_ret (v := .tuple #[.int .i64 0, .int .i64 0, .int .i64 1]) (by simp [results, Tryz.results34, go_sem]) rfl ⟨rfl, Below.refl _ _⟩
theorem clo34_ok (c W : Nat) (L : ByteArray) (hL : L.size ≤ 1000) (hW : W ≤ L.size) (w : World) (hc : w.cell? ⟨c, 0, none⟩ = some (.int .i64 (W : Nat))) : Calls Tryz.prog 34 #[.string L, .pointer (some ⟨c, 0, none⟩)] w fun e w' => e = .returned (.tuple #[.int .i64 (W : Nat), .int .i64 0, .int .i64 0]) ∧ Below w.heap.size w w' := by
  have k1 : decide ((W : Int) < 0) = false := decide_eq_false (by omega)
  have k2 : decide ((L.size : Int) < (W : Int)) = false := decide_eq_false (by omega)
  have k2b : ¬ L.size < W := by omega
  clear hW hL
  go_enter Tryz.func34, Tryz.ntmps34
  go_wp2_with fail
  exact bodyPost_ret (v := .tuple #[.int .i64 (W : Nat), .int .i64 0, .int .i64 0]) (by simp [results, Tryz.results34, go_sem]) rfl ⟨rfl, Below.refl _ _⟩
set_option maxHeartbeats 2000000 in
theorem clo32_bad2 (c d : Nat) (L : ByteArray) (m E : Int) (hL : L.size ≤ 1000) (hm : 0 ≤ m) (hE : vB 2 L m E) (w : World) (hc : w.cell? ⟨c, 0, none⟩ = some (.int .i64 2)) (hd : w.cell? ⟨d, 0, none⟩ = some (.int .i64 m)) : Calls Tryz.prog 32 #[.string L, .pointer (some ⟨c, 0, none⟩), .pointer (some ⟨d, 0, none⟩)] w fun e w' => e = .returned (.tuple #[.int .i64 0, .int .i64 0, .int .i64 E]) ∧ Below w.heap.size w w' := by
  have lc : c < w.heap.size := block_lt_of_cell hc
  have ld : d < w.heap.size := block_lt_of_cell hd
  have km : decide (m < 0) = false := decide_eq_false (by omega)
  have hLi : (L.size : Int) ≤ 1000 := by omega
  rcases hE with ⟨h1, rfl⟩ | ⟨h1, h2, rfl⟩ | ⟨h1, h2, v, hv, hE⟩
  · have k3 : decide ((L.size : Int) < 2) = true := decide_eq_true (by omega)
    clear h1
    go_enter Tryz.func32, Tryz.ntmps32
    go_wp2_with fail
    exact bodyPost_ret (v := .tuple #[.int .i64 0, .int .i64 0, .int .i64 1]) (by simp [results, Tryz.results32, go_sem]) rfl ⟨rfl, Below.refl _ _⟩
  · have k3 : decide ((L.size : Int) < 2) = false := decide_eq_false (by omega)
    have k3b : ¬ L.size < 2 := by omega
    have q1 : ∀ w : World, (Instr.slice 9 (.string L) none (some (.int .i64 2)) none).run Tryz.prog w = .ok (.string (L.extract 0 2)) w := cut_h L 2 (by omega)
    have H1 := Lib.hid (fun w => isdigits_any (L.extract 0 2) w (by unfold maxLen; rw [ByteArray.size_extract]; omega))
    rw [show isD (L.extract 0 2) = false by unfold isD; rw [show allD (L.extract 0 2).data.toList = false from h2]; rfl] at H1
    generalize L.extract 0 2 = A at *
    clear h1 h2
    go_enter Tryz.func32, Tryz.ntmps32
    go_wp2_with (go_at_call 27; refine (H1.out _).mono ?_; rintro e w0 ⟨rfl, rfl⟩)
    exact bodyPost_ret (v := .tuple #[.int .i64 0, .int .i64 0, .int .i64 2]) (by simp [results, Tryz.results32, go_sem]) rfl ⟨rfl, Below.refl _ _⟩
  · have k3 : decide ((L.size : Int) < 2) = false := decide_eq_false (by omega)
    have k3b : ¬ L.size < 2 := by omega
    have q1 : ∀ w : World, (Instr.slice 9 (.string L) none (some (.int .i64 2)) none).run Tryz.prog w = .ok (.string (L.extract 0 2)) w := cut_h L 2 (by omega)
    have H1 := Lib.hid (fun w => isdigits_any (L.extract 0 2) w (by unfold maxLen; rw [ByteArray.size_extract]; omega))
    have hz : (L.extract 0 2).size = 2 := by rw [ByteArray.size_extract]; omega
    rw [show isD (L.extract 0 2) = true by unfold isD; rw [size_pos_list (by omega), show allD (L.extract 0 2).data.toList = true from h2]; rfl] at H1
    have hat := atoi_valF (ls (L.extract 0 2)) h2 (fun e => by rw [ls_size, e] at hz; cases hz)
    rw [← hv] at hat
    have H2 := Lib.hid (fun w => atoi_call (L.extract 0 2) v (by omega) hat w)
    have hvk := val_k 2 L h2 h1
    rw [← hv] at hvk
    have hvi : (v : Int) < 1000 := by omega
    have hli : 2 ≤ (L.size : Int) := by omega
    generalize L.extract 0 2 = A at *
    clear h2 hv hat hz
    rcases hE with ⟨h5, rfl⟩ | ⟨h5, h6, rfl⟩ | ⟨h5, h6, h7, rfl⟩
    · have k5 : decide (m < (v : Int)) = true := decide_eq_true h5
      clear h1 h5 hvk
      go_enter Tryz.func32, Tryz.ntmps32
      go_wp2_with (go_at_call 27; refine (H1.out _).mono ?_; rintro e w0 ⟨rfl, rfl⟩)
      refine (H2.out _).mono ?_
      rintro e w1 ⟨rfl, hb⟩
      obtain ⟨k, os, rfl⟩ := regrow_of hb
      clear hb
      go_wp2_with fail
      exact bodyPost_ret (v := .tuple #[.int .i64 0, .int .i64 0, .int .i64 3]) (by simp [results, Tryz.results32, go_sem]) rfl ⟨rfl, below_regrown _ _ _⟩
    · have k5 : decide (m < (v : Int)) = false := decide_eq_false (by omega)
      have k6 : decide (255 < (v : Int)) = true := decide_eq_true (by omega)
      clear h1 h5 h6 hvk
      go_enter Tryz.func32, Tryz.ntmps32
      go_wp2_with (go_at_call 27; refine (H1.out _).mono ?_; rintro e w0 ⟨rfl, rfl⟩)
      refine (H2.out _).mono ?_
      rintro e w1 ⟨rfl, hb⟩
      obtain ⟨k, os, rfl⟩ := regrow_of hb
      clear hb
      go_wp2_with fail
      exact bodyPost_ret (v := .tuple #[.int .i64 0, .int .i64 0, .int .i64 3]) (by simp [results, Tryz.results32, go_sem]) rfl ⟨rfl, below_regrown _ _ _⟩
    · have k5 : decide (m < (v : Int)) = false := decide_eq_false (by omega)
      have k6 : decide (255 < (v : Int)) = false := decide_eq_false (by omega)
      have k7 : decide ((L.size : Int) - 2 < (v : Int)) = true := decide_eq_true (by omega)
      clear h1 h5 h6 h7 hvk
      go_enter Tryz.func32, Tryz.ntmps32
      go_wp2_with (go_at_call 27; refine (H1.out _).mono ?_; rintro e w0 ⟨rfl, rfl⟩)
      refine (H2.out _).mono ?_
      rintro e w1 ⟨rfl, hb⟩
      obtain ⟨k, os, rfl⟩ := regrow_of hb
      clear hb
      go_wp2_with fail
      exact bodyPost_ret (v := .tuple #[.int .i64 0, .int .i64 0, .int .i64 1]) (by simp [results, Tryz.results32, go_sem]) rfl ⟨rfl, below_regrown _ _ _⟩
set_option maxHeartbeats 2000000 in
theorem clo32_ok2 (c d v aw : Nat) (L : ByteArray) (m : Int) (hL : L.size ≤ 1000) (hm : (v : Int) ≤ m) (h2 : allD (ls (L.extract 0 2)) = true) (hv : v = valF 0 (ls (L.extract 0 2))) (haw : 2 + v = aw) (hv2 : v ≤ 255) (ha : aw ≤ L.size) (w : World) (hc : w.cell? ⟨c, 0, none⟩ = some (.int .i64 2)) (hd : w.cell? ⟨d, 0, none⟩ = some (.int .i64 m)) : Calls Tryz.prog 32 #[.string L, .pointer (some ⟨c, 0, none⟩), .pointer (some ⟨d, 0, none⟩)] w fun e w' => e = .returned (.tuple #[.int .i64 (aw : Nat), .int .i64 2, .int .i64 0]) ∧ Below w.heap.size w w' := by
  have lc : c < w.heap.size := block_lt_of_cell hc
  have ld : d < w.heap.size := block_lt_of_cell hd
  have km : decide (m < 0) = false := decide_eq_false (by omega)
  have hLi : (L.size : Int) ≤ 1000 := by omega
  have h1 : 2 ≤ L.size := by omega
  have k3 : decide ((L.size : Int) < 2) = false := decide_eq_false (by omega)
  have k3b : ¬ L.size < 2 := by omega
  have q1 : ∀ w : World, (Instr.slice 9 (.string L) none (some (.int .i64 2)) none).run Tryz.prog w = .ok (.string (L.extract 0 2)) w := cut_h L 2 (by omega)
  have H1 := Lib.hid (fun w => isdigits_any (L.extract 0 2) w (by unfold maxLen; rw [ByteArray.size_extract]; omega))
  have hz : (L.extract 0 2).size = 2 := by rw [ByteArray.size_extract]; omega
  rw [show isD (L.extract 0 2) = true by unfold isD; rw [size_pos_list (by omega), show allD (L.extract 0 2).data.toList = true from h2]; rfl] at H1
  have hat := atoi_valF (ls (L.extract 0 2)) h2 (fun e => by rw [ls_size, e] at hz; cases hz)
  rw [← hv] at hat
  have H2 := Lib.hid (fun w => atoi_call (L.extract 0 2) v (by omega) hat w)
  have hvk := val_k 2 L h2 h1
  rw [← hv] at hvk
  have hvi : (v : Int) < 1000 := by omega
  have hli : 2 ≤ (L.size : Int) := by omega
  have k5 : decide (m < (v : Int)) = false := decide_eq_false (by omega)
  have k6 : decide (255 < (v : Int)) = false := decide_eq_false (by omega)
  have k7 : decide ((L.size : Int) - 2 < (v : Int)) = false := decide_eq_false (by omega)
  have e1 : 2 + (v : Int) = (aw : Int) := by omega
  generalize L.extract 0 2 = A at *
  clear h1 h2 hv hat hz haw ha hm hvk hL
  go_enter Tryz.func32, Tryz.ntmps32
  go_wp2_with (go_at_call 27; refine (H1.out _).mono ?_; rintro e w0 ⟨rfl, rfl⟩)
  refine (H2.out _).mono ?_
  rintro e w1 ⟨rfl, hb⟩
  obtain ⟨k, os, rfl⟩ := regrow_of hb
  clear hb
  go_wp2_with fail
  go_quiet (fail)
  go_wp2_with fail
  exact bodyPost_ret (v := .tuple #[.int .i64 (aw : Nat), .int .i64 2, .int .i64 0]) (by simp [results, Tryz.results32, go_sem]) rfl ⟨rfl, bdn (below_regrown _ _ _) _⟩
set_option maxHeartbeats 2000000 in
theorem clo32_bad3 (c d : Nat) (L : ByteArray) (m E : Int) (hL : L.size ≤ 1000) (hm : 0 ≤ m) (hE : vB 3 L m E) (w : World) (hc : w.cell? ⟨c, 0, none⟩ = some (.int .i64 3)) (hd : w.cell? ⟨d, 0, none⟩ = some (.int .i64 m)) : Calls Tryz.prog 32 #[.string L, .pointer (some ⟨c, 0, none⟩), .pointer (some ⟨d, 0, none⟩)] w fun e w' => e = .returned (.tuple #[.int .i64 0, .int .i64 0, .int .i64 E]) ∧ Below w.heap.size w w' := by
  have lc : c < w.heap.size := block_lt_of_cell hc
  have ld : d < w.heap.size := block_lt_of_cell hd
  have km : decide (m < 0) = false := decide_eq_false (by omega)
  have hLi : (L.size : Int) ≤ 1000 := by omega
  rcases hE with ⟨h1, rfl⟩ | ⟨h1, h2, rfl⟩ | ⟨h1, h2, v, hv, hE⟩
  · have k3 : decide ((L.size : Int) < 3) = true := decide_eq_true (by omega)
    clear h1
    go_enter Tryz.func32, Tryz.ntmps32
    go_wp2_with fail
    exact bodyPost_ret (v := .tuple #[.int .i64 0, .int .i64 0, .int .i64 1]) (by simp [results, Tryz.results32, go_sem]) rfl ⟨rfl, Below.refl _ _⟩
  · have k3 : decide ((L.size : Int) < 3) = false := decide_eq_false (by omega)
    have k3b : ¬ L.size < 3 := by omega
    have q1 : ∀ w : World, (Instr.slice 9 (.string L) none (some (.int .i64 3)) none).run Tryz.prog w = .ok (.string (L.extract 0 3)) w := cut_h L 3 (by omega)
    have H1 := Lib.hid (fun w => isdigits_any (L.extract 0 3) w (by unfold maxLen; rw [ByteArray.size_extract]; omega))
    rw [show isD (L.extract 0 3) = false by unfold isD; rw [show allD (L.extract 0 3).data.toList = false from h2]; rfl] at H1
    generalize L.extract 0 3 = A at *
    clear h1 h2
    go_enter Tryz.func32, Tryz.ntmps32
    go_wp2_with (go_at_call 27; refine (H1.out _).mono ?_; rintro e w0 ⟨rfl, rfl⟩)
    exact bodyPost_ret (v := .tuple #[.int .i64 0, .int .i64 0, .int .i64 2]) (by simp [results, Tryz.results32, go_sem]) rfl ⟨rfl, Below.refl _ _⟩
  · have k3 : decide ((L.size : Int) < 3) = false := decide_eq_false (by omega)
    have k3b : ¬ L.size < 3 := by omega
    have q1 : ∀ w : World, (Instr.slice 9 (.string L) none (some (.int .i64 3)) none).run Tryz.prog w = .ok (.string (L.extract 0 3)) w := cut_h L 3 (by omega)
    have H1 := Lib.hid (fun w => isdigits_any (L.extract 0 3) w (by unfold maxLen; rw [ByteArray.size_extract]; omega))
    have hz : (L.extract 0 3).size = 3 := by rw [ByteArray.size_extract]; omega
    rw [show isD (L.extract 0 3) = true by unfold isD; rw [size_pos_list (by omega), show allD (L.extract 0 3).data.toList = true from h2]; rfl] at H1
    have hat := atoi_valF (ls (L.extract 0 3)) h2 (fun e => by rw [ls_size, e] at hz; cases hz)
    rw [← hv] at hat
    have H2 := Lib.hid (fun w => atoi_call (L.extract 0 3) v (by omega) hat w)
    have hvk := val_k 3 L h2 h1
    rw [← hv] at hvk
    have hvi : (v : Int) < 1000 := by omega
    have hli : 3 ≤ (L.size : Int) := by omega
    generalize L.extract 0 3 = A at *
    clear h2 hv hat hz
    rcases hE with ⟨h5, rfl⟩ | ⟨h5, h6, rfl⟩ | ⟨h5, h6, h7, rfl⟩
    · have k5 : decide (m < (v : Int)) = true := decide_eq_true h5
      clear h1 h5 hvk
      go_enter Tryz.func32, Tryz.ntmps32
      go_wp2_with (go_at_call 27; refine (H1.out _).mono ?_; rintro e w0 ⟨rfl, rfl⟩)
      refine (H2.out _).mono ?_
      rintro e w1 ⟨rfl, hb⟩
      obtain ⟨k, os, rfl⟩ := regrow_of hb
      clear hb
      go_wp2_with fail
      exact bodyPost_ret (v := .tuple #[.int .i64 0, .int .i64 0, .int .i64 3]) (by simp [results, Tryz.results32, go_sem]) rfl ⟨rfl, below_regrown _ _ _⟩
    · have k5 : decide (m < (v : Int)) = false := decide_eq_false (by omega)
      have k6 : decide (255 < (v : Int)) = true := decide_eq_true (by omega)
      clear h1 h5 h6 hvk
      go_enter Tryz.func32, Tryz.ntmps32
      go_wp2_with (go_at_call 27; refine (H1.out _).mono ?_; rintro e w0 ⟨rfl, rfl⟩)
      refine (H2.out _).mono ?_
      rintro e w1 ⟨rfl, hb⟩
      obtain ⟨k, os, rfl⟩ := regrow_of hb
      clear hb
      go_wp2_with fail
      exact bodyPost_ret (v := .tuple #[.int .i64 0, .int .i64 0, .int .i64 3]) (by simp [results, Tryz.results32, go_sem]) rfl ⟨rfl, below_regrown _ _ _⟩
    · have k5 : decide (m < (v : Int)) = false := decide_eq_false (by omega)
      have k6 : decide (255 < (v : Int)) = false := decide_eq_false (by omega)
      have k7 : decide ((L.size : Int) - 3 < (v : Int)) = true := decide_eq_true (by omega)
      clear h1 h5 h6 h7 hvk
      go_enter Tryz.func32, Tryz.ntmps32
      go_wp2_with (go_at_call 27; refine (H1.out _).mono ?_; rintro e w0 ⟨rfl, rfl⟩)
      refine (H2.out _).mono ?_
      rintro e w1 ⟨rfl, hb⟩
      obtain ⟨k, os, rfl⟩ := regrow_of hb
      clear hb
      go_wp2_with fail
      exact bodyPost_ret (v := .tuple #[.int .i64 0, .int .i64 0, .int .i64 1]) (by simp [results, Tryz.results32, go_sem]) rfl ⟨rfl, below_regrown _ _ _⟩
set_option maxHeartbeats 2000000 in
theorem clo32_ok3 (c d v aw : Nat) (L : ByteArray) (m : Int) (hL : L.size ≤ 1000) (hm : (v : Int) ≤ m) (h2 : allD (ls (L.extract 0 3)) = true) (hv : v = valF 0 (ls (L.extract 0 3))) (haw : 3 + v = aw) (hv2 : v ≤ 255) (ha : aw ≤ L.size) (w : World) (hc : w.cell? ⟨c, 0, none⟩ = some (.int .i64 3)) (hd : w.cell? ⟨d, 0, none⟩ = some (.int .i64 m)) : Calls Tryz.prog 32 #[.string L, .pointer (some ⟨c, 0, none⟩), .pointer (some ⟨d, 0, none⟩)] w fun e w' => e = .returned (.tuple #[.int .i64 (aw : Nat), .int .i64 3, .int .i64 0]) ∧ Below w.heap.size w w' := by
  have lc : c < w.heap.size := block_lt_of_cell hc
  have ld : d < w.heap.size := block_lt_of_cell hd
  have km : decide (m < 0) = false := decide_eq_false (by omega)
  have hLi : (L.size : Int) ≤ 1000 := by omega
  have h1 : 3 ≤ L.size := by omega
  have k3 : decide ((L.size : Int) < 3) = false := decide_eq_false (by omega)
  have k3b : ¬ L.size < 3 := by omega
  have q1 : ∀ w : World, (Instr.slice 9 (.string L) none (some (.int .i64 3)) none).run Tryz.prog w = .ok (.string (L.extract 0 3)) w := cut_h L 3 (by omega)
  have H1 := Lib.hid (fun w => isdigits_any (L.extract 0 3) w (by unfold maxLen; rw [ByteArray.size_extract]; omega))
  have hz : (L.extract 0 3).size = 3 := by rw [ByteArray.size_extract]; omega
  rw [show isD (L.extract 0 3) = true by unfold isD; rw [size_pos_list (by omega), show allD (L.extract 0 3).data.toList = true from h2]; rfl] at H1
  have hat := atoi_valF (ls (L.extract 0 3)) h2 (fun e => by rw [ls_size, e] at hz; cases hz)
  rw [← hv] at hat
  have H2 := Lib.hid (fun w => atoi_call (L.extract 0 3) v (by omega) hat w)
  have hvk := val_k 3 L h2 h1
  rw [← hv] at hvk
  have hvi : (v : Int) < 1000 := by omega
  have hli : 3 ≤ (L.size : Int) := by omega
  have k5 : decide (m < (v : Int)) = false := decide_eq_false (by omega)
  have k6 : decide (255 < (v : Int)) = false := decide_eq_false (by omega)
  have k7 : decide ((L.size : Int) - 3 < (v : Int)) = false := decide_eq_false (by omega)
  have e1 : 3 + (v : Int) = (aw : Int) := by omega
  generalize L.extract 0 3 = A at *
  clear h1 h2 hv hat hz haw ha hm hvk hL
  go_enter Tryz.func32, Tryz.ntmps32
  go_wp2_with (go_at_call 27; refine (H1.out _).mono ?_; rintro e w0 ⟨rfl, rfl⟩)
  refine (H2.out _).mono ?_
  rintro e w1 ⟨rfl, hb⟩
  obtain ⟨k, os, rfl⟩ := regrow_of hb
  clear hb
  go_wp2_with fail
  go_quiet (fail)
  go_wp2_with fail
  exact bodyPost_ret (v := .tuple #[.int .i64 (aw : Nat), .int .i64 3, .int .i64 0]) (by simp [results, Tryz.results32, go_sem]) rfl ⟨rfl, bdn (below_regrown _ _ _) _⟩
set_option maxHeartbeats 1000000 in
theorem clo32_bad (c d : Nat) (L : ByteArray) (n m E : Int) (hL : L.size ≤ 1000) (hE : vBad L n m E) (w : World) (hc : w.cell? ⟨c, 0, none⟩ = some (.int .i64 n)) (hd : w.cell? ⟨d, 0, none⟩ = some (.int .i64 m)) : Calls Tryz.prog 32 #[.string L, .pointer (some ⟨c, 0, none⟩), .pointer (some ⟨d, 0, none⟩)] w fun e w' => e = .returned (.tuple #[.int .i64 0, .int .i64 0, .int .i64 E]) ∧ Below w.heap.size w w' := by
  rcases hE with ⟨⟨h1, h2⟩, rfl⟩ | ⟨h1, h2, rfl⟩ | ⟨h1, rfl, h2⟩ | ⟨h1, rfl, h2⟩
  · have n1 : (n != 2) = true := by rw [bne_iff_ne]; exact h1
    have n2 : (n != 3) = true := by rw [bne_iff_ne]; exact h2
    have n3 : (n == 2) = false := by rw [beq_eq_false_iff_ne]; exact h1
    have n4 : (n == 3) = false := by rw [beq_eq_false_iff_ne]; exact h2
    clear h1 h2
    go_enter Tryz.func32, Tryz.ntmps32
    go_wp2_with fail
    exact bodyPost_ret (v := .tuple #[.int .i64 0, .int .i64 0, .int .i64 4]) (by simp [results, Tryz.results32, go_sem]) rfl ⟨rfl, Below.refl _ _⟩
  · have km : decide (m < 0) = true := decide_eq_true h2
    clear h2
    rcases h1 with rfl | rfl
    · go_enter Tryz.func32, Tryz.ntmps32
      go_wp2_with fail
      exact bodyPost_ret (v := .tuple #[.int .i64 0, .int .i64 0, .int .i64 4]) (by simp [results, Tryz.results32, go_sem]) rfl ⟨rfl, Below.refl _ _⟩
    · go_enter Tryz.func32, Tryz.ntmps32
      go_wp2_with fail
      exact bodyPost_ret (v := .tuple #[.int .i64 0, .int .i64 0, .int .i64 4]) (by simp [results, Tryz.results32, go_sem]) rfl ⟨rfl, Below.refl _ _⟩
  · exact clo32_bad2 c d L m E hL h1 h2 w hc hd
  · exact clo32_bad3 c d L m E hL h1 h2 w hc hd
end Go.Proofs.YtknipjjmpdnomaaGreatDoor
