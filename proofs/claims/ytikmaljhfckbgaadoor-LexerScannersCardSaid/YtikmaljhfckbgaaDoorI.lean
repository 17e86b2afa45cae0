/- literal, mark, lexeme of the program. -/
import Derived.Test.YtikmaljhfckbgaaDoorH
set_option linter.unusedVariables false
set_option linter.unusedSimpArgs false
namespace Go.Proofs.YtikmaljhfckbgaaDoor
open Go.Sort Go.ChangeShapes Go.WideShapes Go.ChangeAt Go.RowKit
set_option maxHeartbeats 2000000 in
set_option maxRecDepth 100000 in
theorem isl_long (s : ByteArray) (h : decide ((s.size : Int) ≤ 100) = false) (w : World) : Calls Tryd.prog 69 #[.string s] w fun e w' => e = .returned (.bool false) ∧ w' = w := by
  go_enter Tryd.func69, Tryd.ntmps69
  go_wp2_with fail
  go_ret
  exact ⟨rfl, rfl⟩
set_option maxHeartbeats 2000000 in
set_option maxRecDepth 100000 in
theorem isl_ok (s : ByteArray) (h : decide ((s.size : Int) ≤ 100) = true) (P : Hid (∀ w, Calls Tryd.prog 68 #[.string s] w fun e w' => e = .returned (.bool true) ∧ w' = w)) (C : Hid (∀ w, Calls Tryd.prog 81 #[.string s, .string ⟨#[34]⟩] w fun e w' => e = .returned (.bool false) ∧ w' = w)) (w : World) :
    Calls Tryd.prog 69 #[.string s] w fun e w' => e = .returned (.bool true) ∧ w' = w := by
  go_enter Tryd.func69, Tryd.ntmps69
  go_wp2_with fail
  refine (P.out _).mono ?_
  rintro e q ⟨rfl, rfl⟩
  go_wp2_with fail
  refine (C.out _).mono ?_
  rintro e q ⟨rfl, rfl⟩
  go_wp2_with fail
  go_ret
  exact ⟨rfl, rfl⟩
set_option maxHeartbeats 2000000 in
set_option maxRecDepth 100000 in
theorem li_nf (s : ByteArray) (w : World) (h0 : 1 ≤ s.size) (hs : s.size ≤ 10000) (A B : ByteArray) (f : Bool) (hA : A.size ≤ 10000) (K : Hid (∀ w, Calls Tryd.prog 67 #[.string (s.extract 1 s.size), .string ⟨#[34]⟩] w fun e w' => e = .returned (.tuple #[.string A, .string B, .bool f]) ∧ Below w.heap.size w w')) (hf : f = false) :
    Calls Tryd.prog 50 #[.string s] w fun e w' => e = .returned (.tuple #[.int .i64 0, lx 0 ⟨#[]⟩ 0 0, .int .i64 2]) ∧ Below w.heap.size w w' := by
  have z1 : ∀ w, (Instr.slice 9 (.string s) (some (.int .i64 1)) none none).run Tryd.prog w = .ok (.string (s.extract 1 s.size)) w := fun w => cut_l s 1 h0 w
  have hAi : (A.size : Int) ≤ 10000 := by omega
  have h1i : (1 : Int) ≤ (s.size : Int) := by omega
  subst hf
  go_enter Tryd.func50, Tryd.ntmps50
  go_wp2_with fail
  refine (K.out _).mono ?_
  rintro e q ⟨rfl, hb⟩
  obtain ⟨d1, o1, rfl⟩ := regrow_of hb
  clear hb
  go_wp2_with fail
  exact bodyPost_ret (v := .tuple #[.int .i64 0, lx 0 ⟨#[]⟩ 0 0, .int .i64 2]) (by simp [results, Tryd.results50, go_sem]) rfl ⟨rfl, (by repeat (first | exact Below.refl _ _ | refine al ?_ | refine bre ?_ _ _ | refine Below.drew ?_))⟩
set_option maxHeartbeats 2000000 in
set_option maxRecDepth 100000 in
theorem li_np (s : ByteArray) (w : World) (h0 : 1 ≤ s.size) (hs : s.size ≤ 10000) (A B : ByteArray) (f : Bool) (hA : A.size ≤ 10000) (K : Hid (∀ w, Calls Tryd.prog 67 #[.string (s.extract 1 s.size), .string ⟨#[34]⟩] w fun e w' => e = .returned (.tuple #[.string A, .string B, .bool f]) ∧ Below w.heap.size w w')) (hf : f = true) (P : Hid (∀ w, Calls Tryd.prog 68 #[.string A] w fun e w' => e = .returned (.bool false) ∧ w' = w)) :
    Calls Tryd.prog 50 #[.string s] w fun e w' => e = .returned (.tuple #[.int .i64 0, lx 0 ⟨#[]⟩ 0 0, .int .i64 2]) ∧ Below w.heap.size w w' := by
  have z1 : ∀ w, (Instr.slice 9 (.string s) (some (.int .i64 1)) none none).run Tryd.prog w = .ok (.string (s.extract 1 s.size)) w := fun w => cut_l s 1 h0 w
  have hAi : (A.size : Int) ≤ 10000 := by omega
  have h1i : (1 : Int) ≤ (s.size : Int) := by omega
  subst hf
  go_enter Tryd.func50, Tryd.ntmps50
  go_wp2_with fail
  refine (K.out _).mono ?_
  rintro e q ⟨rfl, hb⟩
  obtain ⟨d1, o1, rfl⟩ := regrow_of hb
  clear hb
  go_wp2_with fail
  refine (P.out _).mono ?_
  rintro e q ⟨rfl, rfl⟩
  go_wp2_with fail
  exact bodyPost_ret (v := .tuple #[.int .i64 0, lx 0 ⟨#[]⟩ 0 0, .int .i64 2]) (by simp [results, Tryd.results50, go_sem]) rfl ⟨rfl, (by repeat (first | exact Below.refl _ _ | refine al ?_ | refine bre ?_ _ _ | refine Below.drew ?_))⟩
set_option maxHeartbeats 2000000 in
set_option maxRecDepth 100000 in
theorem li_long (s : ByteArray) (w : World) (h0 : 1 ≤ s.size) (hs : s.size ≤ 10000) (A B : ByteArray) (f : Bool) (hA : A.size ≤ 10000) (K : Hid (∀ w, Calls Tryd.prog 67 #[.string (s.extract 1 s.size), .string ⟨#[34]⟩] w fun e w' => e = .returned (.tuple #[.string A, .string B, .bool f]) ∧ Below w.heap.size w w')) (hf : f = true) (P : Hid (∀ w, Calls Tryd.prog 68 #[.string A] w fun e w' => e = .returned (.bool true) ∧ w' = w)) (L : Hid (∀ w, Calls Tryd.prog 69 #[.string A] w fun e w' => e = .returned (.bool false) ∧ w' = w)) :
    Calls Tryd.prog 50 #[.string s] w fun e w' => e = .returned (.tuple #[.int .i64 0, lx 0 ⟨#[]⟩ 0 0, .int .i64 3]) ∧ Below w.heap.size w w' := by
  have z1 : ∀ w, (Instr.slice 9 (.string s) (some (.int .i64 1)) none none).run Tryd.prog w = .ok (.string (s.extract 1 s.size)) w := fun w => cut_l s 1 h0 w
  have hAi : (A.size : Int) ≤ 10000 := by omega
  have h1i : (1 : Int) ≤ (s.size : Int) := by omega
  subst hf
  go_enter Tryd.func50, Tryd.ntmps50
  go_wp2_with fail
  refine (K.out _).mono ?_
  rintro e q ⟨rfl, hb⟩
  obtain ⟨d1, o1, rfl⟩ := regrow_of hb
  clear hb
  go_wp2_with fail
  refine (P.out _).mono ?_
  rintro e q ⟨rfl, rfl⟩
  go_wp2_with fail
  refine (L.out _).mono ?_
  rintro e q ⟨rfl, rfl⟩
  go_wp2_with fail
  exact bodyPost_ret (v := .tuple #[.int .i64 0, lx 0 ⟨#[]⟩ 0 0, .int .i64 3]) (by simp [results, Tryd.results50, go_sem]) rfl ⟨rfl, (by repeat (first | exact Below.refl _ _ | refine al ?_ | refine bre ?_ _ _ | refine Below.drew ?_))⟩
set_option maxHeartbeats 2000000 in
set_option maxRecDepth 100000 in
theorem li_ok (s : ByteArray) (w : World) (h0 : 1 ≤ s.size) (hs : s.size ≤ 10000) (A B : ByteArray) (f : Bool) (hA : A.size ≤ 10000) (K : Hid (∀ w, Calls Tryd.prog 67 #[.string (s.extract 1 s.size), .string ⟨#[34]⟩] w fun e w' => e = .returned (.tuple #[.string A, .string B, .bool f]) ∧ Below w.heap.size w w')) (hf : f = true) (P : Hid (∀ w, Calls Tryd.prog 68 #[.string A] w fun e w' => e = .returned (.bool true) ∧ w' = w)) (L : Hid (∀ w, Calls Tryd.prog 69 #[.string A] w fun e w' => e = .returned (.bool true) ∧ w' = w)) (C : Hid (∀ w, Calls Tryd.prog 64 #[.string A] w fun e w' => e = .returned (.string A) ∧ Below w.heap.size w w')) :
    Calls Tryd.prog 50 #[.string s] w fun e w' => e = .returned (.tuple #[.int .i64 ((A.size : Int) + 2), lx 3 A 0 0, .int .i64 0]) ∧ Below w.heap.size w w' := by
  have z1 : ∀ w, (Instr.slice 9 (.string s) (some (.int .i64 1)) none none).run Tryd.prog w = .ok (.string (s.extract 1 s.size)) w := fun w => cut_l s 1 h0 w
  have hAi : (A.size : Int) ≤ 10000 := by omega
  have h1i : (1 : Int) ≤ (s.size : Int) := by omega
  subst hf
  go_enter Tryd.func50, Tryd.ntmps50
  go_wp2_with fail
  refine (K.out _).mono ?_
  rintro e q ⟨rfl, hb⟩
  obtain ⟨d1, o1, rfl⟩ := regrow_of hb
  clear hb
  go_wp2_with fail
  refine (P.out _).mono ?_
  rintro e q ⟨rfl, rfl⟩
  go_wp2_with fail
  refine (L.out _).mono ?_
  rintro e q ⟨rfl, rfl⟩
  go_wp2_with fail
  refine (C.out _).mono ?_
  rintro e q ⟨rfl, hb⟩
  obtain ⟨d2, o2, rfl⟩ := regrow_of hb
  clear hb
  go_wp2_with fail
  exact bodyPost_ret (v := .tuple #[.int .i64 ((A.size : Int) + 2), lx 3 A 0 0, .int .i64 0]) (by simp [results, Tryd.results50, go_sem]) rfl ⟨rfl, (by repeat (first | exact Below.refl _ _ | refine al ?_ | refine bre ?_ _ _ | refine Below.drew ?_))⟩
set_option maxHeartbeats 2000000 in
set_option maxRecDepth 100000 in
theorem mk_a (s : ByteArray) (w : World) (hs : s.size ≤ 10000) (h2 : 2 ≤ s.size) (P : Hid (∀ w, Calls Tryd.prog 28 #[.string s, .string ⟨#[33, 61]⟩] w fun e w' => e = .returned (.bool true) ∧ w' = w)) (C : Hid (∀ w, Calls Tryd.prog 64 #[.string (s.extract 0 2)] w fun e w' => e = .returned (.string (s.extract 0 2)) ∧ Below w.heap.size w w')) :
    Calls Tryd.prog 51 #[.string s] w fun e w' => e = .returned (.tuple #[.int .i64 2, lx 4 (s.extract 0 2) 0 0, .int .i64 0]) ∧ Below w.heap.size w w' := by
  have hsi : (s.size : Int) ≤ 10000 := by omega
  have z1 : ∀ w, (Instr.slice 9 (.string s) none (some (.int .i64 2)) none).run Tryd.prog w = .ok (.string (s.extract 0 2)) w := fun w => cut_h s 2 h2 w
  have h2i : (2 : Int) ≤ (s.size : Int) := by omega
  go_enter Tryd.func51, Tryd.ntmps51
  go_wp2_with fail
  refine (P.out _).mono ?_
  rintro e q ⟨rfl, rfl⟩
  go_wp2_with fail
  refine (C.out _).mono ?_
  rintro e q ⟨rfl, hb⟩
  obtain ⟨d1, o1, rfl⟩ := regrow_of hb
  clear hb
  go_wp2_with fail
  exact bodyPost_ret (v := .tuple #[.int .i64 2, lx 4 (s.extract 0 2) 0 0, .int .i64 0]) (by simp [results, Tryd.results51, go_sem]) rfl ⟨rfl, (by repeat (first | exact Below.refl _ _ | refine al ?_ | refine bre ?_ _ _ | refine Below.drew ?_))⟩
set_option maxHeartbeats 2000000 in
set_option maxRecDepth 100000 in
theorem mk_b (s : ByteArray) (w : World) (hs : s.size ≤ 10000) (h2 : 2 ≤ s.size) (P : Hid (∀ w, Calls Tryd.prog 28 #[.string s, .string ⟨#[33, 61]⟩] w fun e w' => e = .returned (.bool false) ∧ w' = w)) (Q : Hid (∀ w, Calls Tryd.prog 28 #[.string s, .string ⟨#[60, 61]⟩] w fun e w' => e = .returned (.bool true) ∧ w' = w)) (C : Hid (∀ w, Calls Tryd.prog 64 #[.string (s.extract 0 2)] w fun e w' => e = .returned (.string (s.extract 0 2)) ∧ Below w.heap.size w w')) :
    Calls Tryd.prog 51 #[.string s] w fun e w' => e = .returned (.tuple #[.int .i64 2, lx 4 (s.extract 0 2) 0 0, .int .i64 0]) ∧ Below w.heap.size w w' := by
  have hsi : (s.size : Int) ≤ 10000 := by omega
  have z1 : ∀ w, (Instr.slice 9 (.string s) none (some (.int .i64 2)) none).run Tryd.prog w = .ok (.string (s.extract 0 2)) w := fun w => cut_h s 2 h2 w
  have h2i : (2 : Int) ≤ (s.size : Int) := by omega
  go_enter Tryd.func51, Tryd.ntmps51
  go_wp2_with fail
  refine (P.out _).mono ?_
  rintro e q ⟨rfl, rfl⟩
  go_wp2_with fail
  refine (Q.out _).mono ?_
  rintro e q ⟨rfl, rfl⟩
  go_wp2_with fail
  refine (C.out _).mono ?_
  rintro e q ⟨rfl, hb⟩
  obtain ⟨d1, o1, rfl⟩ := regrow_of hb
  clear hb
  go_wp2_with fail
  exact bodyPost_ret (v := .tuple #[.int .i64 2, lx 4 (s.extract 0 2) 0 0, .int .i64 0]) (by simp [results, Tryd.results51, go_sem]) rfl ⟨rfl, (by repeat (first | exact Below.refl _ _ | refine al ?_ | refine bre ?_ _ _ | refine Below.drew ?_))⟩
set_option maxHeartbeats 2000000 in
set_option maxRecDepth 100000 in
theorem mk_c (s : ByteArray) (w : World) (hs : s.size ≤ 10000) (h1 : 1 ≤ s.size) (c : ((s[0].toNat : Int) == 33) = true) (P : Hid (∀ w, Calls Tryd.prog 28 #[.string s, .string ⟨#[33, 61]⟩] w fun e w' => e = .returned (.bool false) ∧ w' = w)) (Q : Hid (∀ w, Calls Tryd.prog 28 #[.string s, .string ⟨#[60, 61]⟩] w fun e w' => e = .returned (.bool false) ∧ w' = w)) :
    Calls Tryd.prog 51 #[.string s] w fun e w' => e = .returned (.tuple #[.int .i64 0, lx 0 ⟨#[]⟩ 0 0, .int .i64 2]) ∧ Below w.heap.size w w' := by
  have hsi : (s.size : Int) ≤ 10000 := by omega
  have z1 : ∀ w, (Instr.slice 9 (.string s) none (some (.int .i64 1)) none).run Tryd.prog w = .ok (.string (s.extract 0 1)) w := fun w => cut_h s 1 h1 w
  have h2i : (1 : Int) ≤ (s.size : Int) := by omega
  have q0 := idx_at s 0 (by omega)
  have h0i : (0 : Int) < (s.size : Int) := by omega
  go_enter Tryd.func51, Tryd.ntmps51
  go_wp2_with fail
  refine (P.out _).mono ?_
  rintro e q ⟨rfl, rfl⟩
  go_wp2_with fail
  refine (Q.out _).mono ?_
  rintro e q ⟨rfl, rfl⟩
  go_wp2_with fail
  exact bodyPost_ret (v := .tuple #[.int .i64 0, lx 0 ⟨#[]⟩ 0 0, .int .i64 2]) (by simp [results, Tryd.results51, go_sem]) rfl ⟨rfl, (by repeat (first | exact Below.refl _ _ | refine al ?_ | refine bre ?_ _ _ | refine Below.drew ?_))⟩
set_option maxHeartbeats 2000000 in
set_option maxRecDepth 100000 in
theorem mk_d (s : ByteArray) (w : World) (hs : s.size ≤ 10000) (h1 : 1 ≤ s.size) (c : ((s[0].toNat : Int) == 33) = false) (P : Hid (∀ w, Calls Tryd.prog 28 #[.string s, .string ⟨#[33, 61]⟩] w fun e w' => e = .returned (.bool false) ∧ w' = w)) (Q : Hid (∀ w, Calls Tryd.prog 28 #[.string s, .string ⟨#[60, 61]⟩] w fun e w' => e = .returned (.bool false) ∧ w' = w)) (C : Hid (∀ w, Calls Tryd.prog 64 #[.string (s.extract 0 1)] w fun e w' => e = .returned (.string (s.extract 0 1)) ∧ Below w.heap.size w w')) :
    Calls Tryd.prog 51 #[.string s] w fun e w' => e = .returned (.tuple #[.int .i64 1, lx 4 (s.extract 0 1) 0 0, .int .i64 0]) ∧ Below w.heap.size w w' := by
  have hsi : (s.size : Int) ≤ 10000 := by omega
  have z1 : ∀ w, (Instr.slice 9 (.string s) none (some (.int .i64 1)) none).run Tryd.prog w = .ok (.string (s.extract 0 1)) w := fun w => cut_h s 1 h1 w
  have h2i : (1 : Int) ≤ (s.size : Int) := by omega
  have q0 := idx_at s 0 (by omega)
  have h0i : (0 : Int) < (s.size : Int) := by omega
  go_enter Tryd.func51, Tryd.ntmps51
  go_wp2_with fail
  refine (P.out _).mono ?_
  rintro e q ⟨rfl, rfl⟩
  go_wp2_with fail
  refine (Q.out _).mono ?_
  rintro e q ⟨rfl, rfl⟩
  go_wp2_with fail
  refine (C.out _).mono ?_
  rintro e q ⟨rfl, hb⟩
  obtain ⟨d1, o1, rfl⟩ := regrow_of hb
  clear hb
  go_wp2_with fail
  exact bodyPost_ret (v := .tuple #[.int .i64 1, lx 4 (s.extract 0 1) 0 0, .int .i64 0]) (by simp [results, Tryd.results51, go_sem]) rfl ⟨rfl, (by repeat (first | exact Below.refl _ _ | refine al ?_ | refine bre ?_ _ _ | refine Below.drew ?_))⟩
theorem cvB (c : UInt8) (w : World) : (convert 5 21 (.int .u8 (c.toNat : Int))).run Tryd.prog w = .ok (.int .i32 (c.toNat : Int)) w := by
  have h := c.toNat_lt
  have hw : IntKind.i32.wrap (c.toNat : Int) = (c.toNat : Int) := by rw [IntKind.wrap_i32]; omega
  simp [convert, go_sem, hw]
set_option maxHeartbeats 2000000 in
set_option maxRecDepth 100000 in
theorem lx_blank (s : ByteArray) (w : World) (h0 : 0 < s.size) (hs : s.size ≤ 10000) (KC : Hid (∀ w, Calls Tryd.prog 45 #[.int .i32 (s[0].toNat : Int)] w fun e w' => e = .returned (.int .i64 1) ∧ Below w.heap.size w w'))  :
    Calls Tryd.prog 29 #[.string s] w fun e w' => e = .returned (.tuple #[.int .i64 1, lx 0 ⟨#[]⟩ 0 0, .int .i64 0]) ∧ Below w.heap.size w w' := by
  have hsi : (s.size : Int) ≤ 10000 := by omega
  have q0 := idx_at s 0 h0
  have h0i : (0 : Int) < (s.size : Int) := by omega
  have cv : ∀ w, (convert 5 21 (.int .u8 (s[0].toNat : Int))).run Tryd.prog w = .ok (.int .i32 (s[0].toNat : Int)) w := fun w => cvB s[0] w
  go_enter Tryd.func29, Tryd.ntmps29
  go_wp2_with fail
  refine (KC.out _).mono ?_
  rintro e q ⟨rfl, hb⟩
  obtain ⟨d1, o1, rfl⟩ := regrow_of hb
  clear hb
  go_wp2_with fail
  exact bodyPost_ret (v := .tuple #[.int .i64 1, lx 0 ⟨#[]⟩ 0 0, .int .i64 0]) (by simp [results, Tryd.results29, go_sem]) rfl ⟨rfl, (by repeat (first | exact Below.refl _ _ | refine al ?_ | refine bre ?_ _ _ | refine Below.drew ?_))⟩
set_option maxHeartbeats 2000000 in
set_option maxRecDepth 100000 in
theorem lx_rem1 (s : ByteArray) (w : World) (h0 : 0 < s.size) (hs : s.size ≤ 10000) (KC : Hid (∀ w, Calls Tryd.prog 45 #[.int .i32 (s[0].toNat : Int)] w fun e w' => e = .returned (.int .i64 2) ∧ Below w.heap.size w w')) (r : Int) (hr : 0 ≤ r) (I : Hid (∀ w, Calls Tryd.prog 46 #[.string s, .int .u8 10] w fun e w' => e = .returned (.int .i64 r) ∧ w' = w)) :
    Calls Tryd.prog 29 #[.string s] w fun e w' => e = .returned (.tuple #[.int .i64 r, lx 0 ⟨#[]⟩ 0 0, .int .i64 0]) ∧ Below w.heap.size w w' := by
  have hsi : (s.size : Int) ≤ 10000 := by omega
  have q0 := idx_at s 0 h0
  have h0i : (0 : Int) < (s.size : Int) := by omega
  have cv : ∀ w, (convert 5 21 (.int .u8 (s[0].toNat : Int))).run Tryd.prog w = .ok (.int .i32 (s[0].toNat : Int)) w := fun w => cvB s[0] w
  go_enter Tryd.func29, Tryd.ntmps29
  go_wp2_with fail
  refine (KC.out _).mono ?_
  rintro e q ⟨rfl, hb⟩
  obtain ⟨d1, o1, rfl⟩ := regrow_of hb
  clear hb
  go_wp2_with fail
  refine (I.out _).mono ?_
  rintro e q ⟨rfl, rfl⟩
  go_wp2_with fail
  exact bodyPost_ret (v := .tuple #[.int .i64 r, lx 0 ⟨#[]⟩ 0 0, .int .i64 0]) (by simp [results, Tryd.results29, go_sem]) rfl ⟨rfl, (by repeat (first | exact Below.refl _ _ | refine al ?_ | refine bre ?_ _ _ | refine Below.drew ?_))⟩
set_option maxHeartbeats 2000000 in
set_option maxRecDepth 100000 in
theorem lx_rem2 (s : ByteArray) (w : World) (h0 : 0 < s.size) (hs : s.size ≤ 10000) (KC : Hid (∀ w, Calls Tryd.prog 45 #[.int .i32 (s[0].toNat : Int)] w fun e w' => e = .returned (.int .i64 2) ∧ Below w.heap.size w w')) (r : Int) (hr : r < 0) (I : Hid (∀ w, Calls Tryd.prog 46 #[.string s, .int .u8 10] w fun e w' => e = .returned (.int .i64 r) ∧ w' = w)) :
    Calls Tryd.prog 29 #[.string s] w fun e w' => e = .returned (.tuple #[.int .i64 s.size, lx 0 ⟨#[]⟩ 0 0, .int .i64 0]) ∧ Below w.heap.size w w' := by
  have hsi : (s.size : Int) ≤ 10000 := by omega
  have q0 := idx_at s 0 h0
  have h0i : (0 : Int) < (s.size : Int) := by omega
  have cv : ∀ w, (convert 5 21 (.int .u8 (s[0].toNat : Int))).run Tryd.prog w = .ok (.int .i32 (s[0].toNat : Int)) w := fun w => cvB s[0] w
  go_enter Tryd.func29, Tryd.ntmps29
  go_wp2_with fail
  refine (KC.out _).mono ?_
  rintro e q ⟨rfl, hb⟩
  obtain ⟨d1, o1, rfl⟩ := regrow_of hb
  clear hb
  go_wp2_with fail
  refine (I.out _).mono ?_
  rintro e q ⟨rfl, rfl⟩
  go_wp2_with fail
  exact bodyPost_ret (v := .tuple #[.int .i64 s.size, lx 0 ⟨#[]⟩ 0 0, .int .i64 0]) (by simp [results, Tryd.results29, go_sem]) rfl ⟨rfl, (by repeat (first | exact Below.refl _ _ | refine al ?_ | refine bre ?_ _ _ | refine Below.drew ?_))⟩
set_option maxHeartbeats 2000000 in
set_option maxRecDepth 100000 in
theorem lx_name (s : ByteArray) (w : World) (h0 : 0 < s.size) (hs : s.size ≤ 10000) (KC : Hid (∀ w, Calls Tryd.prog 45 #[.int .i32 (s[0].toNat : Int)] w fun e w' => e = .returned (.int .i64 3) ∧ Below w.heap.size w w')) (x : ByteArray) (W : Hid (∀ w, Calls Tryd.prog 48 #[.string s] w fun e w' => e = .returned (.string x) ∧ Below w.heap.size w w')) (n k v E : Int) (t : ByteArray) (R : Hid (∀ w, LT w → Calls Tryd.prog 47 #[.string x] w fun e' w' => e' = .returned (.tuple #[.int .i64 n, lx k t v 0, .int .i64 E]) ∧ Below w.heap.size w w')) (hT : Hid (LT w)) :
    Calls Tryd.prog 29 #[.string s] w fun e w' => e = .returned (.tuple #[.int .i64 n, lx k t v 0, .int .i64 E]) ∧ Below w.heap.size w w' := by
  have hsi : (s.size : Int) ≤ 10000 := by omega
  have q0 := idx_at s 0 h0
  have h0i : (0 : Int) < (s.size : Int) := by omega
  have cv : ∀ w, (convert 5 21 (.int .u8 (s[0].toNat : Int))).run Tryd.prog w = .ok (.int .i32 (s[0].toNat : Int)) w := fun w => cvB s[0] w
  go_enter Tryd.func29, Tryd.ntmps29
  go_wp2_with fail
  refine (KC.out _).mono ?_
  rintro e q ⟨rfl, hb⟩
  obtain ⟨d1, o1, rfl⟩ := regrow_of hb
  clear hb
  go_wp2_with fail
  refine (W.out _).mono ?_
  rintro e q ⟨rfl, hb⟩
  obtain ⟨d2, o2, rfl⟩ := regrow_of hb
  clear hb
  go_wp2_with fail
  refine (R.out _ (hT.out.call (by repeat (first | exact Below.refl _ _ | refine al ?_ | refine bre ?_ _ _ | refine Below.drew ?_)))).mono ?_
  rintro e q ⟨rfl, hb⟩
  obtain ⟨d3, o3, rfl⟩ := regrow_of hb
  clear hb
  go_wp2_with fail
  exact bodyPost_ret (v := .tuple #[.int .i64 n, lx k t v 0, .int .i64 E]) (by simp [results, Tryd.results29, go_sem]) rfl ⟨rfl, (by repeat (first | exact Below.refl _ _ | refine al ?_ | refine bre ?_ _ _ | refine Below.drew ?_))⟩
set_option maxHeartbeats 2000000 in
set_option maxRecDepth 100000 in
theorem lx_num (s : ByteArray) (w : World) (h0 : 0 < s.size) (hs : s.size ≤ 10000) (KC : Hid (∀ w, Calls Tryd.prog 45 #[.int .i32 (s[0].toNat : Int)] w fun e w' => e = .returned (.int .i64 4) ∧ Below w.heap.size w w')) (x : ByteArray) (W : Hid (∀ w, Calls Tryd.prog 48 #[.string s] w fun e w' => e = .returned (.string x) ∧ Below w.heap.size w w')) (n k v E : Int) (t : ByteArray) (R : Hid (∀ w, LT w → Calls Tryd.prog 49 #[.string x] w fun e' w' => e' = .returned (.tuple #[.int .i64 n, lx k t v 0, .int .i64 E]) ∧ Below w.heap.size w w')) (hT : Hid (LT w)) :
    Calls Tryd.prog 29 #[.string s] w fun e w' => e = .returned (.tuple #[.int .i64 n, lx k t v 0, .int .i64 E]) ∧ Below w.heap.size w w' := by
  have hsi : (s.size : Int) ≤ 10000 := by omega
  have q0 := idx_at s 0 h0
  have h0i : (0 : Int) < (s.size : Int) := by omega
  have cv : ∀ w, (convert 5 21 (.int .u8 (s[0].toNat : Int))).run Tryd.prog w = .ok (.int .i32 (s[0].toNat : Int)) w := fun w => cvB s[0] w
  go_enter Tryd.func29, Tryd.ntmps29
  go_wp2_with fail
  refine (KC.out _).mono ?_
  rintro e q ⟨rfl, hb⟩
  obtain ⟨d1, o1, rfl⟩ := regrow_of hb
  clear hb
  go_wp2_with fail
  refine (W.out _).mono ?_
  rintro e q ⟨rfl, hb⟩
  obtain ⟨d2, o2, rfl⟩ := regrow_of hb
  clear hb
  go_wp2_with fail
  refine (R.out _ (hT.out.call (by repeat (first | exact Below.refl _ _ | refine al ?_ | refine bre ?_ _ _ | refine Below.drew ?_)))).mono ?_
  rintro e q ⟨rfl, hb⟩
  obtain ⟨d3, o3, rfl⟩ := regrow_of hb
  clear hb
  go_wp2_with fail
  exact bodyPost_ret (v := .tuple #[.int .i64 n, lx k t v 0, .int .i64 E]) (by simp [results, Tryd.results29, go_sem]) rfl ⟨rfl, (by repeat (first | exact Below.refl _ _ | refine al ?_ | refine bre ?_ _ _ | refine Below.drew ?_))⟩
set_option maxHeartbeats 2000000 in
set_option maxRecDepth 100000 in
theorem lx_lit (s : ByteArray) (w : World) (h0 : 0 < s.size) (hs : s.size ≤ 10000) (KC : Hid (∀ w, Calls Tryd.prog 45 #[.int .i32 (s[0].toNat : Int)] w fun e w' => e = .returned (.int .i64 5) ∧ Below w.heap.size w w')) (n k v E : Int) (t : ByteArray) (R : Hid (∀ w, LT w → Calls Tryd.prog 50 #[.string s] w fun e' w' => e' = .returned (.tuple #[.int .i64 n, lx k t v 0, .int .i64 E]) ∧ Below w.heap.size w w')) (hT : Hid (LT w)) :
    Calls Tryd.prog 29 #[.string s] w fun e w' => e = .returned (.tuple #[.int .i64 n, lx k t v 0, .int .i64 E]) ∧ Below w.heap.size w w' := by
  have hsi : (s.size : Int) ≤ 10000 := by omega
  have q0 := idx_at s 0 h0
  have h0i : (0 : Int) < (s.size : Int) := by omega
  have cv : ∀ w, (convert 5 21 (.int .u8 (s[0].toNat : Int))).run Tryd.prog w = .ok (.int .i32 (s[0].toNat : Int)) w := fun w => cvB s[0] w
  go_enter Tryd.func29, Tryd.ntmps29
  go_wp2_with fail
  refine (KC.out _).mono ?_
  rintro e q ⟨rfl, hb⟩
  obtain ⟨d1, o1, rfl⟩ := regrow_of hb
  clear hb
  go_wp2_with fail
  refine (R.out _ (hT.out.call (by repeat (first | exact Below.refl _ _ | refine al ?_ | refine bre ?_ _ _ | refine Below.drew ?_)))).mono ?_
  rintro e q ⟨rfl, hb⟩
  obtain ⟨d3, o3, rfl⟩ := regrow_of hb
  clear hb
  go_wp2_with fail
  exact bodyPost_ret (v := .tuple #[.int .i64 n, lx k t v 0, .int .i64 E]) (by simp [results, Tryd.results29, go_sem]) rfl ⟨rfl, (by repeat (first | exact Below.refl _ _ | refine al ?_ | refine bre ?_ _ _ | refine Below.drew ?_))⟩
set_option maxHeartbeats 2000000 in
set_option maxRecDepth 100000 in
theorem lx_mark (s : ByteArray) (w : World) (h0 : 0 < s.size) (hs : s.size ≤ 10000) (KC : Hid (∀ w, Calls Tryd.prog 45 #[.int .i32 (s[0].toNat : Int)] w fun e w' => e = .returned (.int .i64 6) ∧ Below w.heap.size w w')) (n k v E : Int) (t : ByteArray) (R : Hid (∀ w, LT w → Calls Tryd.prog 51 #[.string s] w fun e' w' => e' = .returned (.tuple #[.int .i64 n, lx k t v 0, .int .i64 E]) ∧ Below w.heap.size w w')) (hT : Hid (LT w)) :
    Calls Tryd.prog 29 #[.string s] w fun e w' => e = .returned (.tuple #[.int .i64 n, lx k t v 0, .int .i64 E]) ∧ Below w.heap.size w w' := by
  have hsi : (s.size : Int) ≤ 10000 := by omega
  have q0 := idx_at s 0 h0
  have h0i : (0 : Int) < (s.size : Int) := by omega
  have cv : ∀ w, (convert 5 21 (.int .u8 (s[0].toNat : Int))).run Tryd.prog w = .ok (.int .i32 (s[0].toNat : Int)) w := fun w => cvB s[0] w
  go_enter Tryd.func29, Tryd.ntmps29
  go_wp2_with fail
  refine (KC.out _).mono ?_
  rintro e q ⟨rfl, hb⟩
  obtain ⟨d1, o1, rfl⟩ := regrow_of hb
  clear hb
  go_wp2_with fail
  refine (R.out _ (hT.out.call (by repeat (first | exact Below.refl _ _ | refine al ?_ | refine bre ?_ _ _ | refine Below.drew ?_)))).mono ?_
  rintro e q ⟨rfl, hb⟩
  obtain ⟨d3, o3, rfl⟩ := regrow_of hb
  clear hb
  go_wp2_with fail
  exact bodyPost_ret (v := .tuple #[.int .i64 n, lx k t v 0, .int .i64 E]) (by simp [results, Tryd.results29, go_sem]) rfl ⟨rfl, (by repeat (first | exact Below.refl _ _ | refine al ?_ | refine bre ?_ _ _ | refine Below.drew ?_))⟩
set_option maxHeartbeats 2000000 in
set_option maxRecDepth 100000 in
theorem lx_no (s : ByteArray) (w : World) (h0 : 0 < s.size) (hs : s.size ≤ 10000) (KC : Hid (∀ w, Calls Tryd.prog 45 #[.int .i32 (s[0].toNat : Int)] w fun e w' => e = .returned (.int .i64 0) ∧ Below w.heap.size w w'))  :
    Calls Tryd.prog 29 #[.string s] w fun e w' => e = .returned (.tuple #[.int .i64 0, lx 0 ⟨#[]⟩ 0 0, .int .i64 2]) ∧ Below w.heap.size w w' := by
  have hsi : (s.size : Int) ≤ 10000 := by omega
  have q0 := idx_at s 0 h0
  have h0i : (0 : Int) < (s.size : Int) := by omega
  have cv : ∀ w, (convert 5 21 (.int .u8 (s[0].toNat : Int))).run Tryd.prog w = .ok (.int .i32 (s[0].toNat : Int)) w := fun w => cvB s[0] w
  go_enter Tryd.func29, Tryd.ntmps29
  go_wp2_with fail
  refine (KC.out _).mono ?_
  rintro e q ⟨rfl, hb⟩
  obtain ⟨d1, o1, rfl⟩ := regrow_of hb
  clear hb
  go_wp2_with fail
  exact bodyPost_ret (v := .tuple #[.int .i64 0, lx 0 ⟨#[]⟩ 0 0, .int .i64 2]) (by simp [results, Tryd.results29, go_sem]) rfl ⟨rfl, (by repeat (first | exact Below.refl _ _ | refine al ?_ | refine bre ?_ _ _ | refine Below.drew ?_))⟩
end Go.Proofs.YtikmaljhfckbgaaDoor
