/- The reference's lexeme: its ways. -/
import Derived.Test.YtikmaljhfckbgaaDoorN
set_option linter.unusedVariables false
set_option linter.unusedSimpArgs false
namespace Go.Proofs.YtikmaljhfckbgaaDoor
open Go.Sort Go.ChangeShapes Go.WideShapes Go.ChangeAt Go.RowKit
set_option maxHeartbeats 2000000 in
set_option maxRecDepth 100000 in
theorem rl_long (s : ByteArray) (i : Nat) (hi : i < s.size) (hs : s.size ≤ 10000) (w : World) (L : Hid (∀ w, Calls Tryd.prog 35 #[.int .u8 (s[i].toNat : Int)] w fun e w' => e = .returned (.bool true) ∧ w' = w)) (K : Nat) (hK : i ≤ K ∧ K ≤ s.size) (W : Hid (∀ w, Calls Tryd.prog 36 #[.string s, .int .i64 i] w fun e w' => e = .returned (.int .i64 K) ∧ w' = w)) (h : decide (16 < (K : Int) - (i : Int)) = true) :
    Calls Tryd.prog 31 #[.string s, .int .i64 i] w fun e w' => e = .returned (.tuple #[lx 0 ⟨#[]⟩ 0 0, .int .i64 0, .int .i64 3]) ∧ Below w.heap.size w w' := by
  have hsi : (s.size : Int) ≤ 10000 := by omega
  have hii : (i : Int) < (s.size : Int) := by omega
  have q0 := idx_at s i hi
  have w1 : IntKind.i64.wrap ((K : Int) - (i : Int)) = (K : Int) - (i : Int) := IntWalk.i64_in _ (by omega)
  have z1 := cut_lh s i K hK.1 hK.2
  have k1 : (i : Int) ≤ (K : Int) := by omega
  have k2 : (K : Int) ≤ (s.size : Int) := by omega
  go_enter Tryd.func31, Tryd.ntmps31
  go_wp2_with fail
  refine (L.out _).mono ?_
  rintro e q ⟨rfl, rfl⟩
  go_wp2_with fail
  refine (W.out _).mono ?_
  rintro e q ⟨rfl, rfl⟩
  go_wp2_with fail
  exact bodyPost_ret (v := .tuple #[lx 0 ⟨#[]⟩ 0 0, .int .i64 0, .int .i64 3]) (by simp [results, Tryd.results31, go_sem]) rfl ⟨rfl, (by repeat (first | exact Below.refl _ _ | refine al ?_ | refine bre ?_ _ _ | refine Below.drew ?_))⟩
set_option maxHeartbeats 2000000 in
set_option maxRecDepth 100000 in
theorem rl_name (s : ByteArray) (i : Nat) (hi : i < s.size) (hs : s.size ≤ 10000) (w : World) (L : Hid (∀ w, Calls Tryd.prog 35 #[.int .u8 (s[i].toNat : Int)] w fun e w' => e = .returned (.bool true) ∧ w' = w)) (K : Nat) (hK : i ≤ K ∧ K ≤ s.size) (W : Hid (∀ w, Calls Tryd.prog 36 #[.string s, .int .i64 i] w fun e w' => e = .returned (.int .i64 K) ∧ w' = w)) (h : decide (16 < (K : Int) - (i : Int)) = false) :
    Calls Tryd.prog 31 #[.string s, .int .i64 i] w fun e w' => e = .returned (.tuple #[lx 1 (s.extract i K) 0 i, .int .i64 K, .int .i64 0]) ∧ Below w.heap.size w w' := by
  have hsi : (s.size : Int) ≤ 10000 := by omega
  have hii : (i : Int) < (s.size : Int) := by omega
  have q0 := idx_at s i hi
  have w1 : IntKind.i64.wrap ((K : Int) - (i : Int)) = (K : Int) - (i : Int) := IntWalk.i64_in _ (by omega)
  have z1 := cut_lh s i K hK.1 hK.2
  have k1 : (i : Int) ≤ (K : Int) := by omega
  have k2 : (K : Int) ≤ (s.size : Int) := by omega
  go_enter Tryd.func31, Tryd.ntmps31
  go_wp2_with fail
  refine (L.out _).mono ?_
  rintro e q ⟨rfl, rfl⟩
  go_wp2_with fail
  refine (W.out _).mono ?_
  rintro e q ⟨rfl, rfl⟩
  go_wp2_with fail
  exact bodyPost_ret (v := .tuple #[lx 1 (s.extract i K) 0 i, .int .i64 K, .int .i64 0]) (by simp [results, Tryd.results31, go_sem]) rfl ⟨rfl, (by repeat (first | exact Below.refl _ _ | refine al ?_ | refine bre ?_ _ _ | refine Below.drew ?_))⟩
set_option maxHeartbeats 2000000 in
set_option maxRecDepth 100000 in
theorem rl_nbad (s : ByteArray) (i : Nat) (hi : i < s.size) (hs : s.size ≤ 10000) (w : World) (L : Hid (∀ w, Calls Tryd.prog 35 #[.int .u8 (s[i].toNat : Int)] w fun e w' => e = .returned (.bool false) ∧ w' = w)) (G : Hid (∀ w, Calls Tryd.prog 52 #[.int .u8 (s[i].toNat : Int)] w fun e w' => e = .returned (.bool true) ∧ w' = w)) (K : Nat) (hK : i ≤ K ∧ K ≤ s.size) (W : Hid (∀ w, Calls Tryd.prog 36 #[.string s, .int .i64 i] w fun e w' => e = .returned (.int .i64 K) ∧ w' = w)) (v E : Int) (N : Hid (∀ w, Calls Tryd.prog 53 #[.string (s.extract i K)] w fun e w' => e = .returned (.tuple #[.int .i64 v, .int .i64 E]) ∧ w' = w)) (hE : (E == 0) = false) :
    Calls Tryd.prog 31 #[.string s, .int .i64 i] w fun e w' => e = .returned (.tuple #[lx 0 ⟨#[]⟩ 0 0, .int .i64 0, .int .i64 E]) ∧ Below w.heap.size w w' := by
  have hsi : (s.size : Int) ≤ 10000 := by omega
  have hii : (i : Int) < (s.size : Int) := by omega
  have q0 := idx_at s i hi
  have w1 : IntKind.i64.wrap ((K : Int) - (i : Int)) = (K : Int) - (i : Int) := IntWalk.i64_in _ (by omega)
  have z1 := cut_lh s i K hK.1 hK.2
  have k1 : (i : Int) ≤ (K : Int) := by omega
  have k2 : (K : Int) ≤ (s.size : Int) := by omega
  have hE2 : (E != 0) = true := by rw [bne, hE]; rfl
  go_enter Tryd.func31, Tryd.ntmps31
  go_wp2_with fail
  refine (L.out _).mono ?_
  rintro e q ⟨rfl, rfl⟩
  go_wp2_with fail
  refine (G.out _).mono ?_
  rintro e q ⟨rfl, rfl⟩
  go_wp2_with fail
  refine (W.out _).mono ?_
  rintro e q ⟨rfl, rfl⟩
  go_wp2_with fail
  refine (N.out _).mono ?_
  rintro e q ⟨rfl, rfl⟩
  go_wp2_with fail
  exact bodyPost_ret (v := .tuple #[lx 0 ⟨#[]⟩ 0 0, .int .i64 0, .int .i64 E]) (by simp [results, Tryd.results31, go_sem]) rfl ⟨rfl, (by repeat (first | exact Below.refl _ _ | refine al ?_ | refine bre ?_ _ _ | refine Below.drew ?_))⟩
set_option maxHeartbeats 2000000 in
set_option maxRecDepth 100000 in
theorem rl_num (s : ByteArray) (i : Nat) (hi : i < s.size) (hs : s.size ≤ 10000) (w : World) (L : Hid (∀ w, Calls Tryd.prog 35 #[.int .u8 (s[i].toNat : Int)] w fun e w' => e = .returned (.bool false) ∧ w' = w)) (G : Hid (∀ w, Calls Tryd.prog 52 #[.int .u8 (s[i].toNat : Int)] w fun e w' => e = .returned (.bool true) ∧ w' = w)) (K : Nat) (hK : i ≤ K ∧ K ≤ s.size) (W : Hid (∀ w, Calls Tryd.prog 36 #[.string s, .int .i64 i] w fun e w' => e = .returned (.int .i64 K) ∧ w' = w)) (v E : Int) (N : Hid (∀ w, Calls Tryd.prog 53 #[.string (s.extract i K)] w fun e w' => e = .returned (.tuple #[.int .i64 v, .int .i64 E]) ∧ w' = w)) (hE : (E == 0) = true) :
    Calls Tryd.prog 31 #[.string s, .int .i64 i] w fun e w' => e = .returned (.tuple #[lx 2 ⟨#[]⟩ v i, .int .i64 K, .int .i64 0]) ∧ Below w.heap.size w w' := by
  have hsi : (s.size : Int) ≤ 10000 := by omega
  have hii : (i : Int) < (s.size : Int) := by omega
  have q0 := idx_at s i hi
  have w1 : IntKind.i64.wrap ((K : Int) - (i : Int)) = (K : Int) - (i : Int) := IntWalk.i64_in _ (by omega)
  have z1 := cut_lh s i K hK.1 hK.2
  have k1 : (i : Int) ≤ (K : Int) := by omega
  have k2 : (K : Int) ≤ (s.size : Int) := by omega
  have hE2 : (E != 0) = false := by rw [bne, hE]; rfl
  go_enter Tryd.func31, Tryd.ntmps31
  go_wp2_with fail
  refine (L.out _).mono ?_
  rintro e q ⟨rfl, rfl⟩
  go_wp2_with fail
  refine (G.out _).mono ?_
  rintro e q ⟨rfl, rfl⟩
  go_wp2_with fail
  refine (W.out _).mono ?_
  rintro e q ⟨rfl, rfl⟩
  go_wp2_with fail
  refine (N.out _).mono ?_
  rintro e q ⟨rfl, rfl⟩
  go_wp2_with fail
  exact bodyPost_ret (v := .tuple #[lx 2 ⟨#[]⟩ v i, .int .i64 K, .int .i64 0]) (by simp [results, Tryd.results31, go_sem]) rfl ⟨rfl, (by repeat (first | exact Below.refl _ _ | refine al ?_ | refine bre ?_ _ _ | refine Below.drew ?_))⟩
set_option maxHeartbeats 2000000 in
set_option maxRecDepth 100000 in
theorem rl_text (s : ByteArray) (i : Nat) (hi : i < s.size) (hs : s.size ≤ 10000) (w : World) (L : Hid (∀ w, Calls Tryd.prog 35 #[.int .u8 (s[i].toNat : Int)] w fun e w' => e = .returned (.bool false) ∧ w' = w)) (G : Hid (∀ w, Calls Tryd.prog 52 #[.int .u8 (s[i].toNat : Int)] w fun e w' => e = .returned (.bool false) ∧ w' = w)) (h : ((s[i].toNat : Int) == 34) = true) (k v a n E : Int) (t : ByteArray) (T : Hid (∀ w, Calls Tryd.prog 54 #[.string s, .int .i64 i] w fun e w' => e = .returned (.tuple #[lx k t v a, .int .i64 n, .int .i64 E]) ∧ Below w.heap.size w w')) :
    Calls Tryd.prog 31 #[.string s, .int .i64 i] w fun e w' => e = .returned (.tuple #[lx k t v a, .int .i64 n, .int .i64 E]) ∧ Below w.heap.size w w' := by
  have hsi : (s.size : Int) ≤ 10000 := by omega
  have hii : (i : Int) < (s.size : Int) := by omega
  have q0 := idx_at s i hi
  go_enter Tryd.func31, Tryd.ntmps31
  go_wp2_with fail
  refine (L.out _).mono ?_
  rintro e q ⟨rfl, rfl⟩
  go_wp2_with fail
  refine (G.out _).mono ?_
  rintro e q ⟨rfl, rfl⟩
  go_wp2_with fail
  refine (T.out _).mono ?_
  rintro e q ⟨rfl, hb⟩
  obtain ⟨d1, o1, rfl⟩ := regrow_of hb
  clear hb
  go_wp2_with fail
  exact bodyPost_ret (v := .tuple #[lx k t v a, .int .i64 n, .int .i64 E]) (by simp [results, Tryd.results31, go_sem]) rfl ⟨rfl, (by repeat (first | exact Below.refl _ _ | refine al ?_ | refine bre ?_ _ _ | refine Below.drew ?_))⟩
set_option maxHeartbeats 2000000 in
set_option maxRecDepth 100000 in
theorem rl_m2a (s : ByteArray) (i : Nat) (hi : i < s.size) (hs : s.size ≤ 10000) (w : World) (L : Hid (∀ w, Calls Tryd.prog 35 #[.int .u8 (s[i].toNat : Int)] w fun e w' => e = .returned (.bool false) ∧ w' = w)) (G : Hid (∀ w, Calls Tryd.prog 52 #[.int .u8 (s[i].toNat : Int)] w fun e w' => e = .returned (.bool false) ∧ w' = w)) (h : ((s[i].toNat : Int) == 34) = false) (P : Hid (∀ w, Calls Tryd.prog 28 #[.string (s.extract i s.size), .string ⟨#[33, 61]⟩] w fun e w' => e = .returned (.bool true) ∧ w' = w)) (h2 : i + 2 ≤ s.size) :
    Calls Tryd.prog 31 #[.string s, .int .i64 i] w fun e w' => e = .returned (.tuple #[lx 4 (s.extract i (i + 2)) 0 i, .int .i64 ((i : Int) + 2), .int .i64 0]) ∧ Below w.heap.size w w' := by
  have hsi : (s.size : Int) ≤ 10000 := by omega
  have hii : (i : Int) < (s.size : Int) := by omega
  have q0 := idx_at s i hi
  have z3 := cut_l s i (by omega)
  have z2 : ∀ w, (Instr.slice 9 (.string s) (some (.int .i64 (i : Int))) (some (.int .i64 ((i : Int) + 2))) none).run Tryd.prog w = .ok (.string (s.extract i (i + 2))) w := fun w => by
    have := cut_lh s i (i + 2) (by omega) h2 w
    rwa [show ((i + 2 : Nat) : Int) = (i : Int) + 2 by omega] at this
  have k3 : (i : Int) + 2 ≤ (s.size : Int) := by omega
  go_enter Tryd.func31, Tryd.ntmps31
  go_wp2_with fail
  refine (L.out _).mono ?_
  rintro e q ⟨rfl, rfl⟩
  go_wp2_with fail
  refine (G.out _).mono ?_
  rintro e q ⟨rfl, rfl⟩
  go_wp2_with fail
  refine (P.out _).mono ?_
  rintro e q ⟨rfl, rfl⟩
  go_wp2_with fail
  exact bodyPost_ret (v := .tuple #[lx 4 (s.extract i (i + 2)) 0 i, .int .i64 ((i : Int) + 2), .int .i64 0]) (by simp [results, Tryd.results31, go_sem]) rfl ⟨rfl, (by repeat (first | exact Below.refl _ _ | refine al ?_ | refine bre ?_ _ _ | refine Below.drew ?_))⟩
set_option maxHeartbeats 2000000 in
set_option maxRecDepth 100000 in
theorem rl_m2b (s : ByteArray) (i : Nat) (hi : i < s.size) (hs : s.size ≤ 10000) (w : World) (L : Hid (∀ w, Calls Tryd.prog 35 #[.int .u8 (s[i].toNat : Int)] w fun e w' => e = .returned (.bool false) ∧ w' = w)) (G : Hid (∀ w, Calls Tryd.prog 52 #[.int .u8 (s[i].toNat : Int)] w fun e w' => e = .returned (.bool false) ∧ w' = w)) (h : ((s[i].toNat : Int) == 34) = false) (P : Hid (∀ w, Calls Tryd.prog 28 #[.string (s.extract i s.size), .string ⟨#[33, 61]⟩] w fun e w' => e = .returned (.bool false) ∧ w' = w)) (Q : Hid (∀ w, Calls Tryd.prog 28 #[.string (s.extract i s.size), .string ⟨#[60, 61]⟩] w fun e w' => e = .returned (.bool true) ∧ w' = w)) (h2 : i + 2 ≤ s.size) :
    Calls Tryd.prog 31 #[.string s, .int .i64 i] w fun e w' => e = .returned (.tuple #[lx 4 (s.extract i (i + 2)) 0 i, .int .i64 ((i : Int) + 2), .int .i64 0]) ∧ Below w.heap.size w w' := by
  have hsi : (s.size : Int) ≤ 10000 := by omega
  have hii : (i : Int) < (s.size : Int) := by omega
  have q0 := idx_at s i hi
  have z3 := cut_l s i (by omega)
  have z2 : ∀ w, (Instr.slice 9 (.string s) (some (.int .i64 (i : Int))) (some (.int .i64 ((i : Int) + 2))) none).run Tryd.prog w = .ok (.string (s.extract i (i + 2))) w := fun w => by
    have := cut_lh s i (i + 2) (by omega) h2 w
    rwa [show ((i + 2 : Nat) : Int) = (i : Int) + 2 by omega] at this
  have k3 : (i : Int) + 2 ≤ (s.size : Int) := by omega
  go_enter Tryd.func31, Tryd.ntmps31
  go_wp2_with fail
  refine (L.out _).mono ?_
  rintro e q ⟨rfl, rfl⟩
  go_wp2_with fail
  refine (G.out _).mono ?_
  rintro e q ⟨rfl, rfl⟩
  go_wp2_with fail
  refine (P.out _).mono ?_
  rintro e q ⟨rfl, rfl⟩
  go_wp2_with fail
  refine (Q.out _).mono ?_
  rintro e q ⟨rfl, rfl⟩
  go_wp2_with fail
  exact bodyPost_ret (v := .tuple #[lx 4 (s.extract i (i + 2)) 0 i, .int .i64 ((i : Int) + 2), .int .i64 0]) (by simp [results, Tryd.results31, go_sem]) rfl ⟨rfl, (by repeat (first | exact Below.refl _ _ | refine al ?_ | refine bre ?_ _ _ | refine Below.drew ?_))⟩
set_option maxHeartbeats 2000000 in
set_option maxRecDepth 100000 in
theorem rl_m1 (s : ByteArray) (i : Nat) (hi : i < s.size) (hs : s.size ≤ 10000) (w : World) (L : Hid (∀ w, Calls Tryd.prog 35 #[.int .u8 (s[i].toNat : Int)] w fun e w' => e = .returned (.bool false) ∧ w' = w)) (G : Hid (∀ w, Calls Tryd.prog 52 #[.int .u8 (s[i].toNat : Int)] w fun e w' => e = .returned (.bool false) ∧ w' = w)) (h : ((s[i].toNat : Int) == 34) = false) (P : Hid (∀ w, Calls Tryd.prog 28 #[.string (s.extract i s.size), .string ⟨#[33, 61]⟩] w fun e w' => e = .returned (.bool false) ∧ w' = w)) (Q : Hid (∀ w, Calls Tryd.prog 28 #[.string (s.extract i s.size), .string ⟨#[60, 61]⟩] w fun e w' => e = .returned (.bool false) ∧ w' = w)) (r : Int) (I : Hid (∀ w, Calls Tryd.prog 46 #[.string ⟨#[40, 41, 123, 125, 44, 59, 58, 61, 60, 62, 43, 45, 42, 37, 46]⟩, .int .u8 (s[i].toNat : Int)] w fun e w' => e = .returned (.int .i64 r) ∧ w' = w)) (hr : decide (0 ≤ r) = true) :
    Calls Tryd.prog 31 #[.string s, .int .i64 i] w fun e w' => e = .returned (.tuple #[lx 4 (s.extract i (i + 1)) 0 i, .int .i64 ((i : Int) + 1), .int .i64 0]) ∧ Below w.heap.size w w' := by
  have hsi : (s.size : Int) ≤ 10000 := by omega
  have hii : (i : Int) < (s.size : Int) := by omega
  have q0 := idx_at s i hi
  have z3 := cut_l s i (by omega)
  have z2 := cut_1 s i hi
  have k3 : (i : Int) + 1 ≤ (s.size : Int) := by omega
  go_enter Tryd.func31, Tryd.ntmps31
  go_wp2_with fail
  refine (L.out _).mono ?_
  rintro e q ⟨rfl, rfl⟩
  go_wp2_with fail
  refine (G.out _).mono ?_
  rintro e q ⟨rfl, rfl⟩
  go_wp2_with fail
  refine (P.out _).mono ?_
  rintro e q ⟨rfl, rfl⟩
  go_wp2_with fail
  refine (Q.out _).mono ?_
  rintro e q ⟨rfl, rfl⟩
  go_wp2_with fail
  refine (I.out _).mono ?_
  rintro e q ⟨rfl, rfl⟩
  go_wp2_with fail
  exact bodyPost_ret (v := .tuple #[lx 4 (s.extract i (i + 1)) 0 i, .int .i64 ((i : Int) + 1), .int .i64 0]) (by simp [results, Tryd.results31, go_sem]) rfl ⟨rfl, (by repeat (first | exact Below.refl _ _ | refine al ?_ | refine bre ?_ _ _ | refine Below.drew ?_))⟩
set_option maxHeartbeats 2000000 in
set_option maxRecDepth 100000 in
theorem rl_no (s : ByteArray) (i : Nat) (hi : i < s.size) (hs : s.size ≤ 10000) (w : World) (L : Hid (∀ w, Calls Tryd.prog 35 #[.int .u8 (s[i].toNat : Int)] w fun e w' => e = .returned (.bool false) ∧ w' = w)) (G : Hid (∀ w, Calls Tryd.prog 52 #[.int .u8 (s[i].toNat : Int)] w fun e w' => e = .returned (.bool false) ∧ w' = w)) (h : ((s[i].toNat : Int) == 34) = false) (P : Hid (∀ w, Calls Tryd.prog 28 #[.string (s.extract i s.size), .string ⟨#[33, 61]⟩] w fun e w' => e = .returned (.bool false) ∧ w' = w)) (Q : Hid (∀ w, Calls Tryd.prog 28 #[.string (s.extract i s.size), .string ⟨#[60, 61]⟩] w fun e w' => e = .returned (.bool false) ∧ w' = w)) (r : Int) (I : Hid (∀ w, Calls Tryd.prog 46 #[.string ⟨#[40, 41, 123, 125, 44, 59, 58, 61, 60, 62, 43, 45, 42, 37, 46]⟩, .int .u8 (s[i].toNat : Int)] w fun e w' => e = .returned (.int .i64 r) ∧ w' = w)) (hr : decide (0 ≤ r) = false) :
    Calls Tryd.prog 31 #[.string s, .int .i64 i] w fun e w' => e = .returned (.tuple #[lx 0 ⟨#[]⟩ 0 0, .int .i64 0, .int .i64 2]) ∧ Below w.heap.size w w' := by
  have hsi : (s.size : Int) ≤ 10000 := by omega
  have hii : (i : Int) < (s.size : Int) := by omega
  have q0 := idx_at s i hi
  have z3 := cut_l s i (by omega)
  go_enter Tryd.func31, Tryd.ntmps31
  go_wp2_with fail
  refine (L.out _).mono ?_
  rintro e q ⟨rfl, rfl⟩
  go_wp2_with fail
  refine (G.out _).mono ?_
  rintro e q ⟨rfl, rfl⟩
  go_wp2_with fail
  refine (P.out _).mono ?_
  rintro e q ⟨rfl, rfl⟩
  go_wp2_with fail
  refine (Q.out _).mono ?_
  rintro e q ⟨rfl, rfl⟩
  go_wp2_with fail
  refine (I.out _).mono ?_
  rintro e q ⟨rfl, rfl⟩
  go_wp2_with fail
  exact bodyPost_ret (v := .tuple #[lx 0 ⟨#[]⟩ 0 0, .int .i64 0, .int .i64 2]) (by simp [results, Tryd.results31, go_sem]) rfl ⟨rfl, (by repeat (first | exact Below.refl _ _ | refine al ?_ | refine bre ?_ _ _ | refine Below.drew ?_))⟩
def skp : Bool → List UInt8 → Nat
  | _, [] => 0
  | m, c :: r => if (m || (decide (c = 32) || decide (c = 9) || decide (c = 10) || decide (c = 35))) = true then 1 + skp ((m || decide (c = 35)) && !decide (c = 10)) r else 0
theorem skp_le (l : List UInt8) : ∀ m, skp m l ≤ l.length := by
  induction l with
  | nil => intro m; exact Nat.le_refl _
  | cons c r ih =>
    intro m
    unfold skp
    split
    · have := ih ((m || decide (c = 35)) && !decide (c = 10)); rw [List.length_cons]; omega
    · exact Nat.zero_le _
theorem skp_go {c : UInt8} {r : List UInt8} {m m2 : Bool} (h : (m || (decide (c = 32) || decide (c = 9) || decide (c = 10) || decide (c = 35))) = true) (h2 : ((m || decide (c = 35)) && !decide (c = 10)) = m2) : skp m (c :: r) = 1 + skp m2 r := by
  rw [← h2]; exact if_pos h
theorem skp_no {c : UInt8} {r : List UInt8} {m : Bool} (h : (m || (decide (c = 32) || decide (c = 9) || decide (c = 10) || decide (c = 35))) = false) : skp m (c :: r) = 0 := if_neg (by rw [h]; simp)
theorem u8_eqB (c : UInt8) (n : Nat) (hn : n < 256) : ((c.toNat : Int) == (n : Int)) = decide (c = UInt8.ofNat n) := by
  rw [Bool.eq_iff_iff, beq_iff_eq, decide_eq_true_iff]
  constructor
  · intro h; apply UInt8.toNat_inj.1; rw [UInt8.toNat_ofNat']; omega
  · intro h; rw [h, UInt8.toNat_ofNat']; omega
set_option maxHeartbeats 2000000 in
set_option maxRecDepth 100000 in
theorem skip_any (s : ByteArray) (i : Nat) (hi : i ≤ s.size) (hs : s.size ≤ 10000) (w : World) : Calls Tryd.prog 30 #[.string s, .int .i64 i] w fun e w' => e = .returned (.int .i64 ((i : Int) + ((skp false ((ls s).drop i) : Nat) : Int))) ∧ w' = w := by
  obtain ⟨N, hN⟩ : ∃ N : Int, (i : Int) + ((skp false ((ls s).drop i) : Nat) : Int) = N := ⟨_, rfl⟩
  rw [hN]
  have HN := Lib.hid hN
  have hsi : (s.size : Int) ≤ 10000 := by omega
  clear hN
  go_enter Tryd.func30, Tryd.ntmps30
  go_wp2_with fail
  go_loop [1, 5] (fun x m => ∃ (k : Nat) (M : Bool), k ≤ s.size ∧ x = .int .i64 k ∧ m = .bool M ∧ Hid ((k : Int) + ((skp M ((ls s).drop k) : Nat) : Int) = N)) (fun x _ => s.size - (intOf x).toNat)
  case atStart => exact ⟨i, false, hi, rfl, rfl, HN⟩
  case round =>
    obtain ⟨k, M, hk, rfl, rfl, hN⟩ := hrel
    by_cases hlt : k < s.size
    · have hlt' : (k : Int) < (s.size : Int) := by omega
      have q0 := idx_at s k hlt
      have hdk := drop_at s k hlt
      have HALL : True := trivial
      cases M
      · by_cases h32 : s[k] = 32
        · have h9 : ¬ s[k] = 9 := by rw [h32]; decide
          have h10 : ¬ s[k] = 10 := by rw [h32]; decide
          have h35 : ¬ s[k] = 35 := by rw [h32]; decide
          have g32 : ((s[k].toNat : Int) == 32) = true := (u8_eqB s[k] 32 (by decide)).trans (decide_eq_true h32)
          have g35 : ((s[k].toNat : Int) == 35) = false := (u8_eqB s[k] 35 (by decide)).trans (decide_eq_false h35)
          have HN2 := Lib.hid (show ((k + 1 : Nat) : Int) + ((skp false ((ls s).drop (k + 1)) : Nat) : Int) = N by rw [← hN.out, hdk, skp_go (m := false) (m2 := false) (by rw [h32]; rfl) (by rw [h32]; rfl)]; omega)
          clear hdk HALL
          go_wp2_with fail
          go_round
          case rel => exact ⟨k + 1, false, by omega, by go_num, rfl, HN2⟩
          case measure => simp [intOf]; omega
        by_cases h9 : s[k] = 9
        · have h35 : ¬ s[k] = 35 := by rw [h9]; decide
          have g32 : ((s[k].toNat : Int) == 32) = false := (u8_eqB s[k] 32 (by decide)).trans (decide_eq_false h32)
          have g9 : ((s[k].toNat : Int) == 9) = true := (u8_eqB s[k] 9 (by decide)).trans (decide_eq_true h9)
          have g35 : ((s[k].toNat : Int) == 35) = false := (u8_eqB s[k] 35 (by decide)).trans (decide_eq_false h35)
          have HN2 := Lib.hid (show ((k + 1 : Nat) : Int) + ((skp false ((ls s).drop (k + 1)) : Nat) : Int) = N by rw [← hN.out, hdk, skp_go (m := false) (m2 := false) (by rw [h9]; rfl) (by rw [h9]; rfl)]; omega)
          clear hdk HALL
          go_wp2_with fail
          go_round
          case rel => exact ⟨k + 1, false, by omega, by go_num, rfl, HN2⟩
          case measure => simp [intOf]; omega
        by_cases h10 : s[k] = 10
        · have h35 : ¬ s[k] = 35 := by rw [h10]; decide
          have g32 : ((s[k].toNat : Int) == 32) = false := (u8_eqB s[k] 32 (by decide)).trans (decide_eq_false h32)
          have g9 : ((s[k].toNat : Int) == 9) = false := (u8_eqB s[k] 9 (by decide)).trans (decide_eq_false h9)
          have g10 : ((s[k].toNat : Int) == 10) = true := (u8_eqB s[k] 10 (by decide)).trans (decide_eq_true h10)
          have g35 : ((s[k].toNat : Int) == 35) = false := (u8_eqB s[k] 35 (by decide)).trans (decide_eq_false h35)
          have n10 : ((s[k].toNat : Int) != 10) = false := by rw [bne, g10]; rfl
          have HN2 := Lib.hid (show ((k + 1 : Nat) : Int) + ((skp false ((ls s).drop (k + 1)) : Nat) : Int) = N by rw [← hN.out, hdk, skp_go (m := false) (m2 := false) (by rw [h10]; rfl) (by rw [h10]; rfl)]; omega)
          clear hdk HALL
          go_wp2_with fail
          go_round
          case rel => exact ⟨k + 1, false, by omega, by go_num, rfl, HN2⟩
          case measure => simp [intOf]; omega
        by_cases h35 : s[k] = 35
        · skip
          have g32 : ((s[k].toNat : Int) == 32) = false := (u8_eqB s[k] 32 (by decide)).trans (decide_eq_false h32)
          have g9 : ((s[k].toNat : Int) == 9) = false := (u8_eqB s[k] 9 (by decide)).trans (decide_eq_false h9)
          have g10 : ((s[k].toNat : Int) == 10) = false := (u8_eqB s[k] 10 (by decide)).trans (decide_eq_false h10)
          have g35 : ((s[k].toNat : Int) == 35) = true := (u8_eqB s[k] 35 (by decide)).trans (decide_eq_true h35)
          have n10 : ((s[k].toNat : Int) != 10) = true := by rw [bne, g10]; rfl
          have HN2 := Lib.hid (show ((k + 1 : Nat) : Int) + ((skp true ((ls s).drop (k + 1)) : Nat) : Int) = N by rw [← hN.out, hdk, skp_go (m := false) (m2 := true) (by rw [h35]; rfl) (by rw [h35]; rfl)]; omega)
          clear hdk HALL
          go_wp2_with fail
          go_round
          case rel => exact ⟨k + 1, true, by omega, by go_num, rfl, HN2⟩
          case measure => simp [intOf]; omega
        · skip
          have g32 : ((s[k].toNat : Int) == 32) = false := (u8_eqB s[k] 32 (by decide)).trans (decide_eq_false h32)
          have g9 : ((s[k].toNat : Int) == 9) = false := (u8_eqB s[k] 9 (by decide)).trans (decide_eq_false h9)
          have g10 : ((s[k].toNat : Int) == 10) = false := (u8_eqB s[k] 10 (by decide)).trans (decide_eq_false h10)
          have g35 : ((s[k].toNat : Int) == 35) = false := (u8_eqB s[k] 35 (by decide)).trans (decide_eq_false h35)
          have n10 : ((s[k].toNat : Int) != 10) = true := by rw [bne, g10]; rfl
          have HN2 := Lib.hid (show (k : Int) = N by rw [← hN.out, hdk, skp_no (m := false) (by rw [decide_eq_false h32, decide_eq_false h9, decide_eq_false h10, decide_eq_false h35]; rfl)]; simp)
          clear hdk HALL
          go_wp2_with fail
          go_ret
          exact ⟨by rw [HN2.out] <;> rfl, rfl⟩
      · by_cases h10 : s[k] = 10
        · skip
          have g10 : ((s[k].toNat : Int) == 10) = true := (u8_eqB s[k] 10 (by decide)).trans (decide_eq_true h10)
          have n10 : ((s[k].toNat : Int) != 10) = false := by rw [bne, g10]; rfl
          have HN2 := Lib.hid (show ((k + 1 : Nat) : Int) + ((skp false ((ls s).drop (k + 1)) : Nat) : Int) = N by rw [← hN.out, hdk, skp_go (m := true) (m2 := false) rfl (by rw [h10]; rfl)]; omega)
          clear hdk HALL
          go_wp2_with fail
          go_round
          case rel => exact ⟨k + 1, false, by omega, by go_num, rfl, HN2⟩
          case measure => simp [intOf]; omega
        · skip
          have g10 : ((s[k].toNat : Int) == 10) = false := (u8_eqB s[k] 10 (by decide)).trans (decide_eq_false h10)
          have n10 : ((s[k].toNat : Int) != 10) = true := by rw [bne, g10]; rfl
          have HN2 := Lib.hid (show ((k + 1 : Nat) : Int) + ((skp true ((ls s).drop (k + 1)) : Nat) : Int) = N by rw [← hN.out, hdk, skp_go (m := true) (m2 := true) rfl (by rw [decide_eq_false h10]; rfl)]; omega)
          clear hdk HALL
          go_wp2_with fail
          go_round
          case rel => exact ⟨k + 1, true, by omega, by go_num, rfl, HN2⟩
          case measure => simp [intOf]; omega
    · have hge : ¬ (k : Int) < (s.size : Int) := by omega
      have HN2 := Lib.hid (show (k : Int) = N by rw [← hN.out, List.drop_of_length_le (by rw [← ls_size]; omega)]; unfold skp; simp)
      clear hlt
      go_wp2_with fail
      go_ret
      exact ⟨by rw [HN2.out] <;> rfl, rfl⟩
end Go.Proofs.YtikmaljhfckbgaaDoor
