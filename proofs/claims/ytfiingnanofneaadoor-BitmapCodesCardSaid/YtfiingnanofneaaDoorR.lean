/- Count of both; two lists held against each other. -/
import Derived.Test.YtfiingnanofneaaDoorQ
import Derived.Deep.QuietTactic
import Derived.BigQuiet
set_option linter.unusedVariables false
set_option linter.unusedSimpArgs false
namespace Go.Proofs.YtfiingnanofneaaDoor
open Go.Sort Go.ChangeShapes Go.WideShapes Go.ChangeAt Go.RowKit
open pop
theorem popN_le (f x : Nat) : popN f x ≤ f := by
  induction f generalizing x with
  | zero => exact Nat.le_refl _
  | succ f ih => have := ih (x / 2); rw [pS]; omega
theorem ones_len (a b : Nat) (ha : a < B64) (hb : b < B64) : ∃ p q : Nat, p ≤ 64 ∧ q ≤ 64 ∧ p + q = (nums a b 127).length ∧
    (∀ w, Calls Tryd.prog 34 #[.int .u64 ((a % B63 : Nat) : Int)] w fun e w' => e = .returned (.int .i64 (p : Int)) ∧ w' = w) ∧
    (∀ w, Calls Tryd.prog 34 #[.int .u64 (b : Int)] w fun e w' => e = .returned (.int .i64 (q : Int)) ∧ w' = w) :=
  ⟨popN 64 (a % B63), popN 64 b, popN_le _ _, popN_le _ _, pop_nums a b hb, fun w => (ones_any (a % B63) (Nat.lt_of_le_of_lt (Nat.mod_le _ _) ha) w).mono fun _ _ h => ⟨h.1, h.2.symm⟩, fun w => (ones_any b hb w).mono fun _ _ h => ⟨h.1, h.2.symm⟩⟩
theorem count_any (a b : Nat) (ha : a < B64) (hb : b < B64) (w : World) :
    Calls Tryd.prog 18 #[bm a b] w fun e w' => e = .returned (.int .i64 ((nums a b 127).length : Nat)) ∧ Below w.heap.size w w' := by
  have HN : Hid (∀ w, _) := Lib.hid (fun w => numbers_any a b ha w)
  obtain ⟨p, q, l1, l2, hp, o1, o2⟩ := ones_len a b ha hb
  have O1 := Lib.hid o1
  have O2 := Lib.hid o2
  generalize (nums a b 127).length = L at *
  generalize a % B63 = x at *
  have HP := Lib.hid hp
  have l3 : (p : Int) ≤ 64 := by omega
  have l4 : (q : Int) ≤ 64 := by omega
  unfold bm at *
  clear hp l1 l2 o1 o2
  go_enter Tryd.func18, Tryd.ntmps18
  go_wp2_with fail
  refine (HN.out _).mono ?_
  rintro e w1 ⟨rfl, hb1⟩
  obtain ⟨dd, os, rfl⟩ := regrow_of hb1
  clear hb1
  go_wp2_with fail
  go_quiet ((go_at_call 34; first | (with_reducible exact Calls.quiet_of_same (O1.out _)) | (with_reducible exact Calls.quiet_of_same (O2.out _))))
  go_wp2_with fail
  go_ret
  exact ⟨by rw [← HP.out]; rfl, below_drewN (bre (al (Below.refl _ _)) _ _) _⟩
theorem rcount_any (a b : Nat) (ha : a < B64) (hb : b < B64) (w : World) :
    Calls Tryd.prog 19 #[bm a b] w fun e w' => e = .returned (.int .i64 ((nums a b 127).length : Nat)) ∧ Below w.heap.size w w' := by
  have HN : Hid (∀ w, _) := Lib.hid (fun w => rlist_any a b ha hb w)
  unfold bm at *
  go_enter Tryd.func19, Tryd.ntmps19
  go_wp2_with fail
  refine (HN.out _).mono ?_
  rintro e w1 ⟨v, rfl, ho, hb1⟩
  obtain ⟨A, cap, rfl, hI⟩ := own_ints ho
  have HB := Lib.hid hb1
  clear hb1 ho hI
  go_wp2_with fail
  go_ret
  exact ⟨rfl, below_call (al (Below.refl _ _)) HB.out⟩
/-- two lists of the same numbers -/
theorem same_any (A1 A2 : Option Addr) (n c1 c2 : Nat) (zs : List Int) (w : World) (h1 : Ints w A1 n c1 zs) (h2 : Ints w A2 n c2 zs) :
    Calls Tryd.prog 15 #[.slice A1 n c1, .slice A2 n c2] w fun e w' => e = .returned (.bool true) ∧ ∃ m, w' = w.drewN m := by
  have H1 := Lib.hid h1
  have H2 := Lib.hid h2
  have hl : n ≤ maxLen := Nat.le_trans h1.2.1 h1.2.2.1
  have hz := h1.1
  clear h1 h2
  unfold maxLen at hl
  have hl' : (n : Int) ≤ 9223372036854775807 := by omega
  go_enter Tryd.func15, Tryd.ntmps15
  go_wp2_with fail
  go_loopw [5] (fun i wr => ∃ k m : Nat, k ≤ n ∧ i = .int .i64 k ∧ wr = w.drewN m) (fun i _ => n - (intOf i).toNat)
  case atStart => exact ⟨0, 0, Nat.zero_le _, rfl, rfl⟩
  case round =>
    obtain ⟨k, m, hk, rfl, rfl⟩ := hrel
    by_cases hlt : k < n
    · have hlt' : (k : Int) < (n : Int) := by omega
      have hge' : 0 ≤ (k : Int) := by omega
      obtain ⟨b, off, rfl, hb, hc⟩ := H1.out.2.2.2 k (by omega)
      obtain ⟨b2, off2, rfl, hb2, hc2⟩ := H2.out.2.2.2 k (by omega)
      clear H1 H2 hz
      go_wp2_with fail
      go_quiet (fail)
      go_wp2_with fail
      go_roundw
      case rel => exact ⟨k + 1, _, by omega, by go_num, rfl⟩
      case measure => simp [intOf]; omega
    · have hge : ¬ (k : Int) < (n : Int) := by omega
      go_wp2_with fail
      go_ret
      exact ⟨rfl, _, rfl⟩
end Go.Proofs.YtfiingnanofneaaDoor
