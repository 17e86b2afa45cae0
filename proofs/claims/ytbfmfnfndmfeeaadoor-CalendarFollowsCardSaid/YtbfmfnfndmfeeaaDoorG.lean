/- The reference's digits; Format of both. -/
import Derived.Test.YtbfmfnfndmfeeaaDoorF
set_option linter.unusedVariables false
set_option linter.unusedSimpArgs false
namespace Go.Proofs.YtbfmfnfndmfeeaaDoor
open Go.Sort Go.ChangeShapes Go.WideShapes Go.ChangeAt Go.RowKit
open cal
theorem ten_run (r : Nat) (h : r < 10) : ∀ w : World, (Instr.slice 9 (.string ⟨#[48, 49, 50, 51, 52, 53, 54, 55, 56, 57]⟩) (some (.int .i64 r)) (some (.int .i64 (r + 1))) none).run Tryd.prog w = .ok (.string ⟨#[c1 r]⟩) w := by
  have : r = 0 ∨ r = 1 ∨ r = 2 ∨ r = 3 ∨ r = 4 ∨ r = 5 ∨ r = 6 ∨ r = 7 ∨ r = 8 ∨ r = 9 := by omega
  rcases this with rfl | rfl | rfl | rfl | rfl | rfl | rfl | rfl | rfl | rfl <;> (intro w; kernel_rfl)
theorem rdigits2 {n : Int} (h0 : 0 ≤ n) (h1 : n ≤ 99) (w : World) :
    Calls Tryd.prog 38 #[.int .i64 n, .int .i64 2] w fun e w' => e = .returned (.string (d2 n)) ∧ Below w.heap.size w w' := by
  have e1 := Int.tmod_eq_emod_of_nonneg (b := 10) h0
  have e2 := Int.tdiv_eq_ediv_of_nonneg (b := 10) h0
  obtain ⟨a, ha⟩ : ∃ a : Nat, (a : Int) = n % 10 := ⟨(n % 10).toNat, by omega⟩
  obtain ⟨b, hb⟩ : ∃ b : Nat, (b : Int) = n / 10 := ⟨(n / 10).toNat, by omega⟩
  rw [← ha] at e1
  rw [← hb] at e2
  have e3 : Int.tmod (b : Int) 10 = b := Int.tmod_eq_of_lt (by omega) (by omega)
  have e4 : Int.tdiv (b : Int) 10 = 0 := Int.tdiv_eq_zero_of_lt (by omega) (by omega)
  have ha9 : a < 10 := by omega
  have hb9 : b < 10 := by omega
  have e5 : d2 n = ⟨#[c1 b, c1 a]⟩ := by unfold d2; rw [show n.toNat / 10 = b by omega, show n.toNat % 10 = a by omega]
  rw [e5]
  have x1 := ten_run a ha9
  have x2 := ten_run b hb9
  generalize c1 a = p at *
  generalize c1 b = q at *
  clear ha hb e5
  go_enter Tryd.func38, Tryd.ntmps38
  go_wp2_with fail
  refine wp_loop_rounds 3 ?_
  rw [rounds_succ]
  go_wp2_with fail
  rw [rounds_succ]
  go_wp2_with fail
  rw [rounds_succ]
  go_wp2_with fail
  go_ret
  exact ⟨rfl, Below.refl _ _⟩
set_option maxHeartbeats 1000000 in
theorem rdigits4 {n : Int} (h0 : 0 ≤ n) (h1 : n ≤ 9999) (w : World) :
    Calls Tryd.prog 38 #[.int .i64 n, .int .i64 4] w fun e w' => e = .returned (.string (d4 n)) ∧ Below w.heap.size w w' := by
  obtain ⟨a, ha⟩ : ∃ a : Nat, (a : Int) = n % 10 := ⟨(n % 10).toNat, by omega⟩
  obtain ⟨b, hb⟩ : ∃ b : Nat, (b : Int) = n / 10 % 10 := ⟨(n / 10 % 10).toNat, by omega⟩
  obtain ⟨c, hc⟩ : ∃ c : Nat, (c : Int) = n / 100 % 10 := ⟨(n / 100 % 10).toNat, by omega⟩
  obtain ⟨d, hd⟩ : ∃ d : Nat, (d : Int) = n / 1000 := ⟨(n / 1000).toNat, by omega⟩
  obtain ⟨n1, hn1⟩ : ∃ k : Int, k = n / 10 := ⟨_, rfl⟩
  obtain ⟨n2, hn2⟩ : ∃ k : Int, k = n / 100 := ⟨_, rfl⟩
  have p1 : 0 ≤ n1 := by omega
  have p2 : 0 ≤ n2 := by omega
  have e1 : Int.tmod n 10 = a := by rw [Int.tmod_eq_emod_of_nonneg h0]; omega
  have e2 : Int.tdiv n 10 = n1 := by rw [Int.tdiv_eq_ediv_of_nonneg h0]; omega
  have e3 : Int.tmod n1 10 = b := by rw [Int.tmod_eq_emod_of_nonneg p1]; omega
  have e4 : Int.tdiv n1 10 = n2 := by rw [Int.tdiv_eq_ediv_of_nonneg p1]; omega
  have e5 : Int.tmod n2 10 = c := by rw [Int.tmod_eq_emod_of_nonneg p2]; omega
  have e6 : Int.tdiv n2 10 = d := by rw [Int.tdiv_eq_ediv_of_nonneg p2]; omega
  have e7 : Int.tmod (d : Int) 10 = d := Int.tmod_eq_of_lt (by omega) (by omega)
  have e8 : Int.tdiv (d : Int) 10 = 0 := Int.tdiv_eq_zero_of_lt (by omega) (by omega)
  have u1 : n1 ≤ 999 := by omega
  have u2 : n2 ≤ 99 := by omega
  have a9 : a < 10 := by omega
  have b9 : b < 10 := by omega
  have c9 : c < 10 := by omega
  have d9 : d < 10 := by omega
  have e5' : d4 n = ⟨#[c1 d, c1 c, c1 b, c1 a]⟩ := by unfold d4; rw [show n.toNat / 1000 = d by omega, show n.toNat / 100 % 10 = c by omega, show n.toNat / 10 % 10 = b by omega, show n.toNat % 10 = a by omega]
  rw [e5']
  have x1 := ten_run a a9
  have x2 := ten_run b b9
  have x3 := ten_run c c9
  have x4 := ten_run d d9
  generalize c1 a = p at *
  generalize c1 b = q at *
  generalize c1 c = r at *
  generalize c1 d = s at *
  clear ha hb hc hd hn1 hn2 e5'
  go_enter Tryd.func38, Tryd.ntmps38
  go_wp2_with fail
  refine wp_loop_rounds 5 ?_
  iterate 5
    rw [rounds_succ]
    go_wp2_with fail
  go_ret
  exact ⟨rfl, Below.refl _ _⟩
end Go.Proofs.YtbfmfnfndmfeeaaDoor
