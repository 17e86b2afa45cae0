/- The example's Split. -/
import Derived.Test.YtompeealmgdfhaaDoorR
import Derived.LoopN
set_option linter.unusedVariables false
set_option linter.unusedSimpArgs false
namespace Go.Proofs.YtompeealmgdfhaaDoor
open Go.Sort Go.ChangeShapes Go.WideShapes Go.ChangeAt Go.RowKit
open div
theorem hmf (fn : Fn) (first cap : Array Value) (w : World) : (Instr.makeFunc fn first cap).run Tryd.prog w = .ok (.func fn first cap) w := rfl
theorem nan64 (w : World) : Calls Tryd.prog 57 #[.int .u64 1] w fun e w' => e = .returned (.bool false) ∧ w' = w := by
  go_enter Tryd.func57, Tryd.ntmps57
  go_wp2_with fail
  go_ret
  exact ⟨rfl, rfl⟩
theorem cmp64 (w : World) : Calls Tryd.prog 45 #[.int .u64 1, .int .u64 1] w fun e w' => e = .returned (.int .i64 0) ∧ w' = w := by
  go_enter Tryd.func45, Tryd.ntmps45
  go_wp2_with (go_at_call 57; refine (nan64 _).mono ?_; rintro e w1 ⟨rfl, rfl⟩)
  go_ret
  exact ⟨rfl, rfl⟩
/-- the remainders of the example, in a captured variable -/
def Rem (w : World) (p g : Nat) : Prop := p < w.heap.size ∧ g < w.heap.size ∧ w.cell? ⟨p, 0, none⟩ = some (.slice (some ⟨g, 0, none⟩) 3 3) ∧ ∀ i, i < 3 → w.cell? ⟨g, i, none⟩ = some (.int .u64 1)
theorem clo_any (i j : Nat) (hi : i < 3) (hj : j < 3) (p g : Nat) (w : World) (h : Rem w p g) :
    Calls Tryd.prog 44 #[.int .i64 i, .int .i64 j, .pointer (some ⟨p, 0, none⟩)] w fun e w' => e = .returned (.int .i64 0) ∧ ∃ n, w' = w.drewN n := by
  obtain ⟨h1, h2, h3, h4⟩ := h
  have c1 := h4 i hi
  have c2 := h4 j hj
  have i0 : (i : Int) < 3 := by omega
  have j0 : (j : Int) < 3 := by omega
  clear h4
  go_enter Tryd.func44, Tryd.ntmps44
  go_wp2_with fail
  go_quiet ((go_at_call 45; exact Calls.quiet_of_same (cmp64 _)))
  go_wp2_with fail
  go_ret
  exact ⟨rfl, _, rfl⟩
theorem Rem.drew {w : World} {p g : Nat} (h : Rem w p g) (n : Nat) : Rem (w.drewN n) p g := by
  obtain ⟨h1, h2, h3, h4⟩ := h
  exact ⟨h1, h2, by rw [World.cell?_drewN]; exact h3, fun i hi => by rw [World.cell?_drewN]; exact h4 i hi⟩
theorem bdn {B : Nat} {a w : World} (h : Below B a w) (n : Nat) : Below B a (w.drewN n) := h.trans ⟨rfl, rfl, rfl, Nat.le_refl _, fun _ _ => rfl⟩
def Ord (w : World) (h : Nat) : Prop := h < w.heap.size ∧ ∀ i : Nat, i < 3 → w.cell? ⟨h, i, none⟩ = some (.int .i64 i)
theorem Ord.drew {w : World} {h : Nat} (H : Ord w h) (n : Nat) : Ord (w.drewN n) h := ⟨H.1, fun i hi => by rw [World.cell?_drewN]; exact H.2 i hi⟩
set_option maxHeartbeats 1000000 in
theorem ins_any (p g h : Nat) (w : World) (hR : Rem w p g) (hO : Ord w h) :
    Calls Tryd.prog 65 #[.slice (some ⟨h, 0, none⟩) 3 3, .int .i64 0, .int .i64 3, .func (.func 44) #[] #[.pointer (some ⟨p, 0, none⟩)]] w fun e w' => e = .returned (.tuple #[]) ∧ Below w.heap.size w w' := by
  have c0 := hO.2 0 (by decide)
  have c1 := hO.2 1 (by decide)
  have c2 := hO.2 2 (by decide)
  have HR := Lib.hid hR
  have HO := Lib.hid hO
  clear hR hO
  go_enter Tryd.func65, Tryd.ntmps65
  go_wp2_with fail
  refine wp_loop_rounds 3 ?_
  rw [rounds_succ]
  go_wp2_with fail
  refine wp_loop_rounds 2 ?_
  rw [rounds_succ]
  go_wp2_with fail
  go_quiet ((go_at_call 44; exact Calls.quiet_of (clo_any 1 0 (by decide) (by decide) _ _ _ HR.out)))
  have HR2 := Lib.hid (HR.out.drew nq)
  have HO2 := Lib.hid (HO.out.drew nq)
  have HW := Lib.hid (bdn (Below.refl w.heap.size w) nq)
  generalize w.drewN nq = V at *
  have c1 := HO2.out.2 1 (by decide)
  have c2 := HO2.out.2 2 (by decide)
  go_wp2_with fail
  rw [rounds_succ]
  go_wp2_with fail
  refine wp_loop_rounds 2 ?_
  rw [rounds_succ]
  go_wp2_with fail
  go_quiet ((go_at_call 44; exact Calls.quiet_of (clo_any 2 1 (by decide) (by decide) _ _ _ HR2.out)))
  go_wp2_with fail
  rw [rounds_succ]
  go_wp2_with fail
  go_end0
  exact ⟨rfl, bdn HW.out _⟩
theorem st_any (p g h : Nat) (w : World) (hR : Rem w p g) (hO : Ord w h) :
    Calls Tryd.prog 56 #[.slice (some ⟨h, 0, none⟩) 3 3, .int .i64 3, .func (.func 44) #[] #[.pointer (some ⟨p, 0, none⟩)]] w fun e w' => e = .returned (.tuple #[]) ∧ Below w.heap.size w w' := by
  have HI := Lib.hid (ins_any p g h w hR hO)
  clear hR hO
  go_enter Tryd.func56, Tryd.ntmps56
  go_wp2_with fail
  refine wp_loop_rounds 1 ?_
  rw [rounds_succ]
  go_wp2_with fail
  refine HI.out.mono ?_
  rintro e w1 ⟨rfl, hb⟩
  have HB := Lib.hid hb
  clear hb
  go_wp2_with fail
  refine wp_loop_rounds 1 ?_
  rw [rounds_succ]
  go_wp2_with fail
  go_end0
  exact ⟨rfl, HB.out⟩
theorem stable_any (p g h : Nat) (w : World) (hR : Rem w p g) (hO : Ord w h) :
    Calls Tryd.prog 43 #[.slice (some ⟨h, 0, none⟩) 3 3, .func (.func 44) #[] #[.pointer (some ⟨p, 0, none⟩)]] w fun e w' => e = .returned (.tuple #[]) ∧ Below w.heap.size w w' := by
  have HI := Lib.hid (st_any p g h w hR hO)
  clear hR hO
  go_enter Tryd.func43, Tryd.ntmps43
  go_wp2_with fail
  refine HI.out.mono ?_
  rintro e w1 ⟨rfl, hb⟩
  have HB := Lib.hid hb
  clear hb
  go_wp2_with fail
  go_end0
  exact ⟨rfl, HB.out⟩
end Go.Proofs.YtompeealmgdfhaaDoor
