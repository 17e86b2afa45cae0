/- IsDate, IsAmount; New at the example's number: a new block of eleven cells. -/
import Derived.Test.YtellajpjhhamhaaA
import Derived.Test.YtellajpjhhamhaaPI
import Derived.Test.YtellajpjhhamhaaK
set_option linter.unusedVariables false
set_option linter.unusedSimpArgs false
namespace Go.Proofs.Ytellajpjhhamhaa
open Go.ChangeShapes Go.WideShapes Go.ChangeAt Go.RowKit
/-- every other block stands -/
def Kp (g : Nat) (w w' : World) : Prop := ∀ f, f ≠ g → f < w.heap.size → w'.heap[f]? = w.heap[f]?
theorem Kp.refl (g : Nat) (w : World) : Kp g w w := fun _ _ _ => rfl
theorem Kp.call {g : Nat} {w w' : World} (h : Below w.heap.size w w') : Kp g w w' := fun f _ hl => h.block f hl
theorem Kp.set {g : Nat} {w a : World} (h : Kp g w a) {p : Addr} (hp : p.block = g) (v : Value) : Kp g w (a.setCell p v) := fun f hf hl => (Below.heap_setCell a p v f (by omega)).trans (h f hf hl)
theorem Kp.alloc {g : Nat} {w a : World} (h : Kp g w a) (hs : w.heap.size ≤ a.heap.size) (x : Obj) : Kp g w (a.alloc x) := fun f hf hl => (Below.heap_alloc a x f (Nat.lt_of_lt_of_le hl hs)).trans (h f hf hl)
theorem Kp.drew {g : Nat} {w a : World} (h : Kp g w a) : Kp g w a.drew := h
theorem Kp.blk {g k t : Nat} {w w' : World} {cs : Array Value} (h : Kp k w w') (hb : Blk w g t cs) (hg : g ≠ k) : Blk w' g t cs := (h g hg hb.lt).trans hb
abbrev smp : ByteArray := ⟨#[52, 49, 49, 49, 49, 49, 49, 49, 49, 49, 49, 49, 49, 49, 49, 49]⟩
theorem check_smp (w : World) : Calls Try.prog 24 #[.string smp] w fun e w' => e = .returned (.int .i64 0) ∧ Below w.heap.size w w' := by
  have h := check_any smp (by decide) w
  rw [show chkP smp = 0 by decide +kernel] at h
  exact h
theorem date_any (n : Int) (w : World) :
    Calls Try.prog 25 #[.int .i64 n] w fun e w' => e = .returned (.bool (decide (0 ≤ n ∧ n ≤ 99999))) ∧ w = w' := by
  go_enter Try.func25, Try.ntmps25
  by_cases h1 : 0 ≤ n
  · by_cases h2 : n ≤ 99999
    · go_wp2_with fail
      go_ret
      exact ⟨by rw [decide_eq_true ⟨h1, h2⟩]; rfl, rfl⟩
    · go_wp2_with fail
      go_ret
      exact ⟨by rw [decide_eq_false (by omega)]; rfl, rfl⟩
  · go_wp2_with fail
    go_ret
    exact ⟨by rw [decide_eq_false (by omega)]; rfl, rfl⟩
theorem amount_any (n l : Int) (w : World) :
    Calls Try.prog 26 #[.int .i64 n, .int .i64 l] w fun e w' => e = .returned (.bool (decide (l ≤ n ∧ n ≤ 999999999999))) ∧ w = w' := by
  go_enter Try.func26, Try.ntmps26
  by_cases h1 : l ≤ n
  · by_cases h2 : n ≤ 999999999999
    · go_wp2_with fail
      go_ret
      exact ⟨by rw [decide_eq_true ⟨h1, h2⟩]; rfl, rfl⟩
    · go_wp2_with fail
      go_ret
      exact ⟨by rw [decide_eq_false (by omega)]; rfl, rfl⟩
  · go_wp2_with fail
    go_ret
    exact ⟨by rw [decide_eq_false (by omega)]; rfl, rfl⟩
/-- the eleven cells of a card -/
def cc (nm : ByteArray) (ex st la lc : Int) (k : Bool) (d a c : Int) : Array Value :=
  #[.string nm, .int .i64 ex, .int .i64 st, .bool false, .int .i64 0, .int .i64 la, .int .i64 lc, .bool k, .int .i64 d, .int .i64 a, .int .i64 c]
theorem new_s (ex am cn : Int) (w : World) (h1 : 0 ≤ ex ∧ ex ≤ 99999) (h2 : 0 ≤ am ∧ am ≤ 999999999999) (h3 : 0 ≤ cn) (h4 : cn ≤ 1000) :
    Calls Try.prog 9 #[.string smp, .int .i64 ex, .int .i64 am, .int .i64 cn] w fun e w' => ∃ w1, e = .returned (.tuple #[.pointer (some ⟨w1.heap.size, 0, none⟩), .int .i64 0]) ∧ Below w.heap.size w w1 ∧ w' = w1.alloc (.cells (cc smp ex 1 am cn false 0 0 0) 57) := by
  have d1 : decide (0 ≤ ex ∧ ex ≤ 99999) = true := decide_eq_true h1
  have d2 : decide (0 ≤ am ∧ am ≤ 999999999999) = true := decide_eq_true h2
  go_enter Try.func9, Try.ntmps9
  go_wp2_with fail
  refine (check_smp _).mono ?_
  rintro e w1 ⟨rfl, hb⟩
  go_wp2_with fail
  refine (date_any _ _).mono ?_
  rw [d1]
  rintro e w2 ⟨rfl, rfl⟩
  go_wp2_with fail
  refine (amount_any _ _ _).mono ?_
  rw [d2]
  rintro e w2 ⟨rfl, rfl⟩
  clear d1 d2
  go_wp2_with fail
  exact bodyPost_ret (v := .tuple #[.pointer (some ⟨w1.heap.size, 0, none⟩), .int .i64 0]) (by simp [results, Try.results9, go_sem]) rfl ⟨w1, rfl, hb, rfl⟩
end Go.Proofs.Ytellajpjhhamhaa
