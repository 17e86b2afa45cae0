/- isPast and day of a card that lies in a block. -/
import Derived.Test.YtellajpjhhamhaaD
set_option linter.unusedVariables false
set_option linter.unusedSimpArgs false
namespace Go.Proofs.Ytellajpjhhamhaa
open Go.ChangeShapes Go.WideShapes Go.ChangeAt Go.RowKit
theorem past_any (nm : ByteArray) (ex st la lc : Int) (k : Bool) (d a c : Int) (g : Nat) (day : Int) (w : World) (h : Blk w g 57 (cc nm ex st la lc k d a c)) :
    Calls Try.prog 36 #[.pointer (some ⟨g, 0, none⟩), .int .i64 day] w fun e w' => e = .returned (.bool (k && decide (day < d))) ∧ w = w' := by
  obtain ⟨hc, hf, hl⟩ := h.rules
  have c7 : w.cell? ⟨g, 7, none⟩ = some (.bool k) := hc 7
  have c8 : w.cell? ⟨g, 8, none⟩ = some (.int .i64 d) := hc 8
  clear hc hf h
  go_enter Try.func36, Try.ntmps36
  cases k
  · go_wp2_with fail
    go_ret
    exact ⟨rfl, rfl⟩
  · go_wp2_with fail
    go_ret
    exact ⟨rfl, rfl⟩
theorem al {w W : World} {o : Obj} (h : Below w.heap.size w W) : Below w.heap.size w (W.alloc o) := h.alloc h.size o
def dayA (k : Bool) (d day a : Int) : Int := if k = true ∧ d = day then a else 0
set_option maxHeartbeats 2000000 in
theorem day_any (nm : ByteArray) (ex st la lc : Int) (k : Bool) (d a c : Int) (g : Nat) (day : Int) (w : World) (h : Blk w g 57 (cc nm ex st la lc k d a c)) :
    Calls Try.prog 37 #[.pointer (some ⟨g, 0, none⟩), .int .i64 day] w fun e w' => e = .returned (.agg #[.bool true, .int .i64 day, .int .i64 (dayA k d day a), .int .i64 (dayA k d day c)]) ∧ Below w.heap.size w w' := by
  obtain ⟨hc, hf, hl⟩ := h.rules
  have c7 : w.cell? ⟨g, 7, none⟩ = some (.bool k) := hc 7
  have c8 : w.cell? ⟨g, 8, none⟩ = some (.int .i64 d) := hc 8
  have c9 : w.cell? ⟨g, 9, none⟩ = some (.int .i64 a) := hc 9
  have c10 : w.cell? ⟨g, 10, none⟩ = some (.int .i64 c) := hc 10
  clear hc hf h
  cases k
  · have h1 : ∀ x, dayA false d day x = 0 := fun x => by simp [dayA]
    rw [h1, h1]
    clear h1
    go_enter Try.func37, Try.ntmps37
    go_wp2_with fail
    go_region
    go_wp2_with fail
    go_region
    go_wp2_with fail
    exact bodyPost_ret (v := .agg #[.bool true, .int .i64 day, .int .i64 0, .int .i64 0]) (by simp [results, Try.results37, go_sem]) rfl ⟨rfl, by first | exact (al (al (Below.refl _ _))).drew.drew | exact (al (al (Below.refl _ _))).drew⟩
  · by_cases hd : d = day
    · subst hd
      have h1 : ∀ x, dayA true d d x = x := fun x => by simp [dayA]
      rw [h1, h1]
      clear h1
      go_enter Try.func37, Try.ntmps37
      go_wp2_with fail
      go_region
      go_wp2_with fail
      go_region
      go_wp2_with fail
      exact bodyPost_ret (v := .agg #[.bool true, .int .i64 d, .int .i64 a, .int .i64 c]) (by simp [results, Try.results37, go_sem]) rfl ⟨rfl, by first | exact (al (al (Below.refl _ _))).drew.drew | exact (al (al (Below.refl _ _))).drew⟩
    · have h1 : ∀ x, dayA true d day x = 0 := fun x => by simp [dayA, hd]
      rw [h1, h1]
      clear h1
      have hb : (d == day) = false := beq_eq_false_iff_ne.2 hd
      go_enter Try.func37, Try.ntmps37
      go_wp2_with fail
      go_region
      go_wp2_with fail
      go_region
      go_wp2_with fail
      exact bodyPost_ret (v := .agg #[.bool true, .int .i64 day, .int .i64 0, .int .i64 0]) (by simp [results, Try.results37, go_sem]) rfl ⟨rfl, by first | exact (al (al (Below.refl _ _))).drew.drew | exact (al (al (Below.refl _ _))).drew⟩
end Go.Proofs.Ytellajpjhhamhaa
