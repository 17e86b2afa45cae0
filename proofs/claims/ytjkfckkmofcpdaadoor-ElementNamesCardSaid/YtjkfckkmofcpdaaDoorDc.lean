/- Required of both. -/
import Derived.Test.YtjkfckkmofcpdaaDoorDb
set_option linter.unusedVariables false
set_option linter.unusedSimpArgs false
namespace Go.Proofs.YtjkfckkmofcpdaaDoor
open Go.Sort Go.ChangeShapes Go.WideShapes Go.ChangeAt Go.RowKit
def rqL (k : Int) : List Int := if k = 100 then [2, 3, 4, 7, 11, 32, 37, 41, 42, 49] else if k = 110 ∨ k = 130 then [37, 39] else if k = 120 then [2, 3, 4, 7, 11, 32, 37, 39, 41, 42, 49] else if k = 400 ∨ k = 420 then [2, 4, 11, 32, 37, 49, 56] else if k = 410 ∨ k = 430 then [37, 39, 56] else if k = 800 then [11, 70] else if k = 810 then [11, 39] else []
/-- numbers in memory -/
def Ints (w : World) (v : Value) (l : List Int) : Prop := (l = [] ∧ v = .slice none 0 0) ∨ ∃ g, v = .slice (some ⟨g, 0, none⟩) l.length l.length ∧ Blk w g 3 (l.map (Value.int .i64)).toArray
set_option maxHeartbeats 2000000 in
theorem req16_any (n : Int) (w : World) : Calls Tryd.prog 16 #[.int .i64 n] w fun e w' => ∃ v, e = .returned v ∧ Ints w' v (rqL n) ∧ Below w.heap.size w w' := by
  by_cases h100 : n = 100
  · subst h100
    go_enter Tryd.func16, Tryd.ntmps16
    go_wp2_with fail
    refine bodyPost_ret (v := .slice (some ⟨w.heap.size, 0, none⟩) 10 10) ?c100 rfl ⟨_, rfl, .inr ⟨w.heap.size, rfl, ?d100⟩, ?e100⟩
    case c100 => simp [results, Tryd.results16, go_sem]
    case d100 => exact Blk.new _ _ _
    case e100 => exact (Below.refl _ _).alloc (Nat.le_refl _) _
  have b100 : (n == 100) = false := beq_eq_false_iff_ne.2 h100
  by_cases h110 : n = 110
  · subst h110
    go_enter Tryd.func16, Tryd.ntmps16
    go_wp2_with fail
    refine bodyPost_ret (v := .slice (some ⟨w.heap.size, 0, none⟩) 2 2) ?c110 rfl ⟨_, rfl, .inr ⟨w.heap.size, rfl, ?d110⟩, ?e110⟩
    case c110 => simp [results, Tryd.results16, go_sem]
    case d110 => exact Blk.new _ _ _
    case e110 => exact (Below.refl _ _).alloc (Nat.le_refl _) _
  have b110 : (n == 110) = false := beq_eq_false_iff_ne.2 h110
  by_cases h130 : n = 130
  · subst h130
    go_enter Tryd.func16, Tryd.ntmps16
    go_wp2_with fail
    refine bodyPost_ret (v := .slice (some ⟨w.heap.size, 0, none⟩) 2 2) ?c130 rfl ⟨_, rfl, .inr ⟨w.heap.size, rfl, ?d130⟩, ?e130⟩
    case c130 => simp [results, Tryd.results16, go_sem]
    case d130 => exact Blk.new _ _ _
    case e130 => exact (Below.refl _ _).alloc (Nat.le_refl _) _
  have b130 : (n == 130) = false := beq_eq_false_iff_ne.2 h130
  by_cases h120 : n = 120
  · subst h120
    go_enter Tryd.func16, Tryd.ntmps16
    go_wp2_with fail
    refine bodyPost_ret (v := .slice (some ⟨w.heap.size, 0, none⟩) 11 11) ?c120 rfl ⟨_, rfl, .inr ⟨w.heap.size, rfl, ?d120⟩, ?e120⟩
    case c120 => simp [results, Tryd.results16, go_sem]
    case d120 => exact Blk.new _ _ _
    case e120 => exact (Below.refl _ _).alloc (Nat.le_refl _) _
  have b120 : (n == 120) = false := beq_eq_false_iff_ne.2 h120
  by_cases h400 : n = 400
  · subst h400
    go_enter Tryd.func16, Tryd.ntmps16
    go_wp2_with fail
    refine bodyPost_ret (v := .slice (some ⟨w.heap.size, 0, none⟩) 7 7) ?c400 rfl ⟨_, rfl, .inr ⟨w.heap.size, rfl, ?d400⟩, ?e400⟩
    case c400 => simp [results, Tryd.results16, go_sem]
    case d400 => exact Blk.new _ _ _
    case e400 => exact (Below.refl _ _).alloc (Nat.le_refl _) _
  have b400 : (n == 400) = false := beq_eq_false_iff_ne.2 h400
  by_cases h420 : n = 420
  · subst h420
    go_enter Tryd.func16, Tryd.ntmps16
    go_wp2_with fail
    refine bodyPost_ret (v := .slice (some ⟨w.heap.size, 0, none⟩) 7 7) ?c420 rfl ⟨_, rfl, .inr ⟨w.heap.size, rfl, ?d420⟩, ?e420⟩
    case c420 => simp [results, Tryd.results16, go_sem]
    case d420 => exact Blk.new _ _ _
    case e420 => exact (Below.refl _ _).alloc (Nat.le_refl _) _
  have b420 : (n == 420) = false := beq_eq_false_iff_ne.2 h420
  by_cases h410 : n = 410
  · subst h410
    go_enter Tryd.func16, Tryd.ntmps16
    go_wp2_with fail
    refine bodyPost_ret (v := .slice (some ⟨w.heap.size, 0, none⟩) 3 3) ?c410 rfl ⟨_, rfl, .inr ⟨w.heap.size, rfl, ?d410⟩, ?e410⟩
    case c410 => simp [results, Tryd.results16, go_sem]
    case d410 => exact Blk.new _ _ _
    case e410 => exact (Below.refl _ _).alloc (Nat.le_refl _) _
  have b410 : (n == 410) = false := beq_eq_false_iff_ne.2 h410
  by_cases h430 : n = 430
  · subst h430
    go_enter Tryd.func16, Tryd.ntmps16
    go_wp2_with fail
    refine bodyPost_ret (v := .slice (some ⟨w.heap.size, 0, none⟩) 3 3) ?c430 rfl ⟨_, rfl, .inr ⟨w.heap.size, rfl, ?d430⟩, ?e430⟩
    case c430 => simp [results, Tryd.results16, go_sem]
    case d430 => exact Blk.new _ _ _
    case e430 => exact (Below.refl _ _).alloc (Nat.le_refl _) _
  have b430 : (n == 430) = false := beq_eq_false_iff_ne.2 h430
  by_cases h800 : n = 800
  · subst h800
    go_enter Tryd.func16, Tryd.ntmps16
    go_wp2_with fail
    refine bodyPost_ret (v := .slice (some ⟨w.heap.size, 0, none⟩) 2 2) ?c800 rfl ⟨_, rfl, .inr ⟨w.heap.size, rfl, ?d800⟩, ?e800⟩
    case c800 => simp [results, Tryd.results16, go_sem]
    case d800 => exact Blk.new _ _ _
    case e800 => exact (Below.refl _ _).alloc (Nat.le_refl _) _
  have b800 : (n == 800) = false := beq_eq_false_iff_ne.2 h800
  by_cases h810 : n = 810
  · subst h810
    go_enter Tryd.func16, Tryd.ntmps16
    go_wp2_with fail
    refine bodyPost_ret (v := .slice (some ⟨w.heap.size, 0, none⟩) 2 2) ?c810 rfl ⟨_, rfl, .inr ⟨w.heap.size, rfl, ?d810⟩, ?e810⟩
    case c810 => simp [results, Tryd.results16, go_sem]
    case d810 => exact Blk.new _ _ _
    case e810 => exact (Below.refl _ _).alloc (Nat.le_refl _) _
  have b810 : (n == 810) = false := beq_eq_false_iff_ne.2 h810
  have hr : rqL n = [] := by unfold rqL; simp [h100, h110, h130, h120, h400, h420, h410, h430, h800, h810]
  clear h100 h110 h130 h120 h400 h420 h410 h430 h800 h810
  go_enter Tryd.func16, Tryd.ntmps16
  go_wp2_with fail
  refine bodyPost_ret (v := .slice none 0 0) ?z1 rfl ⟨_, rfl, .inl ⟨hr, rfl⟩, Below.refl _ _⟩
  simp [results, Tryd.results16, go_sem]
set_option maxHeartbeats 2000000 in
theorem req17_any (n : Int) (w : World) : Calls Tryd.prog 17 #[.int .i64 n] w fun e w' => ∃ v, e = .returned v ∧ Ints w' v (rqL n) ∧ Below w.heap.size w w' := by
  by_cases h100 : n = 100
  · subst h100
    go_enter Tryd.func17, Tryd.ntmps17
    go_wp2_with fail
    refine bodyPost_ret (v := .slice (some ⟨w.heap.size, 0, none⟩) 10 10) ?c100 rfl ⟨_, rfl, .inr ⟨w.heap.size, rfl, ?d100⟩, ?e100⟩
    case c100 => simp [results, Tryd.results17, go_sem]
    case d100 => exact Blk.new _ _ _
    case e100 => exact (Below.refl _ _).alloc (Nat.le_refl _) _
  have b100 : (n == 100) = false := beq_eq_false_iff_ne.2 h100
  by_cases h110 : n = 110
  · subst h110
    go_enter Tryd.func17, Tryd.ntmps17
    go_wp2_with fail
    refine bodyPost_ret (v := .slice (some ⟨w.heap.size, 0, none⟩) 2 2) ?c110 rfl ⟨_, rfl, .inr ⟨w.heap.size, rfl, ?d110⟩, ?e110⟩
    case c110 => simp [results, Tryd.results17, go_sem]
    case d110 => exact Blk.new _ _ _
    case e110 => exact (Below.refl _ _).alloc (Nat.le_refl _) _
  have b110 : (n == 110) = false := beq_eq_false_iff_ne.2 h110
  by_cases h130 : n = 130
  · subst h130
    go_enter Tryd.func17, Tryd.ntmps17
    go_wp2_with fail
    refine bodyPost_ret (v := .slice (some ⟨w.heap.size, 0, none⟩) 2 2) ?c130 rfl ⟨_, rfl, .inr ⟨w.heap.size, rfl, ?d130⟩, ?e130⟩
    case c130 => simp [results, Tryd.results17, go_sem]
    case d130 => exact Blk.new _ _ _
    case e130 => exact (Below.refl _ _).alloc (Nat.le_refl _) _
  have b130 : (n == 130) = false := beq_eq_false_iff_ne.2 h130
  by_cases h120 : n = 120
  · subst h120
    go_enter Tryd.func17, Tryd.ntmps17
    go_wp2_with fail
    refine bodyPost_ret (v := .slice (some ⟨w.heap.size, 0, none⟩) 11 11) ?c120 rfl ⟨_, rfl, .inr ⟨w.heap.size, rfl, ?d120⟩, ?e120⟩
    case c120 => simp [results, Tryd.results17, go_sem]
    case d120 => exact Blk.new _ _ _
    case e120 => exact (Below.refl _ _).alloc (Nat.le_refl _) _
  have b120 : (n == 120) = false := beq_eq_false_iff_ne.2 h120
  by_cases h400 : n = 400
  · subst h400
    go_enter Tryd.func17, Tryd.ntmps17
    go_wp2_with fail
    refine bodyPost_ret (v := .slice (some ⟨w.heap.size, 0, none⟩) 7 7) ?c400 rfl ⟨_, rfl, .inr ⟨w.heap.size, rfl, ?d400⟩, ?e400⟩
    case c400 => simp [results, Tryd.results17, go_sem]
    case d400 => exact Blk.new _ _ _
    case e400 => exact (Below.refl _ _).alloc (Nat.le_refl _) _
  have b400 : (n == 400) = false := beq_eq_false_iff_ne.2 h400
  by_cases h420 : n = 420
  · subst h420
    go_enter Tryd.func17, Tryd.ntmps17
    go_wp2_with fail
    refine bodyPost_ret (v := .slice (some ⟨w.heap.size, 0, none⟩) 7 7) ?c420 rfl ⟨_, rfl, .inr ⟨w.heap.size, rfl, ?d420⟩, ?e420⟩
    case c420 => simp [results, Tryd.results17, go_sem]
    case d420 => exact Blk.new _ _ _
    case e420 => exact (Below.refl _ _).alloc (Nat.le_refl _) _
  have b420 : (n == 420) = false := beq_eq_false_iff_ne.2 h420
  by_cases h410 : n = 410
  · subst h410
    go_enter Tryd.func17, Tryd.ntmps17
    go_wp2_with fail
    refine bodyPost_ret (v := .slice (some ⟨w.heap.size, 0, none⟩) 3 3) ?c410 rfl ⟨_, rfl, .inr ⟨w.heap.size, rfl, ?d410⟩, ?e410⟩
    case c410 => simp [results, Tryd.results17, go_sem]
    case d410 => exact Blk.new _ _ _
    case e410 => exact (Below.refl _ _).alloc (Nat.le_refl _) _
  have b410 : (n == 410) = false := beq_eq_false_iff_ne.2 h410
  by_cases h430 : n = 430
  · subst h430
    go_enter Tryd.func17, Tryd.ntmps17
    go_wp2_with fail
    refine bodyPost_ret (v := .slice (some ⟨w.heap.size, 0, none⟩) 3 3) ?c430 rfl ⟨_, rfl, .inr ⟨w.heap.size, rfl, ?d430⟩, ?e430⟩
    case c430 => simp [results, Tryd.results17, go_sem]
    case d430 => exact Blk.new _ _ _
    case e430 => exact (Below.refl _ _).alloc (Nat.le_refl _) _
  have b430 : (n == 430) = false := beq_eq_false_iff_ne.2 h430
  by_cases h800 : n = 800
  · subst h800
    go_enter Tryd.func17, Tryd.ntmps17
    go_wp2_with fail
    refine bodyPost_ret (v := .slice (some ⟨w.heap.size, 0, none⟩) 2 2) ?c800 rfl ⟨_, rfl, .inr ⟨w.heap.size, rfl, ?d800⟩, ?e800⟩
    case c800 => simp [results, Tryd.results17, go_sem]
    case d800 => exact Blk.new _ _ _
    case e800 => exact (Below.refl _ _).alloc (Nat.le_refl _) _
  have b800 : (n == 800) = false := beq_eq_false_iff_ne.2 h800
  by_cases h810 : n = 810
  · subst h810
    go_enter Tryd.func17, Tryd.ntmps17
    go_wp2_with fail
    refine bodyPost_ret (v := .slice (some ⟨w.heap.size, 0, none⟩) 2 2) ?c810 rfl ⟨_, rfl, .inr ⟨w.heap.size, rfl, ?d810⟩, ?e810⟩
    case c810 => simp [results, Tryd.results17, go_sem]
    case d810 => exact Blk.new _ _ _
    case e810 => exact (Below.refl _ _).alloc (Nat.le_refl _) _
  have b810 : (n == 810) = false := beq_eq_false_iff_ne.2 h810
  have hr : rqL n = [] := by unfold rqL; simp [h100, h110, h130, h120, h400, h420, h410, h430, h800, h810]
  clear h100 h110 h130 h120 h400 h420 h410 h430 h800 h810
  go_enter Tryd.func17, Tryd.ntmps17
  go_wp2_with fail
  refine bodyPost_ret (v := .slice none 0 0) ?z1 rfl ⟨_, rfl, .inl ⟨hr, rfl⟩, Below.refl _ _⟩
  simp [results, Tryd.results17, go_sem]
end Go.Proofs.YtjkfckkmofcpdaaDoor
