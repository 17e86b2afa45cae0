/- Runes of two bytes and more; the class of a rune. -/
import Derived.Test.YtikmaljhfckbgaaDoorB
import Derived.Lib.OthersKept
import Derived.Laws.Runes
import Derived.Laws.Strings3
import Derived.WalkSpells
set_option linter.unusedVariables false
set_option linter.unusedSimpArgs false
namespace Go.Proofs.YtikmaljhfckbgaaDoor
open Go.Sort Go.ChangeShapes Go.WideShapes Go.ChangeAt Go.RowKit
theorem convR (r : Int) (w : World) : (convert 21 9 (.int .i32 r)).run Tryd.prog w = .ok (.string (Utf8.encode r)) w := by
  simp [convert, Conv.intToString, go_sem]
/-- 'next' of a string's iterator -/
def Itr (w wr : World) (s : ByteArray) (k : Nat) : Prop := wr.heap[w.heap.size]? = some (.stringIter s k) ∧ Below w.heap.size w wr
theorem Itr.new (w : World) (s : ByteArray) : Itr w (w.iter s 0) s 0 := ⟨World.iter_heap w s 0, (Below.refl _ w).alloc (Nat.le_refl _) _⟩
theorem Itr.next {w wr : World} {s : ByteArray} {k : Nat} (h : Itr w wr s k) (k' : Nat) : Itr w (wr.iterAt w.heap.size s k') s k' :=
  ⟨Lib.iterAt_heap wr _ s k k' h.1, Lib.below_iterAt h.2 (Nat.le_refl _) s _⟩
theorem Itr.pos {w wr : World} {s : ByteArray} {k : Nat} (h : Itr w wr s k) : wr.iterPos w.heap.size = k := by simp only [World.iterPos, h.1]
theorem Itr.lt {w wr : World} {s : ByteArray} {k : Nat} (h : Itr w wr s k) : w.heap.size < wr.heap.size := by
  rcases Nat.lt_or_ge w.heap.size wr.heap.size with hl | hl
  · exact hl
  · have := h.1; rw [Array.getElem?_eq_none hl] at this; cases this
theorem Itr.call {w wr w1 : World} {s : ByteArray} {k : Nat} (h : Itr w wr s k) (hb : Below wr.heap.size wr w1) : Itr w w1 s k :=
  ⟨(hb.block _ h.lt).trans h.1, below_call h.2 hb⟩
theorem mk_lt (k : Nat) (h : k < marks.size) : (marks[k]).toNat < 128 := by
  have : marks.data.toList.all (fun x => decide (x.toNat < 128)) = true := by decide
  rw [List.all_eq_true] at this
  have h2 := this marks[k] (by rw [← getD_at marks k h, List.getD_eq_getElem?_getD, List.getElem?_eq_getElem (show k < (ls marks).length by rw [← ls_size]; exact h)]; exact List.getElem_mem _)
  simpa using h2
set_option maxHeartbeats 1000000 in
theorem validr_any (r : Int) (h0 : 128 ≤ r) : ∃ b : Bool, ∀ w, Calls Tryd.prog 87 #[.int .i32 r] w fun e w' => e = .returned (.bool b) ∧ w' = w := by
  have d0 : decide (0 ≤ r) = true := decide_eq_true (by omega)
  rcases (by omega : r < 55296 ∨ (55296 ≤ r ∧ r ≤ 57343) ∨ (57343 < r ∧ r ≤ 1114111) ∨ 1114111 < r) with h | h | h | h
  · refine ⟨true, fun w => ?_⟩
    have d1 : decide (r < 55296) = true := decide_eq_true (by omega)
    have d2 : decide (57343 < r) = false := decide_eq_false (by omega)
    have d3 : decide (r ≤ 1114111) = true := decide_eq_true (by omega)
    clear h h0
    go_enter Tryd.func87, Tryd.ntmps87
    go_wp2_with fail
    go_ret
    exact ⟨rfl, rfl⟩
  · refine ⟨false, fun w => ?_⟩
    have d1 : decide (r < 55296) = false := decide_eq_false (by omega)
    have d2 : decide (57343 < r) = false := decide_eq_false (by omega)
    have d3 : decide (r ≤ 1114111) = true := decide_eq_true (by omega)
    clear h h0
    go_enter Tryd.func87, Tryd.ntmps87
    go_wp2_with fail
    go_ret
    exact ⟨rfl, rfl⟩
  · refine ⟨true, fun w => ?_⟩
    have d1 : decide (r < 55296) = false := decide_eq_false (by omega)
    have d2 : decide (57343 < r) = true := decide_eq_true (by omega)
    have d3 : decide (r ≤ 1114111) = true := decide_eq_true (by omega)
    clear h h0
    go_enter Tryd.func87, Tryd.ntmps87
    go_wp2_with fail
    go_ret
    exact ⟨rfl, rfl⟩
  · refine ⟨false, fun w => ?_⟩
    have d1 : decide (r < 55296) = false := decide_eq_false (by omega)
    have d2 : decide (57343 < r) = true := decide_eq_true (by omega)
    have d3 : decide (r ≤ 1114111) = false := decide_eq_false (by omega)
    clear h h0
    go_enter Tryd.func87, Tryd.ntmps87
    go_wp2_with fail
    go_ret
    exact ⟨rfl, rfl⟩
set_option maxHeartbeats 2000000 in
set_option maxRecDepth 100000 in
theorem ch_err (w : World) : Calls Tryd.prog 76 #[.string marks, .int .i32 65533] w fun e w' => e = .returned (.int .i64 (-1)) ∧ Below w.heap.size w w' := by
  have HN := Lib.hid (Itr.new w marks)
  have HK := Lib.hid mk_lt
  have hz : marks.size = 16 := rfl
  obtain ⟨M, hM⟩ : ∃ M, marks = M := ⟨_, rfl⟩
  rw [hM] at HN HK hz ⊢
  have hzi : (M.size : Int) = 16 := by omega
  have HZ := Lib.hid hz
  clear hM hz
  go_enter Tryd.func76, Tryd.ntmps76
  go_wp2_with fail
  go_loopw [] (fun wr => ∃ (k : Nat), Hid (k ≤ M.size) ∧ Hid (Itr w wr M k)) (fun wr => M.size - wr.iterPos w.heap.size)
  case atStart => exact ⟨0, Lib.hid (Nat.zero_le _), HN⟩
  case round =>
    obtain ⟨k, hk, hI⟩ := hrel
    by_cases hlt : k < M.size
    · have h128 := HK.out k hlt
      have hnx := fun ty => Lib.run_next_ascii_at (P := Tryd.prog) wr w.heap.size M k ty hI.out.1 hlt h128
      have HI2 := Lib.hid (hI.out.next (k + 1))
      have HP := Lib.hid hI.out.pos
      have HP2 := Lib.hid HI2.out.pos
      obtain ⟨v, hv⟩ : ∃ v : Int, (M[k].toNat : Int) = v := ⟨_, rfl⟩
      have c1 : (v == 65533) = false := by rw [beq_eq_false_iff_ne]; omega
      have HL := Lib.hid hlt
      clear h128
      go_wp2_with fail
      go_roundw
      case rel => exact ⟨k + 1, Lib.hid HL.out, HI2⟩
      case measure => rw [HP.out, HP2.out]; have := HL.out; omega
    · have hne := fun ty => Lib.run_next_end_at (P := Tryd.prog) wr w.heap.size M k ty hI.out.1 hlt
      have HB := Lib.hid hI.out.2
      clear hlt
      go_wp2_with fail
      go_ret
      exact ⟨rfl, HB.out⟩
end Go.Proofs.YtikmaljhfckbgaaDoor
