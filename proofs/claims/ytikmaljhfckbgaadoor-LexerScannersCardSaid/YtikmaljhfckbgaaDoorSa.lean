/- Scanners of both: Peek and Next. -/
import Derived.Test.YtikmaljhfckbgaaDoorX
set_option linter.unusedVariables false
set_option linter.unusedSimpArgs false
namespace Go.Proofs.YtikmaljhfckbgaaDoor
open Go.Sort Go.ChangeShapes Go.WideShapes Go.ChangeAt Go.RowKit
abbrev Sp := Option (Lx × List Lx)
def Sp.hd : Sp → Lx
  | none => ⟨0, ⟨#[]⟩, 0, 0⟩
  | some (x, _) => x
def Sp.tl : Sp → Sp
  | none => none
  | some (x, []) => some (x, [])
  | some (_, y :: r) => some (y, r)
abbrev Lx.val (x : Lx) : Value := lx x.k x.t x.v x.p
def Lay (w : World) (q o : Nat) (l : List Lx) : Prop := ∀ (i : Nat) (h : i < l.length), w.cell? ⟨q, o + i * 4, none⟩ = some (.int .i64 l[i].k) ∧ w.cell? ⟨q, o + i * 4 + 1, none⟩ = some (.string l[i].t) ∧ w.cell? ⟨q, o + i * 4 + 2, none⟩ = some (.int .i64 l[i].v) ∧ w.cell? ⟨q, o + i * 4 + 3, none⟩ = some (.int .i64 l[i].p)
/-- a scanner: nil, or a block with the slice of the lexemes that are left -/
def ScP (t : TypeId) (g q : Nat) (w : World) (v : Value) (S : Sp) : Prop := g ≤ w.heap.size ∧ match S with
  | none => v = .pointer none
  | some (x, r) => v = .pointer (some ⟨g, 0, none⟩) ∧ ∃ o cap, q ≠ g ∧ q < w.heap.size ∧ Blk w g t #[.slice (some ⟨q, o, none⟩) (r.length + 1) cap] ∧ r.length + 1 ≤ cap ∧ cap ≤ maxLen ∧ r.length + 1 ≤ 5000 ∧ Lay w q o (x :: r)
/-- every other block stands -/
def Kp (g : Nat) (w w' : World) : Prop := ∀ f, f ≠ g → f < w.heap.size → w'.heap[f]? = w.heap[f]?
theorem Kp.refl (g : Nat) (w : World) : Kp g w w := fun _ _ _ => rfl
theorem Kp.trans {g : Nat} {a b c : World} (h : Kp g a b) (hs : a.heap.size ≤ b.heap.size) (k : Kp g b c) : Kp g a c := fun f hf hl => (k f hf (Nat.lt_of_lt_of_le hl hs)).trans (h f hf hl)
theorem Kp.call {g : Nat} {w w' : World} (h : Below w.heap.size w w') : Kp g w w' := fun f _ hl => h.block f hl
theorem cell_heap {w w' : World} {q i : Nat} (h : w'.heap[q]? = w.heap[q]?) : w'.cell? ⟨q, i, none⟩ = w.cell? ⟨q, i, none⟩ := by simp [World.cell?, h]
theorem Lay.keep {w w' : World} {q o : Nat} {l : List Lx} (h : Lay w q o l) (hq : w'.heap[q]? = w.heap[q]?) : Lay w' q o l := by
  intro i hi
  rw [cell_heap hq, cell_heap hq, cell_heap hq, cell_heap hq]
  exact h i hi
theorem Lay.tail {w : World} {q o : Nat} {x : Lx} {l : List Lx} (h : Lay w q o (x :: l)) : Lay w q (o + 4) l := by
  intro i hi
  have := h (i + 1) (by rw [List.length_cons]; omega)
  rw [show o + 4 + i * 4 = o + (i + 1) * 4 by omega]
  exact this
/-- a scanner stands where another block is written -/
theorem ScP.keep {t : TypeId} {g q k : Nat} {w w' : World} {v : Value} {S : Sp} (h : ScP t g q w v S) (hk : Kp k w w') (hs : w.heap.size ≤ w'.heap.size) (hq : v = .pointer none ∨ (g ≠ k ∧ q ≠ k)) : ScP t g q w' v S := by
  obtain ⟨h1, h2⟩ := h
  refine ⟨Nat.le_trans h1 hs, ?_⟩
  match S, h2 with
  | none, h2 => exact h2
  | some (x, r), ⟨hv, o, cap, hqg, hql, hB, c1, c2, c3, hL⟩ =>
    rcases hq with hq | ⟨e1, e2⟩
    · rw [hv] at hq; cases hq
    exact ⟨hv, o, cap, hqg, Nat.lt_of_lt_of_le hql hs, (hk g e1 hB.lt).trans hB, c1, c2, c3, hL.keep (hk q e2 hql)⟩
theorem ScP.call {t : TypeId} {g q : Nat} {w w' : World} {v : Value} {S : Sp} (h : ScP t g q w v S) (hb : Below w.heap.size w w') : ScP t g q w' v S := by
  obtain ⟨h1, h2⟩ := h
  refine ⟨Nat.le_trans h1 hb.size, ?_⟩
  match S, h2 with
  | none, h2 => exact h2
  | some (x, r), ⟨hv, o, cap, hqg, hql, hB, c1, c2, c3, hL⟩ =>
    exact ⟨hv, o, cap, hqg, Nat.lt_of_lt_of_le hql hb.size, hB.call hb, c1, c2, c3, hL.keep (hb.block q hql)⟩
theorem ScP.drew {t : TypeId} {g q : Nat} {w : World} {v : Value} {S : Sp} (h : ScP t g q w v S) (n : Nat) : ScP t g q (w.drewN n) v S := h
set_option maxHeartbeats 2000000 in
set_option maxRecDepth 100000 in
theorem peek19_nil (w : World) : Calls Tryd.prog 19 #[.pointer none] w fun e w' => e = .returned (lx 0 ⟨#[]⟩ 0 0) ∧ Below w.heap.size w w' := by
  go_enter Tryd.func19, Tryd.ntmps19
  go_wp2_with fail
  (try simp only [Exit.inBlock, Exit.then])
  refine bodyPost_ret (v := lx 0 ⟨#[]⟩ 0 0) ?c1 rfl ⟨rfl, ?c2⟩
  case c1 => simp [results, Tryd.results19, go_sem]
  case c2 => exact (by repeat (first | exact Below.refl _ _ | refine al ?_ | refine bre ?_ _ _ | refine Below.drew ?_))
set_option maxHeartbeats 2000000 in
set_option maxRecDepth 100000 in
theorem peek19_some (g q o n cap : Nat) (w : World) (hB : Blk w g 57 #[.slice (some ⟨q, o, none⟩) n cap]) (hn : 0 < n) (hc : n ≤ cap) (K : Int) (T : ByteArray) (V P : Int)
    (s0 : w.cell? ⟨q, o, none⟩ = some (.int .i64 K)) (s1 : w.cell? ⟨q, o + 1, none⟩ = some (.string T)) (s2 : w.cell? ⟨q, o + 2, none⟩ = some (.int .i64 V)) (s3 : w.cell? ⟨q, o + 3, none⟩ = some (.int .i64 P)) (hq : q < w.heap.size) :
    Calls Tryd.prog 19 #[.pointer (some ⟨g, 0, none⟩)] w fun e w' => e = .returned (lx K T V P) ∧ Below w.heap.size w w' := by
  have c0 : w.cell? ⟨g, 0, none⟩ = some (.slice (some ⟨q, o, none⟩) n cap) := hB.cell 0
  have hg := hB.lt
  have n0 : ((n : Int) == 0) = false := by rw [beq_eq_false_iff_ne]; omega
  have n1 : ((n : Int) = 0) = False := eq_false (by omega)
  have n2 : (n = 0) = False := eq_false (by omega)
  clear hB
  go_enter Tryd.func19, Tryd.ntmps19
  go_wp2_with fail
  (try simp only [Exit.inBlock, Exit.then])
  refine bodyPost_ret (v := lx K T V P) ?d1 rfl ⟨rfl, ?d2⟩
  case d1 => simp [results, Tryd.results19, go_sem]
  case d2 => exact (by repeat (first | exact Below.refl _ _ | refine al ?_ | refine bre ?_ _ _ | refine Below.drew ?_))
set_option maxHeartbeats 2000000 in
set_option maxRecDepth 100000 in
theorem peek20_nil (w : World) : Calls Tryd.prog 20 #[.pointer none] w fun e w' => e = .returned (lx 0 ⟨#[]⟩ 0 0) ∧ Below w.heap.size w w' := by
  go_enter Tryd.func20, Tryd.ntmps20
  go_wp2_with fail
  (try simp only [Exit.inBlock, Exit.then])
  refine bodyPost_ret (v := lx 0 ⟨#[]⟩ 0 0) ?c1 rfl ⟨rfl, ?c2⟩
  case c1 => simp [results, Tryd.results20, go_sem]
  case c2 => exact (by repeat (first | exact Below.refl _ _ | refine al ?_ | refine bre ?_ _ _ | refine Below.drew ?_))
set_option maxHeartbeats 2000000 in
set_option maxRecDepth 100000 in
theorem peek20_some (g q o n cap : Nat) (w : World) (hB : Blk w g 59 #[.slice (some ⟨q, o, none⟩) n cap]) (hn : 0 < n) (hc : n ≤ cap) (K : Int) (T : ByteArray) (V P : Int)
    (s0 : w.cell? ⟨q, o, none⟩ = some (.int .i64 K)) (s1 : w.cell? ⟨q, o + 1, none⟩ = some (.string T)) (s2 : w.cell? ⟨q, o + 2, none⟩ = some (.int .i64 V)) (s3 : w.cell? ⟨q, o + 3, none⟩ = some (.int .i64 P)) (hq : q < w.heap.size) :
    Calls Tryd.prog 20 #[.pointer (some ⟨g, 0, none⟩)] w fun e w' => e = .returned (lx K T V P) ∧ Below w.heap.size w w' := by
  have c0 : w.cell? ⟨g, 0, none⟩ = some (.slice (some ⟨q, o, none⟩) n cap) := hB.cell 0
  have hg := hB.lt
  have n0 : ((n : Int) == 0) = false := by rw [beq_eq_false_iff_ne]; omega
  have n1 : ((n : Int) = 0) = False := eq_false (by omega)
  have n2 : (n = 0) = False := eq_false (by omega)
  clear hB
  go_enter Tryd.func20, Tryd.ntmps20
  go_wp2_with fail
  (try simp only [Exit.inBlock, Exit.then])
  refine bodyPost_ret (v := lx K T V P) ?d1 rfl ⟨rfl, ?d2⟩
  case d1 => simp [results, Tryd.results20, go_sem]
  case d2 => exact (by repeat (first | exact Below.refl _ _ | refine al ?_ | refine bre ?_ _ _ | refine Below.drew ?_))
end Go.Proofs.YtikmaljhfckbgaaDoor
