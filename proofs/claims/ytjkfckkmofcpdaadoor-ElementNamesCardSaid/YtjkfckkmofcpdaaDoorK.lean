import Derived.WalkKit
import Derived.ProofKit
import Derived.BigQuiet
import Derived.Deep.QuietTactic
import Derived.Lib.QuietBelow
import Derived.Lib.Hide
import Derived.Deep.Light
set_option linter.unusedVariables false
set_option linter.unusedSimpArgs false
namespace Go.Proofs.YtjkfckkmofcpdaaDoor
open Go.Sort Go.RowKit

@[go_sem] theorem heap_redrawn (w : World) (d : Nat) : (redrawn w d).heap = w.heap := rfl
@[go_sem] theorem size_regrow (w : World) (d : Nat) (os : Array Obj) : (grow (redrawn w d) os).heap.size = w.heap.size + os.size := by simp [grow, redrawn]
@[go_sem] theorem cell?_regrow (w : World) (d : Nat) (os : Array Obj) (a : Addr) (h : a.block < w.heap.size) : (grow (redrawn w d) os).cell? a = w.cell? a :=
  (below_regrown w d os).cell h
@[go_sem] theorem frozen?_regrow (w : World) (d : Nat) (os : Array Obj) (a : Addr) (h : a.block < w.heap.size) : (grow (redrawn w d) os).frozen? a = w.frozen? a :=
  (below_regrown w d os).frozen h
@[go_sem] theorem setCell_regrow (w : World) (d : Nat) (os : Array Obj) (a : Addr) (v : Value) (h : a.block < w.heap.size) : (grow (redrawn w d) os).setCell a v = grow (redrawn (w.setCell a v) d) os := by
  simp only [World.setCell, grow, redrawn, modify_append_left _ _ _ _ h]
@[go_sem] theorem regrow_regrow (w : World) (d d' : Nat) (os os' : Array Obj) : grow (redrawn (grow (redrawn w d) os) d') os' = grow (redrawn w d') (os ++ os') := by
  simp [grow, redrawn]
@[go_sem] theorem lt_add_k {n m k : Nat} (h : n < m) : (n < m + k) = True := by simp; omega
@[go_sem] theorem lt_s1 (n : Nat) : (n < n + 1) = True := by simp
@[go_sem] theorem lt_s2 (n : Nat) : (n < n + 1 + 1) = True := by simp; omega
@[go_sem] theorem lt_s3 (n : Nat) : (n < n + 1 + 1 + 1) = True := by simp; omega
@[go_sem] theorem lt_s4 (n : Nat) : (n < n + 1 + 1 + 1 + 1) = True := by simp; omega
@[go_sem] theorem lt_k1 (n k : Nat) : (n < n + 1 + k) = True := by simp; omega
@[go_sem] theorem lt_k2 (n k : Nat) : (n < n + 1 + 1 + k) = True := by simp; omega
@[go_sem] theorem lt_k3 (n k : Nat) : (n < n + 1 + 1 + 1 + k) = True := by simp; omega
theorem regrow_of {W w1 : World} (hb : Below W.heap.size W w1) : ∃ d os, w1 = grow (redrawn W d) os := by
  obtain ⟨p, h⟩ := regrown_of_below hb
  exact ⟨p.d, p.os, h⟩
/-- what is grown onto something that lies beyond -/
theorem below_re {B : Nat} {w W : World} (h : Below B w W) (hB : B ≤ W.heap.size) (d : Nat) (os : Array Obj) : Below B w (grow (redrawn W d) os) := h.trans ((below_regrown W d os).mono hB)

def Blk (w : World) (g : Nat) (t : TypeId) (cs : Array Value) : Prop := w.heap[g]? = some (.cells cs t (0, 0))
section
variable {w w' : World} {g : Nat} {t : TypeId} {cs : Array Value}
theorem Blk.lt (h : Blk w g t cs) : g < w.heap.size := by
  rcases Nat.lt_or_ge g w.heap.size with hlt | hge
  · exact hlt
  · unfold Blk at h; rw [Array.getElem?_eq_none hge] at h; cases h
theorem Blk.cell (h : Blk w g t cs) (i : Nat) : w.cell? ⟨g, i, none⟩ = cs[i]? := by
  unfold Blk at h
  simp [World.cell?, h]
theorem Blk.frozen (h : Blk w g t cs) (i : Nat) : w.frozen? ⟨g, i, none⟩ = false := by
  unfold Blk at h
  simp [World.frozen?, h]
theorem Blk.new (w : World) (t : TypeId) (cs : Array Value) : Blk (w.alloc (.cells cs t)) w.heap.size t cs := heap_alloc_new w _
theorem Blk.alloc (h : Blk w g t cs) (o : Obj) : Blk (w.alloc o) g t cs := (Below.heap_alloc w o g h.lt).trans h
theorem Blk.set_ (h : Blk w g t cs) (i : Nat) (u : Value) : Blk (w.setCell ⟨g, i, none⟩ u) g t (cs.setIfInBounds i u) := by
  unfold Blk at h ⊢
  simp [World.setCell, Array.getElem?_modify, h]
theorem Blk.far (h : Blk w g t cs) {p : Addr} (hp : g ≠ p.block) (u : Value) : Blk (w.setCell p u) g t cs := (Below.heap_setCell w p u g hp).trans h
theorem Blk.below {B : Nat} (h : Blk w g t cs) (hb : Below B w w') (hg : g < B) : Blk w' g t cs := (hb.block g hg).trans h
/-- behind a call that turns nothing of what was there -/
theorem Blk.call (h : Blk w g t cs) (hb : Below w.heap.size w w') : Blk w' g t cs := (hb.block g h.lt).trans h
/-- what stands of a block, as three rules of the walk -/
theorem Blk.rules (h : Blk w g t cs) : (∀ i, w.cell? ⟨g, i, none⟩ = cs[i]?) ∧ (∀ i, w.frozen? ⟨g, i, none⟩ = false) ∧ g < w.heap.size := ⟨h.cell, h.frozen, h.lt⟩
end
/-- a call behind what is known -/
theorem below_call {w W w1 : World} (h : Below w.heap.size w W) (hb : Below W.heap.size W w1) : Below w.heap.size w w1 := h.trans (hb.mono h.size)
end Go.Proofs.YtjkfckkmofcpdaaDoor
