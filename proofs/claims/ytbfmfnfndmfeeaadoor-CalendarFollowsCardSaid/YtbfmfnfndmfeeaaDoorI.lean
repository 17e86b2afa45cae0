/- The holidays: a map of the call's own, as a set of numbers. -/
import Derived.Test.YtbfmfnfndmfeeaaDoorH
import Derived.Maps.Own
set_option linter.unusedVariables false
set_option linter.unusedSimpArgs false
namespace Go.Proofs.YtbfmfnfndmfeeaaDoor
open Go.Sort Go.ChangeShapes Go.WideShapes Go.ChangeAt Go.RowKit
open cal
theorem find_insert_other {p : Lit × DataW Nat → Bool} {x : Lit × DataW Nat} (hx : p x = false) : ∀ l : List (Lit × DataW Nat), (DataW.insert x l).find? p = l.find? p
  | [] => by simp [DataW.insert, hx]
  | y :: r => by
    unfold DataW.insert
    split
    · simp [hx]
    · simp only [List.find?_cons, find_insert_other hx r]
theorem find_insert_same {p : Lit × DataW Nat → Bool} {x : Lit × DataW Nat} (hx : p x = true) : ∀ l : List (Lit × DataW Nat), (∀ q ∈ l, p q = false) → (DataW.insert x l).find? p = some x
  | [], _ => by simp [DataW.insert, hx]
  | y :: r, h => by
    unfold DataW.insert
    split
    · simp [hx]
    · simp only [List.find?_cons, h y (.head _), find_insert_same hx r (fun q hq => h q (.tail _ hq))]
theorem atKey_put (es : List (Lit × DataW Nat)) (k x : Int) (d z : DataW Nat) :
    ((DataW.map es).put (.int .i64 k) d).atKey (.int .i64 x) z = if x = k then d else (DataW.map es).atKey (.int .i64 x) z := by
  rw [DataW.put_eq]
  unfold ChangeMaps.putKey DataW.atKey
  by_cases h : x = k
  · subst h
    rw [if_pos rfl]
    simp only
    rw [find_insert_same (by simp [Lit.sameKey])]
    intro q hq
    rw [List.mem_filter] at hq
    simpa [ChangeMaps.notKey] using hq.2
  · rw [if_neg h]
    simp only
    rw [find_insert_other (by simp [Lit.sameKey]; exact fun e => h e.symm), List.find?_filter]
    have e : es.find? (fun a => ChangeMaps.notKey (.int .i64 k) a && a.1.sameKey (.int .i64 x)) = es.find? (fun p => p.1.sameKey (.int .i64 x)) := by
      refine WideAt.find_congr fun a _ => ?_
      cases ha : a.1.sameKey (.int .i64 x) with
      | false => simp
      | true =>
        have := WideAt.sameKey_eq ha
        simp only [ChangeMaps.notKey, this, Bool.and_true]
        simp [Lit.sameKey]
        exact fun e => h e
    simp only [Bool.decide_and, Bool.decide_eq_true, e]
theorem keyedI : Maps.Keyed Tryd.prog 3 := Maps.int_keyed Tryd.underlying3
def wf64 (x : Int) : Prop := (Lit.int .i64 x).wf = true
/-- block B of w is a map whose keys with 'true' are those of S -/
def SetAt (w : World) (B n : Nat) (S : Int → Bool) : Prop := ∃ es : List (Lit × DataW Nat), w.ownsMap Tryd.prog 3 (plainElem Tryd.prog 4) B n (.map es) ∧
  ∀ x, (DataW.map es).atKey (.int .i64 x) (.lit (.bool false)) = .lit (.bool (S x))
theorem set_made (w : World) : SetAt (w.alloc (.map #[] 0)) w.heap.size 0 (fun _ => false) := ⟨[], World.ownsMap_made w _ _ _, fun x => rfl⟩
theorem SetAt.lt {w : World} {B n : Nat} {S : Int → Bool} (h : SetAt w B n S) : B < w.heap.size := by
  obtain ⟨es, h, -⟩ := h
  exact h.lt
theorem SetAt.call {w w1 : World} {B n : Nat} {S : Int → Bool} (h : SetAt w B n S) (hb : Below w.heap.size w w1) : SetAt w1 B n S := by
  have hlt := h.lt
  obtain ⟨es, ⟨e, clock, hb0, F, hs, hD⟩, h2⟩ := h
  exact ⟨es, ⟨e, clock, (hb.block B hlt).trans hb0, F, hs, hD⟩, h2⟩
theorem SetAt.far {w : World} {B n : Nat} {S : Int → Bool} (h : SetAt w B n S) {p : Addr} (hp : B ≠ p.block) (u : Value) : SetAt (w.setCell p u) B n S := by
  obtain ⟨es, ⟨e, clock, hb0, F, hs, hD⟩, h2⟩ := h
  exact ⟨es, ⟨e, clock, (Below.heap_setCell w p u B hp).trans hb0, F, hs, hD⟩, h2⟩
theorem SetAt.mono {w : World} {B n n' : Nat} {S : Int → Bool} (h : SetAt w B n S) (hn : n ≤ n') : SetAt w B n' S := by
  obtain ⟨es, h, h2⟩ := h
  exact ⟨es, h.mono hn, h2⟩
theorem SetAt.look {w : World} {B n : Nat} {S : Int → Bool} (h : SetAt w B n S) {x : Int} (hx : (Lit.int .i64 x).wf = true) :
    (Instr.lookup 51 (.map (some B)) (.int .i64 x) false).run Tryd.prog w = .ok (.bool (S x)) w := by
  obtain ⟨es, h, h2⟩ := h
  obtain ⟨v, ps, hrun, hv⟩ := h.lookup keyedI Tryd.underlying51 (z := .bool false) (by kernel_rfl) (plainElem_bool Tryd.underlying4 false) (Maps.keyOf_int_mk Tryd.underlying3 hx)
  rw [h2 x] at hv
  rw [hrun]
  congr 1
  unfold plainElem at hv
  rw [Tryd.underlying4] at hv
  cases v <;> simp at hv
  rw [hv.1]
theorem SetAt.store {w : World} {B n : Nat} {S : Int → Bool} (h : SetAt w B n S) {x : Int} (hx : (Lit.int .i64 x).wf = true) (hn : n < maxLen) :
    ∃ w', (Instr.mapUpdate 51 (.map (some B)) (.int .i64 x) (.bool true)).run Tryd.prog w = .ok () w' ∧ SetAt w' B (n + 1) (fun k => k == x || S k) ∧ w.grownBy w' (some B) := by
  obtain ⟨es, h, h2⟩ := h
  obtain ⟨w', hrun, h3, h4⟩ := h.update keyedI Tryd.underlying51 hn (Maps.keyOf_int_mk Tryd.underlying3 hx) (plainElem_bool Tryd.underlying4 true)
  refine ⟨w', hrun, ⟨_, by rw [DataW.put_eq] at h3; exact h3, fun k => ?_⟩, h4⟩
  rw [← DataW.put_eq, atKey_put, h2 k]
  by_cases e : k = x
  · simp [e]
  · simp [e]
end Go.Proofs.YtbfmfnfndmfeeaaDoor
