/- Lists of lexemes in memory; equal lists; the example. -/
import Derived.Test.YtikmaljhfckbgaaDoorS
set_option linter.unusedVariables false
set_option linter.unusedSimpArgs false
namespace Go.Proofs.YtikmaljhfckbgaaDoor
open Go.Sort Go.ChangeShapes Go.WideShapes Go.ChangeAt Go.RowKit
/-- the lexemes at a place in memory -/
def LxAt (w : World) (v : Value) (l : List Lx) : Prop := ∃ a cap, v = .slice a l.length cap ∧ l.length ≤ cap ∧ cap ≤ maxLen ∧ (∀ (i : Nat) (h : i < l.length), ∃ g, a = some ⟨g, 0, none⟩ ∧ g < w.heap.size ∧ w.cell? ⟨g, i * 4, none⟩ = some (.int .i64 l[i].k) ∧ w.cell? ⟨g, i * 4 + 1, none⟩ = some (.string l[i].t) ∧ w.cell? ⟨g, i * 4 + 2, none⟩ = some (.int .i64 l[i].v) ∧ w.cell? ⟨g, i * 4 + 3, none⟩ = some (.int .i64 l[i].p))
theorem lxs_at (l : List Lx) : ∀ (i : Nat) (h : i < l.length), (lxs l)[i * 4]? = some (.int .i64 l[i].k) ∧ (lxs l)[i * 4 + 1]? = some (.string l[i].t) ∧ (lxs l)[i * 4 + 2]? = some (.int .i64 l[i].v) ∧ (lxs l)[i * 4 + 3]? = some (.int .i64 l[i].p) := by
  induction l with
  | nil => intro i h; exact absurd h (Nat.not_lt_zero _)
  | cons x l ih =>
    intro i h
    cases i with
    | zero => exact ⟨rfl, rfl, rfl, rfl⟩
    | succ i =>
      have := ih i (by rw [List.length_cons] at h; omega)
      have e : ∀ j, (lxs (x :: l))[(i + 1) * 4 + j]? = (lxs l)[i * 4 + j]? := fun j => by
        show (x.cells ++ lxs l)[_]? = _
        rw [List.getElem?_append_right (by show 4 ≤ _; omega), show (i + 1) * 4 + j - x.cells.length = i * 4 + j by show _ - 4 = _; omega]
      have e0 := e 0
      rw [Nat.add_zero, Nat.add_zero] at e0
      rw [e0, e 1, e 2, e 3]
      exact this
theorem lxAt_of {w : World} {B n : Nat} {v : Value} {l : List Lx} (hn : n = l.length) (h : w.ownsRow B 30 4 v n (lxs l)) : LxAt w v l := by
  subst hn
  obtain ⟨hl, ⟨rfl, h0⟩ | ⟨g, cp, cur, rfl, hb, hg, h1, h2, h3, h4⟩⟩ := h
  · refine ⟨none, 0, by rw [h0], by omega, Nat.zero_le _, fun i hi => absurd hi (by omega)⟩
  · refine ⟨_, cp, rfl, h1, h2, fun i hi => ⟨g, rfl, (Array.getElem?_eq_some_iff.1 hg).1, ?_⟩⟩
    have hcell : ∀ j, j < l.length * 4 → w.cell? ⟨g, j, none⟩ = (lxs l)[j]? := fun j hj => by
      rw [show w.cell? ⟨g, j, none⟩ = cur[j]? by simp [World.cell?, hg], ← h4, List.getElem?_take, if_pos hj]; simp
    have := lxs_at l i hi
    rw [hcell _ (by omega), hcell _ (by omega), hcell _ (by omega), hcell _ (by omega)]
    exact this
theorem LxAt.call {w w1 : World} {v : Value} {l : List Lx} (h : LxAt w v l) (hb : Below w.heap.size w w1) : LxAt w1 v l := by
  obtain ⟨a, cap, hv, h1, h2, h3⟩ := h
  refine ⟨a, cap, hv, h1, h2, fun i hi => ?_⟩
  obtain ⟨g, ha, hg, c0, c1, c2, c3⟩ := h3 i hi
  exact ⟨g, ha, Nat.lt_of_lt_of_le hg hb.size, (hb.cell (p := ⟨g, _, none⟩) hg).trans c0, (hb.cell (p := ⟨g, _, none⟩) hg).trans c1, (hb.cell (p := ⟨g, _, none⟩) hg).trans c2, (hb.cell (p := ⟨g, _, none⟩) hg).trans c3⟩
theorem LxAt.drew {w : World} {v : Value} {l : List Lx} (h : LxAt w v l) (n : Nat) : LxAt (w.drewN n) v l := h
set_option maxHeartbeats 2000000 in
set_option maxRecDepth 100000 in
theorem same_any (u v : Value) (l : List Lx) (hl : l.length ≤ 100000) (w : World) (hu : LxAt w u l) (hv : LxAt w v l) : Calls Tryd.prog 12 #[u, v] w fun e w' => e = .returned (.bool true) ∧ ∃ n, w' = w.drewN n := by
  have HU := Lib.hid hu
  have HV := Lib.hid hv
  obtain ⟨a, ca, rfl, a1, a2, -⟩ := hu
  obtain ⟨b, cb, rfl, b1, b2, -⟩ := hv
  have hli : (l.length : Int) ≤ 100000 := by omega
  clear a1 a2 b1 b2
  go_enter Tryd.func12, Tryd.ntmps12
  go_wp2_with fail
  go_loopw [5] (fun x wr => ∃ (k m : Nat), k ≤ l.length ∧ x = .int .i64 k ∧ Hid (wr = w.drewN m)) (fun x _ => l.length - (intOf x).toNat)
  case atStart => exact ⟨0, 0, Nat.zero_le _, rfl, Lib.hid rfl⟩
  case round =>
    obtain ⟨k, m, hk, rfl, hw⟩ := hrel
    by_cases hlt : k < l.length
    · have hlt' : (k : Int) < (l.length : Int) := by omega
      obtain ⟨a0, ca0, e0, -, -, hc⟩ := HU.out
      obtain ⟨b0, cb0, e1, -, -, hd⟩ := HV.out
      obtain ⟨g, rfl, hg, c0, c1, c2, c3⟩ := hc k hlt
      obtain ⟨q, rfl, hq, d0, d1, d2, d3⟩ := hd k hlt
      injection e0 with e0 _ f0
      injection e1 with e1 _ f1
      subst e0 e1 f0 f1
      generalize l[k].k = K at *
      generalize l[k].t = T at *
      generalize l[k].v = V at *
      generalize l[k].p = P at *
      have s0 : wr.cell? ⟨g, k * 4, none⟩ = some (.int .i64 K) := by rw [hw.out]; exact c0
      have s1 : wr.cell? ⟨g, k * 4 + 1, none⟩ = some (.string T) := by rw [hw.out]; exact c1
      have s2 : wr.cell? ⟨g, k * 4 + 2, none⟩ = some (.int .i64 V) := by rw [hw.out]; exact c2
      have s3 : wr.cell? ⟨g, k * 4 + 3, none⟩ = some (.int .i64 P) := by rw [hw.out]; exact c3
      have t0 : wr.cell? ⟨q, k * 4, none⟩ = some (.int .i64 K) := by rw [hw.out]; exact d0
      have t1 : wr.cell? ⟨q, k * 4 + 1, none⟩ = some (.string T) := by rw [hw.out]; exact d1
      have t2 : wr.cell? ⟨q, k * 4 + 2, none⟩ = some (.int .i64 V) := by rw [hw.out]; exact d2
      have t3 : wr.cell? ⟨q, k * 4 + 3, none⟩ = some (.int .i64 P) := by rw [hw.out]; exact d3
      clear c0 c1 c2 c3 d0 d1 d2 d3 hg hq hc hd
      go_wp2_with fail
      go_quiet (fail)
      go_wp2_with fail
      go_roundw
      case rel => exact ⟨k + 1, m + nq, by omega, by go_num, Lib.hid (by rw [hw.out]; exact World.drewN_drewN _ _ _)⟩
      case measure => simp [intOf]; omega
    · have hge : ¬ (k : Int) < (l.length : Int) := by omega
      clear hlt
      go_wp2_with fail
      go_ret
      exact ⟨rfl, m, hw.out⟩
def exS : ByteArray := ⟨#[114, 117, 108, 101, 32, 97, 32, 119, 104, 101, 110, 32, 97, 109, 111, 117, 110, 116, 32, 60, 61, 32, 49, 48, 48]⟩
theorem ex_scan : (scan exS).e = 0 ∧ (scan exS).p = 0 ∧ (scan exS).l = [⟨1, bst [114, 117, 108, 101], 0, 0⟩, ⟨1, bst [97], 0, 5⟩, ⟨1, bst [119, 104, 101, 110], 0, 7⟩, ⟨1, bst [97, 109, 111, 117, 110, 116], 0, 12⟩, ⟨4, bst [60, 61], 0, 19⟩, ⟨2, bst [], 100, 22⟩, ⟨0, ⟨#[]⟩, 0, 25⟩] := by
  refine ⟨by decide +kernel, by decide +kernel, rfl⟩
end Go.Proofs.YtikmaljhfckbgaaDoor
