/- The dictionary; Find and ByName. -/
import Derived.Test.YtjkfckkmofcpdaaDoorK
import Derived.Test.YtjkfckkmofcpdaaDoorRows
import Derived.Deep.MidRow
import Derived.Laws.ResultCell
import Derived.Laws.Rows
import Derived.LoopN
import Derived.Stop.Joined
set_option linter.unusedVariables false
set_option linter.unusedSimpArgs false
namespace Go.Proofs.YtjkfckkmofcpdaaDoor
open Go.Sort Go.ChangeShapes Go.WideShapes Go.ChangeAt Go.RowKit
def dtab : List Value := [.int .i64 2, .string ⟨#[99, 97, 114, 100]⟩, .int .i64 1, .int .i64 19, .int .i64 2, .int .i64 3, .string ⟨#[112, 114, 111, 99, 101, 115, 115]⟩, .int .i64 1, .int .i64 6, .int .i64 0, .int .i64 4, .string ⟨#[97, 109, 111, 117, 110, 116]⟩, .int .i64 1, .int .i64 12, .int .i64 0, .int .i64 7, .string ⟨#[115, 101, 110, 116]⟩, .int .i64 1, .int .i64 13, .int .i64 0, .int .i64 11, .string ⟨#[116, 114, 97, 99, 101]⟩, .int .i64 1, .int .i64 6, .int .i64 0, .int .i64 14, .string ⟨#[101, 120, 112, 105, 114, 121]⟩, .int .i64 1, .int .i64 5, .int .i64 0, .int .i64 18, .string ⟨#[99, 97, 116, 101, 103, 111, 114, 121]⟩, .int .i64 1, .int .i64 4, .int .i64 0, .int .i64 32, .string ⟨#[97, 99, 113, 117, 105, 114, 101, 114]⟩, .int .i64 2, .int .i64 16, .int .i64 2, .int .i64 37, .string ⟨#[114, 101, 102, 101, 114, 101, 110, 99, 101]⟩, .int .i64 1, .int .i64 12, .int .i64 0, .int .i64 38, .string ⟨#[97, 112, 112, 114, 111, 118, 97, 108]⟩, .int .i64 1, .int .i64 6, .int .i64 0, .int .i64 39, .string ⟨#[114, 101, 115, 112, 111, 110, 115, 101]⟩, .int .i64 1, .int .i64 2, .int .i64 0, .int .i64 41, .string ⟨#[116, 101, 114, 109, 105, 110, 97, 108]⟩, .int .i64 2, .int .i64 8, .int .i64 0, .int .i64 42, .string ⟨#[109, 101, 114, 99, 104, 97, 110, 116]⟩, .int .i64 2, .int .i64 16, .int .i64 2, .int .i64 48, .string ⟨#[101, 120, 116, 114, 97]⟩, .int .i64 2, .int .i64 255, .int .i64 3, .int .i64 49, .string ⟨#[99, 117, 114, 114, 101, 110, 99, 121]⟩, .int .i64 2, .int .i64 3, .int .i64 0, .int .i64 52, .string ⟨#[99, 114, 121, 112, 116, 111, 103, 114, 97, 109]⟩, .int .i64 3, .int .i64 16, .int .i64 0, .int .i64 54, .string ⟨#[112, 97, 114, 116, 105, 97, 108]⟩, .int .i64 1, .int .i64 12, .int .i64 0, .int .i64 55, .string ⟨#[99, 111, 117, 110, 116, 101, 114]⟩, .int .i64 1, .int .i64 6, .int .i64 0, .int .i64 56, .string ⟨#[111, 114, 105, 103, 105, 110, 97, 108]⟩, .int .i64 1, .int .i64 12, .int .i64 0, .int .i64 59, .string ⟨#[110, 111, 110, 99, 101]⟩, .int .i64 2, .int .i64 8, .int .i64 0, .int .i64 70, .string ⟨#[110, 101, 116, 119, 111, 114, 107]⟩, .int .i64 1, .int .i64 3, .int .i64 0, .int .i64 95, .string ⟨#[114, 97, 105, 115, 101]⟩, .int .i64 1, .int .i64 12, .int .i64 0, .int .i64 100, .string ⟨#[114, 101, 99, 101, 105, 118, 101, 114]⟩, .int .i64 2, .int .i64 16, .int .i64 2]
/-- the dictionary lies in its variable -/
def DT (w : World) : Prop := w.rangeAt 0 0 dtab
theorem DT.call {w w1 : World} (h : DT w) (hb : Below w.heap.size w w1) : DT w1 := fun i v hv => (hb.cell (p := ⟨0, 0 + i, none⟩) (block_lt_of_cell (h i v hv))).trans (h i v hv)
def dn (i : Nat) : Int := [2, 3, 4, 7, 11, 14, 18, 32, 37, 38, 39, 41, 42, 48, 49, 52, 54, 55, 56, 59, 70, 95, 100].getD i 0
def dnm (i : Nat) : ByteArray := [⟨#[99, 97, 114, 100]⟩, ⟨#[112, 114, 111, 99, 101, 115, 115]⟩, ⟨#[97, 109, 111, 117, 110, 116]⟩, ⟨#[115, 101, 110, 116]⟩, ⟨#[116, 114, 97, 99, 101]⟩, ⟨#[101, 120, 112, 105, 114, 121]⟩, ⟨#[99, 97, 116, 101, 103, 111, 114, 121]⟩, ⟨#[97, 99, 113, 117, 105, 114, 101, 114]⟩, ⟨#[114, 101, 102, 101, 114, 101, 110, 99, 101]⟩, ⟨#[97, 112, 112, 114, 111, 118, 97, 108]⟩, ⟨#[114, 101, 115, 112, 111, 110, 115, 101]⟩, ⟨#[116, 101, 114, 109, 105, 110, 97, 108]⟩, ⟨#[109, 101, 114, 99, 104, 97, 110, 116]⟩, ⟨#[101, 120, 116, 114, 97]⟩, ⟨#[99, 117, 114, 114, 101, 110, 99, 121]⟩, ⟨#[99, 114, 121, 112, 116, 111, 103, 114, 97, 109]⟩, ⟨#[112, 97, 114, 116, 105, 97, 108]⟩, ⟨#[99, 111, 117, 110, 116, 101, 114]⟩, ⟨#[111, 114, 105, 103, 105, 110, 97, 108]⟩, ⟨#[110, 111, 110, 99, 101]⟩, ⟨#[110, 101, 116, 119, 111, 114, 107]⟩, ⟨#[114, 97, 105, 115, 101]⟩, ⟨#[114, 101, 99, 101, 105, 118, 101, 114]⟩].getD i ⟨#[]⟩
def dk (i : Nat) : Int := [1, 1, 1, 1, 1, 1, 1, 2, 1, 1, 1, 2, 2, 2, 2, 3, 1, 1, 1, 2, 1, 1, 2].getD i 0
def dl (i : Nat) : Int := [19, 6, 12, 13, 6, 5, 4, 16, 12, 6, 2, 8, 16, 255, 3, 16, 12, 6, 12, 8, 3, 12, 16].getD i 0
def dv (i : Nat) : Int := [2, 0, 0, 0, 0, 0, 0, 2, 0, 0, 0, 0, 2, 3, 0, 0, 0, 0, 0, 0, 0, 0, 2].getD i 0
abbrev spA (i : Nat) : Array Value := #[.int .i64 (dn i), .string (dnm i), .int .i64 (dk i), .int .i64 (dl i), .int .i64 (dv i)]
/-- where a number stands, or 23 -/
def fd (n : Int) : Nat → Nat → Nat
  | 0, i => i
  | f + 1, i => if dn i = n then i else fd n f (i + 1)
def fdI (n : Int) : Nat := fd n 23 0
/-- where a name stands, or 23 -/
def fm (s : ByteArray) : Nat → Nat → Nat
  | 0, i => i
  | f + 1, i => if dnm i = s then i else fm s f (i + 1)
def fmI (s : ByteArray) : Nat := fm s 23 0
theorem dind (i : Nat) (hi : i < 23) : ∀ w : World, (Instr.index 47 (.agg dtab.toArray) (.int .i64 i)).run Tryd.prog w = .ok (.agg (spA i)) w := by
  have : i = 0 ∨ i = 1 ∨ i = 2 ∨ i = 3 ∨ i = 4 ∨ i = 5 ∨ i = 6 ∨ i = 7 ∨ i = 8 ∨ i = 9 ∨ i = 10 ∨ i = 11 ∨ i = 12 ∨ i = 13 ∨ i = 14 ∨ i = 15 ∨ i = 16 ∨ i = 17 ∨ i = 18 ∨ i = 19 ∨ i = 20 ∨ i = 21 ∨ i = 22 := by omega
  rcases this with rfl | rfl | rfl | rfl | rfl | rfl | rfl | rfl | rfl | rfl | rfl | rfl | rfl | rfl | rfl | rfl | rfl | rfl | rfl | rfl | rfl | rfl | rfl <;> (clear hi; intro w; kernel_rfl)
theorem res9 (tmps : Array Value) (w : World) (g : Nat) (a0 : Int) (a1 : ByteArray) (a2 a3 a4 : Int) (hp : tmps.getD 2 undef = .pointer (some ⟨g, 0, none⟩)) (hg : Blk w g 23 #[.int .i64 a0, .string a1, .int .i64 a2, .int .i64 a3, .int .i64 a4]) :
    (results Tryd.f9 tmps).run Tryd.prog w = .ok (.tuple #[.agg #[.int .i64 a0, .string a1, .int .i64 a2, .int .i64 a3, .int .i64 a4], tmps.getD 3 undef]) w := by
  rw [results_cell_tmp (p := 2) (u := 3) (ty := 23) rfl, hp]
  have := run_loadVar_row (P := Tryd.prog) w g 23 23 #[.int .i64 a0, .string a1, .int .i64 a2, .int .i64 a3, .int .i64 a4] (0, 0) _ hg Tryd.underlying23 rfl (by kernel_rfl)
  simp [asAddr, Result.andThen, this]
theorem blk5 {w : World} {g t : Nat} {a b c d e : Value} (h : Blk w g t #[a, b, c, d, e]) (a' b' c' d' e' : Value) : Blk (((((w.setCell ⟨g, 0, none⟩ a').setCell ⟨g, 1, none⟩ b').setCell ⟨g, 2, none⟩ c').setCell ⟨g, 3, none⟩ d').setCell ⟨g, 4, none⟩ e') g t #[a', b', c', d', e'] := ((((h.set_ 0 a').set_ 1 b').set_ 2 c').set_ 3 d').set_ 4 e'
theorem toList_ne {a b : ByteArray} (h : a ≠ b) : (a.toList == b.toList) = false := by
  rw [beq_eq_false_iff_ne]
  intro e
  rw [ByteArray.toList_eq, ByteArray.toList_eq] at e
  exact h (ByteArray.ext (Array.toList_inj.1 e))
set_option maxHeartbeats 4000000 in
set_option maxRecDepth 20000 in
theorem find_any (n : Int) (w : World) (hX : DT w) : Calls Tryd.prog 9 #[.int .i64 n] w fun e w' => e = .returned (.tuple #[.agg (spA (fdI n)), .bool (decide (fdI n < 23))]) ∧ Below w.heap.size w w' := by
  have HI := Lib.hid dind
  obtain ⟨T, hT⟩ : ∃ T, T = dtab.toArray := ⟨_, rfl⟩
  obtain ⟨V, hV⟩ : ∃ V, V = fdI n := ⟨_, rfl⟩
  rw [← hT] at HI
  rw [← hV]
  have HV := Lib.hid hV
  have HX := Lib.hid (show DT (w.alloc (.cells #[.int .i64 0, .string ⟨#[]⟩, .int .i64 0, .int .i64 0, .int .i64 0] 23)) from hX.call ((Below.refl w.heap.size w).alloc (Nat.le_refl _) _))
  have HT := Lib.hid hT
  have HR := Lib.hid (Blk.new w 23 #[.int .i64 0, .string ⟨#[]⟩, .int .i64 0, .int .i64 0, .int .i64 0])
  have HB0 := Lib.hid ((Below.refl w.heap.size w).alloc (Nat.le_refl _) (.cells #[.int .i64 0, .string ⟨#[]⟩, .int .i64 0, .int .i64 0, .int .i64 0] 23))
  clear hX hT hV
  go_enter Tryd.func9, Tryd.ntmps9
  go_wp2_with (refine wpList_load_mid rfl 47 (Operand.global 0) rfl 0 0 rfl dtab _ HX.out Tryd.underlying47 (by decide) (by kernel_rfl) ?_)
  rw [← HT.out]
  go_wp2_with fail
  go_loopg [7] 23 (fun g i wr => Hid (Below w.heap.size w wr) ∧ Hid (Blk wr w.heap.size 23 #[.int .i64 0, .string ⟨#[]⟩, .int .i64 0, .int .i64 0, .int .i64 0]) ∧ ∃ k : Nat, g + k = 23 ∧ i = .int .i64 k ∧ Hid (V = fd n g k))
  case atStart => exact ⟨HB0, HR, 0, rfl, rfl, HV⟩
  case round =>
    obtain ⟨HB, HRb, k, hk, rfl, hv⟩ := hrel
    have HK := Lib.hid hk
    have hRt := HRb.out
    obtain ⟨r0, r1, r2, r3, r4, rf0, rf1, rf2, rf3, rf4, rl⟩ := show wr.cell? ⟨w.heap.size, 0, none⟩ = some (.int .i64 0) ∧ wr.cell? ⟨w.heap.size, 1, none⟩ = some (.string ⟨#[]⟩) ∧ wr.cell? ⟨w.heap.size, 2, none⟩ = some (.int .i64 0) ∧ wr.cell? ⟨w.heap.size, 3, none⟩ = some (.int .i64 0) ∧ wr.cell? ⟨w.heap.size, 4, none⟩ = some (.int .i64 0) ∧ wr.frozen? ⟨w.heap.size, 0, none⟩ = false ∧ wr.frozen? ⟨w.heap.size, 1, none⟩ = false ∧ wr.frozen? ⟨w.heap.size, 2, none⟩ = false ∧ wr.frozen? ⟨w.heap.size, 3, none⟩ = false ∧ wr.frozen? ⟨w.heap.size, 4, none⟩ = false ∧ w.heap.size < wr.heap.size from ⟨hRt.cell 0, hRt.cell 1, hRt.cell 2, hRt.cell 3, hRt.cell 4, hRt.frozen 0, hRt.frozen 1, hRt.frozen 2, hRt.frozen 3, hRt.frozen 4, hRt.lt⟩
    clear hRt
    by_cases hlt : k < 23
    · have h1 : (k : Int) < 23 := by omega
      have hi := fun w => HI.out k hlt w
      obtain ⟨f, rfl⟩ : ∃ f, gk = f + 1 := ⟨gk - 1, by omega⟩
      have hv1 := hv.out
      unfold fd at hv1
      by_cases he : dn k = n
      · rw [if_pos he] at hv1
        have HV1 := Lib.hid hv1
        have HLT := Lib.hid hlt
        have hc : (dn k == n) = true := by rw [he]; exact beq_self_eq_true _
        have HS := Lib.hid (show spA k = #[.int .i64 (dn k), .string (dnm k), .int .i64 (dk k), .int .i64 (dl k), .int .i64 (dv k)] from rfl)
        dsimp only [spA] at hi
        generalize dn k = a0 at *
        generalize dnm k = a1 at *
        generalize dk k = a2 at *
        generalize dl k = a3 at *
        generalize dv k = a4 at *
        clear hk he hv1 hlt
        go_wp2_with fail
        (try simp only [Exit.inBlock, Exit.then])
        refine bodyPost_ret (v := .tuple #[.agg #[.int .i64 a0, .string a1, .int .i64 a2, .int .i64 a3, .int .i64 a4], .bool true]) ?c1 rfl ⟨?c2, ?c3⟩
        case c1 => exact res9 _ _ w.heap.size a0 a1 a2 a3 a4 rfl ((blk5 HRb.out _ _ _ _ _).alloc _)
        case c2 => rw [HV1.out, HS.out, decide_eq_true HLT.out]
        case c3 => exact (by repeat (first | (with_reducible exact HB.out) | (with_reducible refine Below.setCell ?_ (by simp) _) | (with_reducible refine Below.alloc ?_ (by simp; try exact HB.out.size) _)))
      · rw [if_neg he] at hv1
        have HV1 := Lib.hid hv1
        have hc : (dn k == n) = false := beq_eq_false_iff_ne.2 he
        dsimp only [spA] at hi
        generalize dn k = a0 at *
        generalize dnm k = a1 at *
        generalize dk k = a2 at *
        generalize dl k = a3 at *
        generalize dv k = a4 at *
        clear hk he hv1 hlt
        go_wp2_with fail
        go_roundg f
        case measure => omega
        case rel => exact ⟨Lib.hid (HB.out.alloc HB.out.size _), Lib.hid (HRb.out.alloc _), k + 1, by have := HK.out; omega, by go_num, HV1⟩
    · have h1 : ¬ (k : Int) < 23 := by omega
      obtain rfl : gk = 0 := by omega
      have hv1 := hv.out
      unfold fd at hv1
      have HV1 := Lib.hid (show V = 23 by omega)
      clear hk hv1 hlt
      go_wp2_with fail
      (try simp only [Exit.inBlock, Exit.then])
      refine bodyPost_ret (v := .tuple #[.agg #[.int .i64 0, .string ⟨#[]⟩, .int .i64 0, .int .i64 0, .int .i64 0], .bool false]) ?e1 rfl ⟨?e2, ?e3⟩
      case e1 => exact res9 _ _ w.heap.size 0 ⟨#[]⟩ 0 0 0 rfl (blk5 HRb.out _ _ _ _ _)
      case e2 => rw [HV1.out]; rfl
      case e3 => exact (by repeat (first | (with_reducible exact HB.out) | (with_reducible refine Below.setCell ?_ (by simp) _)))
end Go.Proofs.YtjkfckkmofcpdaaDoor
