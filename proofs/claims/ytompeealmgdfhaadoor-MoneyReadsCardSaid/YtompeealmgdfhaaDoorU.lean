/- Exponent. -/
import Derived.Test.YtompeealmgdfhaaDoorT
import Derived.Deep.MidRow
set_option linter.unusedVariables false
set_option linter.unusedSimpArgs false
namespace Go.Proofs.YtompeealmgdfhaaDoor
open Go.Sort Go.ChangeShapes Go.WideShapes Go.ChangeAt Go.RowKit
open div
def xtab : List Value := [.string ⟨#[74, 80, 89]⟩, .int .i64 0, .string ⟨#[75, 82, 87]⟩, .int .i64 0, .string ⟨#[86, 78, 68]⟩, .int .i64 0, .string ⟨#[67, 76, 80]⟩, .int .i64 0, .string ⟨#[73, 83, 75]⟩, .int .i64 0, .string ⟨#[66, 72, 68]⟩, .int .i64 3, .string ⟨#[75, 87, 68]⟩, .int .i64 3, .string ⟨#[74, 79, 68]⟩, .int .i64 3, .string ⟨#[79, 77, 82]⟩, .int .i64 3, .string ⟨#[84, 78, 68]⟩, .int .i64 3]
def XT (w : World) : Prop := w.rangeAt 2 0 xtab
theorem XT.call {w w1 : World} (h : XT w) (hb : Below w.heap.size w w1) : XT w1 := fun i v hv => (hb.cell (p := ⟨2, 0 + i, none⟩) (block_lt_of_cell (h i v hv))).trans (h i v hv)
def xc (i : Nat) : ByteArray := [⟨#[74, 80, 89]⟩, ⟨#[75, 82, 87]⟩, ⟨#[86, 78, 68]⟩, ⟨#[67, 76, 80]⟩, ⟨#[73, 83, 75]⟩, ⟨#[66, 72, 68]⟩, ⟨#[75, 87, 68]⟩, ⟨#[74, 79, 68]⟩, ⟨#[79, 77, 82]⟩, ⟨#[84, 78, 68]⟩].getD i ⟨#[]⟩
def xpl (i : Nat) : Int := [0, 0, 0, 0, 0, 3, 3, 3, 3, 3].getD i 2
def exF (s : ByteArray) : Nat → Nat → Int
  | 0, _ => 2
  | f + 1, i => if xc i = s then xpl i else exF s f (i + 1)
def exV (s : ByteArray) : Int := exF s 10 0
theorem xpl_in (i : Nat) : xpl i = 0 ∨ xpl i = 2 ∨ xpl i = 3 := by
  by_cases h : i < 10
  · have key : ∀ k : Fin 10, xpl k.val = 0 ∨ xpl k.val = 2 ∨ xpl k.val = 3 := by decide
    exact key ⟨i, h⟩
  · right; left
    unfold xpl
    rw [List.getD_eq_getElem?_getD, List.getElem?_eq_none (by simp; omega)]; rfl
theorem exF_in (s : ByteArray) (f i : Nat) : exF s f i = 0 ∨ exF s f i = 2 ∨ exF s f i = 3 := by
  induction f generalizing i with
  | zero => right; left; rfl
  | succ f ih => unfold exF; split; exact xpl_in i; exact ih (i + 1)
theorem xload (w : World) (h : XT w) : (Instr.loadAt 86 (.pointer (some ⟨2, 0, none⟩))).run Tryd.prog w = .ok (.agg xtab.toArray) w :=
  run_loadAt_mid w 2 0 86 xtab _ h Tryd.underlying86 (by decide) (by kernel_rfl)
theorem xind (i : Nat) (hi : i < 10) : ∀ w : World, (Instr.index 86 (.agg xtab.toArray) (.int .i64 i)).run Tryd.prog w = .ok (.agg #[.string (xc i), .int .i64 (xpl i)]) w := by
  have : i = 0 ∨ i = 1 ∨ i = 2 ∨ i = 3 ∨ i = 4 ∨ i = 5 ∨ i = 6 ∨ i = 7 ∨ i = 8 ∨ i = 9 := by omega
  rcases this with rfl | rfl | rfl | rfl | rfl | rfl | rfl | rfl | rfl | rfl <;> (clear hi; intro w; kernel_rfl)
theorem expo_no (s : ByteArray) (hs : s.size ≤ maxLen) (h : curL s.data.toList = false) (w : World) : Calls Tryd.prog 47 #[.string s] w fun e w' => e = .returned (.tuple #[.int .i64 0, .bool false]) ∧ Below w.heap.size w w' := by
  have HC := Lib.hid (fun w => cur_no s hs h w)
  clear hs h
  go_enter Tryd.func47, Tryd.ntmps47
  go_wp2_with fail
  refine (HC.out _).mono ?_
  rintro e q1 ⟨rfl, rfl⟩
  go_wp2_with fail
  go_ret2
  exact ⟨rfl, Below.refl _ _⟩
set_option maxHeartbeats 1000000 in
set_option maxRecDepth 20000 in
theorem expo_yes (s : ByteArray) (hs : s.size ≤ maxLen) (h : curL s.data.toList = true) (w : World) (hX : XT w) : Calls Tryd.prog 47 #[.string s] w fun e w' => e = .returned (.tuple #[.int .i64 (exV s), .bool true]) ∧ Below w.heap.size w w' := by
  have HC := Lib.hid (fun w => cur_yes s hs h w)
  have HI := Lib.hid xind
  obtain ⟨T, hT⟩ : ∃ T, T = xtab.toArray := ⟨_, rfl⟩
  obtain ⟨V, hV⟩ : ∃ V, V = exV s := ⟨_, rfl⟩
  rw [← hT] at HI
  rw [← hV]
  have HV := Lib.hid hV
  have HX := Lib.hid hX
  have HT := Lib.hid hT
  clear hX hs h hT hV
  go_enter Tryd.func47, Tryd.ntmps47
  go_wp2_with (first | (go_at_call 34; refine (HC.out _).mono ?_; rintro e q1 ⟨rfl, rfl⟩) | (refine wpList_load_mid rfl 86 (Operand.global 2) rfl 2 0 rfl xtab _ HX.out Tryd.underlying86 (by decide) (by kernel_rfl) ?_))
  rw [← HT.out]
  go_wp2_with fail
  go_loopg [10] 10 (fun g i wr => Below w.heap.size w wr ∧ ∃ k : Nat, g + k = 10 ∧ i = .int .i64 k ∧ Hid (V = exF s g k))
  case atStart => exact ⟨Below.refl _ _, 0, rfl, rfl, HV⟩
  case round =>
    obtain ⟨hb, k, hk, rfl, hv⟩ := hrel
    have HB := Lib.hid hb
    have HK := Lib.hid hk
    by_cases hlt : k < 10
    · have h1 : (k : Int) < 10 := by omega
      have hi := fun w => HI.out k hlt w
      obtain ⟨f, rfl⟩ : ∃ f, gk = f + 1 := ⟨gk - 1, by omega⟩
      have hv1 := hv.out
      unfold exF at hv1
      by_cases he : xc k = s
      · rw [if_pos he] at hv1
        have HV1 := Lib.hid hv1
        have hc : ((xc k).toList == s.toList) = true := by rw [he]; exact beq_self_eq_true _
        generalize xc k = c at *
        generalize xpl k = p at *
        clear hb hk he hv1 hlt
        go_wp2_with fail
        go_ret2
        exact ⟨by rw [HV1.out]; rfl, al HB.out⟩
      · rw [if_neg he] at hv1
        have HV1 := Lib.hid hv1
        have hc : ((xc k).toList == s.toList) = false := by
          rw [beq_eq_false_iff_ne]; intro h; exact he (toList_inj h)
        generalize xc k = c at *
        generalize xpl k = p at *
        clear hb hk he hv1 hlt
        go_wp2_with fail
        go_roundg f
        case measure => omega
        case rel => exact ⟨HB.out.alloc HB.out.size _, k + 1, by have := HK.out; omega, by go_num, HV1⟩
    · have h1 : ¬ (k : Int) < 10 := by omega
      obtain rfl : gk = 0 := by omega
      have hv1 := hv.out
      unfold exF at hv1
      have HV1 := Lib.hid hv1
      clear hb hk hv1 hlt
      go_wp2_with fail
      go_ret2
      exact ⟨by rw [HV1.out]; rfl, HB.out⟩
end Go.Proofs.YtompeealmgdfhaaDoor
