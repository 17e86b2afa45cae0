/- Hex of the program. -/
import Derived.Test.YtknipjjmpdnomaaGreatDoorD
set_option linter.unusedVariables false
set_option linter.unusedSimpArgs false
namespace Go.Proofs.YtknipjjmpdnomaaGreatDoor
open Go.Sort Go.ChangeShapes Go.WideShapes Go.ChangeAt Go.RowKit
def Bui (w wr : World) (l : List UInt8) : Prop := Lib.IsBuilderF 63 5 w.heap.size w.heap.size (Lib.byteCells l) wr ∧ Below w.heap.size w wr
theorem Bui.new (w : World) : Bui w (w.alloc (.cells #[.pointer none, .slice none 0 0] 63)) [] := ⟨Lib.IsBuilderF.of (Lib.fresh_isBuilder 63 5 w), al_⟩
theorem Bui.byte {w wr : World} {l : List UInt8} (h : Bui w wr l) (c : UInt8) (hl : l.length ≤ 100000) :
    Calls Tryz.prog 43 #[.pointer (some ⟨w.heap.size, 0, none⟩), .int .u8 c.toNat] wr fun e w' => e = .returned .nilIface ∧ Bui w w' (l ++ [c]) :=
  (bu_byte w.heap.size w.heap.size _ c.toNat _ h.1 (by rw [Lib.byteCells_length]; omega) h.2.size).mono fun e w' ⟨he, a, b, _⟩ => ⟨he, by
    refine ⟨?_, h.2.trans b⟩
    rw [Lib.byteCells_append]
    exact .inr a⟩
theorem Bui.str {w wr : World} {l : List UInt8} (h : Bui w wr l) :
    Calls Tryz.prog 44 #[.pointer (some ⟨w.heap.size, 0, none⟩)] wr fun e w' => e = .returned (.string (bst l)) ∧ Below w.heap.size w w' :=
  (Tryz.Builder_String_any_k w.heap.size w.heap.size l _ h.1 h.2.size).mono fun e w' ⟨he, _, b, _⟩ => ⟨he, h.2.trans b⟩
def hexL : ByteArray := ⟨#[48, 49, 50, 51, 52, 53, 54, 55, 56, 57, 97, 98, 99, 100, 101, 102]⟩
def hxd (n : Nat) : UInt8 := UInt8.ofNat (if n < 10 then 48 + n else 87 + n)
theorem hex_run (n : Nat) (h : n < 16) : ∀ w : World, (Instr.index 9 (.string ⟨#[48, 49, 50, 51, 52, 53, 54, 55, 56, 57, 97, 98, 99, 100, 101, 102]⟩) (.int .u8 n)).run Tryz.prog w = .ok (.int .u8 (hxd n).toNat) w := by
  have : n = 0 ∨ n = 1 ∨ n = 2 ∨ n = 3 ∨ n = 4 ∨ n = 5 ∨ n = 6 ∨ n = 7 ∨ n = 8 ∨ n = 9 ∨ n = 10 ∨ n = 11 ∨ n = 12 ∨ n = 13 ∨ n = 14 ∨ n = 15 := by omega
  rcases this with rfl | rfl | rfl | rfl | rfl | rfl | rfl | rfl | rfl | rfl | rfl | rfl | rfl | rfl | rfl | rfl <;> (intro w; kernel_rfl)
def heL (l : List UInt8) : Nat → List UInt8
  | 0 => []
  | k + 1 => heL l k ++ [hxd ((l.getD k 0).toNat / 16)] ++ [hxd ((l.getD k 0).toNat % 16)]
theorem heL_len (l : List UInt8) (k : Nat) : (heL l k).length = 2 * k := by
  induction k with
  | zero => rfl
  | succ k ih => show (heL l k ++ _ ++ _).length = _; rw [List.length_append, List.length_append, ih]; simp; omega
set_option maxHeartbeats 1000000 in
theorem hex_any (s : ByteArray) (hs : s.size ≤ 2000) (w : World) : Calls Tryz.prog 24 #[.string s] w fun e w' => e = .returned (.string (bst (heL (ls s) s.size))) ∧ Below w.heap.size w w' := by
  have HS : Hid (∀ k, heL (ls s) (k + 1) = heL (ls s) k ++ [hxd (((ls s).getD k 0).toNat / 16)] ++ [hxd (((ls s).getD k 0).toNat % 16)]) := Lib.hid (fun _ => rfl)
  have HG1 := Lib.hid (getD_at s)
  have HLN := Lib.hid (heL_len (ls s))
  obtain ⟨g, hg⟩ : ∃ g, g = heL (ls s) := ⟨_, rfl⟩
  rw [← hg] at HS HLN ⊢
  have H0 : Hid (g 0 = []) := Lib.hid (by rw [hg]; rfl)
  have hsi : (s.size : Int) ≤ 2000 := by omega
  clear hg
  go_enter Tryz.func24, Tryz.ntmps24
  go_wp2_with fail
  go_loopw [7] (fun x wr => ∃ (k : Nat), k ≤ s.size ∧ x = .int .i64 k ∧ Hid (Bui w wr (g k))) (fun x _ => s.size - (intOf x).toNat)
  case atStart => exact ⟨0, Nat.zero_le _, rfl, Lib.hid (by rw [H0.out]; exact Bui.new w)⟩
  case round =>
    obtain ⟨k, hk, rfl, hB⟩ := hrel
    have HK := Lib.hid hk
    clear hk
    by_cases hlt : k < s.size
    · have hlt' : (k : Int) < (s.size : Int) := by omega
      have hn := HS.out k
      rw [HG1.out k hlt] at hn
      have hb256 : s[k].toNat < 256 := s[k].toNat_lt
      have HC1 := Lib.hid (hB.out.byte (hxd (s[k].toNat / 16)) (by rw [HLN.out]; omega))
      have x1 := hex_run (s[k].toNat / 16) (by omega)
      have x2 := hex_run (s[k].toNat % 16) (by omega)
      have hx := idx_at s k hlt
      have HC2' := Lib.hid (fun (W : World) (h : Bui w W (g k ++ [hxd (s[k].toNat / 16)])) => h.byte (hxd (s[k].toNat % 16)) (by rw [List.length_append, HLN.out]; simp; omega))
      generalize hxd (s[k].toNat / 16) = A1 at *
      generalize hxd (s[k].toNat % 16) = A2 at *
      have HN := Lib.hid hn
      obtain ⟨t, ht⟩ : ∃ t : Nat, t = s[k].toNat := ⟨_, rfl⟩
      rw [← ht] at x1 x2 hx hb256
      obtain ⟨p, hp⟩ : ∃ p : Nat, p = t / 16 := ⟨_, rfl⟩
      obtain ⟨q, hq⟩ : ∃ q : Nat, q = t % 16 := ⟨_, rfl⟩
      rw [← hp] at x1
      rw [← hq] at x2
      have e1 : (t : Int) / 16 = (p : Int) := by omega
      have e2 : (t : Int) % 16 = (q : Int) := by omega
      clear hn hp hq ht
      go_wp2_with fail
      refine (HC1.out).mono ?_
      rintro e W1 ⟨rfl, hb1⟩
      have HC2 := Lib.hid (HC2'.out W1 hb1)
      clear hb1
      go_wp2_with fail
      refine (HC2.out).mono ?_
      rintro e W2 ⟨rfl, hb2⟩
      have HB2 := Lib.hid hb2
      clear hb2
      go_wp2_with fail
      go_roundw
      case rel => exact ⟨k + 1, by omega, by go_num, Lib.hid (by rw [HN.out]; exact HB2.out)⟩
      case measure => simp [intOf]; omega
    · have hge : ¬ (k : Int) < (s.size : Int) := by omega
      obtain rfl : k = s.size := by have := HK.out; omega
      have HC1 := Lib.hid hB.out.str
      go_wp2_with fail
      refine (HC1.out).mono ?_
      rintro e W2 ⟨rfl, hb2⟩
      have HB2 := Lib.hid hb2
      clear hb2
      go_wp2_with fail
      go_ret
      exact ⟨rfl, HB2.out⟩
end Go.Proofs.YtknipjjmpdnomaaGreatDoor
