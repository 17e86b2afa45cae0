import Derived.Test.YtdciiegdgpepbaaA
import Derived.LoopN
import Derived.OpenShut
import Derived.Below
import Derived.Laws.NewBlocks
import Derived.Laws.IdiomStrings
set_option linter.unusedVariables false
set_option linter.unusedSimpArgs false
namespace Go.Proofs.Ytdciiegdgpepbaa
open Go.ChangeShapes Go.WideShapes Go.ChangeAt Go.RowKit

theorem and15 {x : Nat} (h : x < 4294967296) : bits .and .u32 (x : Int) 15 = ((x % 16 : Nat) : Int) := by
  have := u32_and_nat x 15 h (by omega)
  rw [show (15 : Nat) = 2 ^ 4 - 1 from rfl, Nat.and_two_pow_sub_one_eq_mod] at this
  exact this
theorem dig_of {c : Nat} (h : c < 4294967296) (k : Nat) (hk : 0 < k) : ∃ d : Nat, bits .and .u32 ((c : Int) / (k : Int)) 15 = (d : Int) ∧ d < 16 ∧ RowKit.Hid (d = c / k % 16) := by
  refine ⟨c / k % 16, ?_, by omega, Lib.hid rfl⟩
  exact and15 (x := c / k) (Nat.lt_of_le_of_lt (Nat.div_le_self c k) h)

def bs8 (b0 b1 b2 b3 b4 b5 b6 b7 : Int) : ByteArray := ⟨#[UInt8.ofNat b0.toNat, UInt8.ofNat b1.toNat, UInt8.ofNat b2.toNat, UInt8.ofNat b3.toNat, UInt8.ofNat b4.toNat, UInt8.ofNat b5.toNat, UInt8.ofNat b6.toNat, UInt8.ofNat b7.toNat]⟩
theorem u8_of {b : Int} (h : 0 ≤ b ∧ b < 256) : (((UInt8.ofNat b.toNat).toNat : Nat) : Int) = b := by
  rw [UInt8.toNat_ofNat']; omega
theorem conv8 (w : World) (b0 b1 b2 b3 b4 b5 b6 b7 : Int) (h0 : 0 ≤ b0 ∧ b0 < 256) (h1 : 0 ≤ b1 ∧ b1 < 256) (h2 : 0 ≤ b2 ∧ b2 < 256) (h3 : 0 ≤ b3 ∧ b3 < 256) (h4 : 0 ≤ b4 ∧ b4 < 256) (h5 : 0 ≤ b5 ∧ b5 < 256) (h6 : 0 ≤ b6 ∧ b6 < 256) (h7 : 0 ≤ b7 ∧ b7 < 256) :
    (convert 38 9 (.slice (some ⟨w.heap.size, 0, none⟩) 8 8)).run Try.prog (w.alloc (.cells #[.int .u8 b0, .int .u8 b1, .int .u8 b2, .int .u8 b3, .int .u8 b4, .int .u8 b5, .int .u8 b6, .int .u8 b7] 43)) =
      .ok (.string (bs8 b0 b1 b2 b3 b4 b5 b6 b7)) (w.alloc (.cells #[.int .u8 b0, .int .u8 b1, .int .u8 b2, .int .u8 b3, .int .u8 b4, .int .u8 b5, .int .u8 b6, .int .u8 b7] 43)) := by
  have h := run_convert_bytes_back (P := Try.prog) (w.alloc (.cells #[.int .u8 b0, .int .u8 b1, .int .u8 b2, .int .u8 b3, .int .u8 b4, .int .u8 b5, .int .u8 b6, .int .u8 b7] 43)) 38 9 5 ⟨w.heap.size, 0, none⟩ 8
    [UInt8.ofNat b0.toNat, UInt8.ofNat b1.toNat, UInt8.ofNat b2.toNat, UInt8.ofNat b3.toNat, UInt8.ofNat b4.toNat, UInt8.ofNat b5.toNat, UInt8.ofNat b6.toNat, UInt8.ofNat b7.toNat] Try.underlying38 Try.underlying5 Try.underlying9 (fun j hj => by
      have hc := World.cell?_alloc_mark w #[.int .u8 b0, .int .u8 b1, .int .u8 b2, .int .u8 b3, .int .u8 b4, .int .u8 b5, .int .u8 b6, .int .u8 b7] 43 (0, 0) j
      have ha : (⟨w.heap.size, 0, none⟩ : Addr).add j = ⟨w.heap.size, j, none⟩ := by simp [Addr.add]; intro h; exact h.symm
      rw [ha]
      refine Eq.trans hc ?_
      clear ha hc
      match j, hj with
      | 0, _ => exact congrArg (fun x => some (Value.int .u8 x)) (u8_of h0).symm
      | 1, _ => exact congrArg (fun x => some (Value.int .u8 x)) (u8_of h1).symm
      | 2, _ => exact congrArg (fun x => some (Value.int .u8 x)) (u8_of h2).symm
      | 3, _ => exact congrArg (fun x => some (Value.int .u8 x)) (u8_of h3).symm
      | 4, _ => exact congrArg (fun x => some (Value.int .u8 x)) (u8_of h4).symm
      | 5, _ => exact congrArg (fun x => some (Value.int .u8 x)) (u8_of h5).symm
      | 6, _ => exact congrArg (fun x => some (Value.int .u8 x)) (u8_of h6).symm
      | 7, _ => exact congrArg (fun x => some (Value.int .u8 x)) (u8_of h7).symm)
  exact h

def hexd (n : Nat) : Nat := if n < 10 then 48 + n else 87 + n
theorem hexd_lt {n : Nat} (h : n < 16) : 0 ≤ ((hexd n : Nat) : Int) ∧ ((hexd n : Nat) : Int) < 256 := by unfold hexd; split <;> omega
theorem hexAt : ∀ n (h : n < (⟨#[48, 49, 50, 51, 52, 53, 54, 55, 56, 57, 97, 98, 99, 100, 101, 102]⟩ : ByteArray).size), ((⟨#[48, 49, 50, 51, 52, 53, 54, 55, 56, 57, 97, 98, 99, 100, 101, 102]⟩ : ByteArray)[n]'h).toNat = hexd n := by
  have key : ∀ n : Fin 16, ((⟨#[48, 49, 50, 51, 52, 53, 54, 55, 56, 57, 97, 98, 99, 100, 101, 102]⟩ : ByteArray)[n.1]'n.2).toNat = hexd n.1 := by decide
  intro n h
  exact key ⟨n, h⟩
def sealB (c : Nat) : ByteArray := bs8 (hexd (c / 268435456 % 16)) (hexd (c / 16777216 % 16)) (hexd (c / 1048576 % 16)) (hexd (c / 65536 % 16)) (hexd (c / 4096 % 16)) (hexd (c / 256 % 16)) (hexd (c / 16 % 16)) (hexd (c % 16))

theorem seal_any (s : ByteArray) (w : World) (hs : s.size ≤ maxLen) :
    Calls Try.prog 24 #[.string s] w fun e w' => e = .returned (.string (sealB (crcOf s))) ∧ Below w.heap.size w w' := by
  unfold maxLen at hs
  have hc := crcOf_lt s
  go_enter Try.func24, Try.ntmps24
  go_wp2_with (go_at_call 10; refine (crc_try s _ (by unfold maxLen; omega)).mono ?_; rintro e w1 ⟨rfl, rfl⟩)
  generalize hcc : crcOf s = c at hc ⊢
  have HC := Lib.hid hcc
  clear hcc
  obtain ⟨d0, h0, l0, i0⟩ := dig_of hc 268435456 (by omega)
  obtain ⟨d1, h1, l1, i1⟩ := dig_of hc 16777216 (by omega)
  obtain ⟨d2, h2, l2, i2⟩ := dig_of hc 1048576 (by omega)
  obtain ⟨d3, h3, l3, i3⟩ := dig_of hc 65536 (by omega)
  obtain ⟨d4, h4, l4, i4⟩ := dig_of hc 4096 (by omega)
  obtain ⟨d5, h5, l5, i5⟩ := dig_of hc 256 (by omega)
  obtain ⟨d6, h6, l6, i6⟩ := dig_of hc 16 (by omega)
  obtain ⟨d7, h7, l7, i7⟩ := dig_of hc 1 (by omega)
  have h7' := h7
  rw [show (((1 : Nat) : Int)) = 1 from rfl, Int.ediv_one] at h7'
  replace h0 : bits .and .u32 ((c : Int) / 268435456) 15 = (d0 : Int) := h0
  replace h1 : bits .and .u32 ((c : Int) / 16777216) 15 = (d1 : Int) := h1
  replace h2 : bits .and .u32 ((c : Int) / 1048576) 15 = (d2 : Int) := h2
  replace h3 : bits .and .u32 ((c : Int) / 65536) 15 = (d3 : Int) := h3
  replace h4 : bits .and .u32 ((c : Int) / 4096) 15 = (d4 : Int) := h4
  replace h5 : bits .and .u32 ((c : Int) / 256) 15 = (d5 : Int) := h5
  replace h6 : bits .and .u32 ((c : Int) / 16) 15 = (d6 : Int) := h6
  refine wp_loop_rounds 9 ?_
  rw [rounds_succ]
  go_wp2_with fail
  rw [rounds_succ]
  go_wp2_with fail
  rw [rounds_succ]
  go_wp2_with fail
  rw [rounds_succ]
  go_wp2_with fail
  rw [rounds_succ]
  go_wp2_with fail
  rw [rounds_succ]
  go_wp2_with fail
  rw [rounds_succ]
  go_wp2_with fail
  rw [rounds_succ]
  go_wp2_with fail
  rw [rounds_succ]
  go_wp2_with fail
  simp only [hexAt]
  rw [conv8 w _ _ _ _ _ _ _ _ (hexd_lt l0) (hexd_lt l1) (hexd_lt l2) (hexd_lt l3) (hexd_lt l4) (hexd_lt l5) (hexd_lt l6) (hexd_lt l7)]
  go_wp2_with fail
  go_ret
  have i0 := i0.out; have i1 := i1.out; have i2 := i2.out; have i3 := i3.out; have i4 := i4.out; have i5 := i5.out; have i6 := i6.out; have i7 := i7.out
  rw [Nat.div_one] at i7
  subst i0 i1 i2 i3 i4 i5 i6 i7
  have hcc := HC.out
  subst hcc
  exact ⟨rfl, (Below.refl _ _).alloc (Nat.le_refl _) _⟩
def be8 (p : Int) : ByteArray := bs8 (p / 72057594037927936) (p / 281474976710656 % 256) (p / 1099511627776 % 256) (p / 4294967296 % 256) (p / 16777216 % 256) (p / 65536 % 256) (p / 256 % 256) (p % 256)
def chainOf (p : Int) (s : ByteArray) : Nat := hashOf (be8 p ++ s)
theorem chain_any (p : Int) (s : ByteArray) (w : World) (hp : (Lit.int .u64 p).wf = true) (hs : s.size ≤ 1000) :
    Calls Try.prog 14 #[.int .u64 p, .string s] w fun e w' => e = .returned (.int .u64 (chainOf p s)) ∧ Below w.heap.size w w' := by
  have hb := bounds_u64 hp
  go_enter Try.func14, Try.ntmps14
  go_wp2_with fail
  refine wp_loop_rounds 9 ?_
  rw [rounds_succ]
  go_wp2_with fail
  rw [rounds_succ]
  go_wp2_with fail
  rw [rounds_succ]
  go_wp2_with fail
  rw [rounds_succ]
  go_wp2_with fail
  rw [rounds_succ]
  go_wp2_with fail
  rw [rounds_succ]
  go_wp2_with fail
  rw [rounds_succ]
  go_wp2_with fail
  rw [rounds_succ]
  go_wp2_with fail
  rw [rounds_succ]
  go_wp2_with fail
  rw [conv8 w _ _ _ _ _ _ _ _ (by omega) (by omega) (by omega) (by omega) (by omega) (by omega) (by omega) (by omega)]
  have hsz : (be8 p).size = 8 := rfl
  have hbe : bs8 (p / 72057594037927936) (p / 281474976710656 % 256) (p / 1099511627776 % 256) (p / 4294967296 % 256) (p / 16777216 % 256) (p / 65536 % 256) (p / 256 % 256) (p % 256) = be8 p := rfl
  rw [hbe]
  clear hbe
  go_wp2_with (go_at_call 12; refine (hash_try (be8 p ++ s) _ (by unfold maxLen; rw [ByteArray.size_append]; omega)).mono ?_; rintro e w1 ⟨rfl, rfl⟩)
  go_ret
  exact ⟨rfl, (Below.refl _ _).alloc (Nat.le_refl _) _⟩
end Go.Proofs.Ytdciiegdgpepbaa
