/- Seal and its reference, and Hex at eight digits: all give the string with the eight hexadecimal digits of its checksum. -/
import Derived.Test.YtdciiegdgpepbaaB
set_option linter.unusedVariables false
set_option linter.unusedSimpArgs false
namespace Go.Proofs.Ytdciiegdgpepbaa
open Go.ChangeShapes Go.WideShapes Go.ChangeAt Go.RowKit
def sealOf (s : ByteArray) : ByteArray := s ++ sealB (crcOf s)
theorem Seal_any (s : ByteArray) (w : World) (hs : s.size ≤ 2000) :
    Calls Try.prog 21 #[.string s] w fun e w' => e = .returned (.string (sealOf s)) ∧ Below w.heap.size w w' := by
  have hz : (sealB (crcOf s)).size = 8 := rfl
  go_enter Try.func21, Try.ntmps21
  go_wp2_with (go_at_call 24; refine (seal_any s _ (by unfold maxLen; omega)).mono ?_; rintro e w1 ⟨rfl, hb⟩)
  go_ret
  exact ⟨rfl, hb⟩
def hx (n : Nat) : ByteArray := (⟨#[48, 49, 50, 51, 52, 53, 54, 55, 56, 57, 97, 98, 99, 100, 101, 102]⟩ : ByteArray).extract n (n + 1)
theorem hx_eq {n : Nat} (h : n < 16) : hx n = ⟨#[UInt8.ofNat (hexd n)]⟩ := by
  have key : ∀ n : Fin 16, hx n.1 = ⟨#[UInt8.ofNat (hexd n.1)]⟩ := by decide
  exact key ⟨n, h⟩
theorem hex8 (n : Nat) (h : n < 4294967296) :
    hx (n / 16 / 16 / 16 / 16 / 16 / 16 / 16 % 16) ++ (hx (n / 16 / 16 / 16 / 16 / 16 / 16 % 16) ++ (hx (n / 16 / 16 / 16 / 16 / 16 % 16) ++ (hx (n / 16 / 16 / 16 / 16 % 16) ++ (hx (n / 16 / 16 / 16 % 16) ++ (hx (n / 16 / 16 % 16) ++ (hx (n / 16 % 16) ++ (hx (n % 16) ++ ⟨#[]⟩))))))) = sealB n := by
  rw [hx_eq (by omega), hx_eq (by omega), hx_eq (by omega), hx_eq (by omega), hx_eq (by omega), hx_eq (by omega), hx_eq (by omega), hx_eq (by omega)]
  simp only [Nat.div_div_eq_div_mul]
  unfold sealB bs8
  simp only [Int.toNat_natCast]
  apply ByteArray.ext
  simp [ByteArray.data_append]
theorem hex_any (n : Nat) (w : World) (hn : n < 4294967296) :
    Calls Try.prog 25 #[.int .u64 n, .int .i64 8] w fun e w' => e = .returned (.string (sealB n)) ∧ w = w' := by
  have hh := Lib.hid (hex8 n hn)
  go_enter Try.func25, Try.ntmps25
  go_wp2_with fail
  refine wp_loop_rounds 9 ?_
  rw [rounds_succ]
  go_wp2_with fail
  rw [rounds_succ]
  go_wp2_with fail
  rw [rounds_succ]
  go_wp2_with fail
  rw [rounds_succ]
  go_wp2_with fail
  rw [rounds_succ]
  go_wp2_with fail
  rw [rounds_succ]
  go_wp2_with fail
  rw [rounds_succ]
  go_wp2_with fail
  rw [rounds_succ]
  go_wp2_with fail
  rw [rounds_succ]
  go_wp2_with fail
  go_ret
  have hh := hh.out
  refine ⟨?_, rfl⟩
  rw [← hh]
  rfl
theorem refSeal_any (s : ByteArray) (w : World) (hs : s.size ≤ 2000) :
    Calls Try.prog 22 #[.string s] w fun e w' => e = .returned (.string (sealOf s)) ∧ w = w' := by
  have hz : (sealB (crcOf s)).size = 8 := rfl
  have hc := crcOf_lt s
  go_enter Try.func22, Try.ntmps22
  go_wp2_with (first | (go_at_call 11; refine (refcrc_try s _ (by unfold maxLen; omega)).mono ?_; rintro e w1 ⟨rfl, rfl⟩) | (go_at_call 25; refine (hex_any _ _ hc).mono ?_; rintro e w1 ⟨rfl, rfl⟩))
  go_ret
  exact ⟨rfl, rfl⟩
end Go.Proofs.Ytdciiegdgpepbaa
