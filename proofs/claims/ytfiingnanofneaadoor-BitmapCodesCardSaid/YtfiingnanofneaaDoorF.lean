/- FormatUint, hex; the reference's hex. -/
import Derived.Test.YtfiingnanofneaaDoorE
set_option linter.unusedVariables false
set_option linter.unusedSimpArgs false
namespace Go.Proofs.YtfiingnanofneaaDoor
open Go.Sort Go.ChangeShapes Go.WideShapes Go.ChangeAt Go.RowKit
theorem fu_any (u : Nat) (hu : u < B64) (w : World) (h : w.cell? ⟨4, 15, none⟩ = some (.int .u8 4)) :
    Calls Tryd.prog 45 #[.int .u64 u, .int .i64 16] w fun e w' => e = .returned (.string ⟨(fmtHex 16 u []).toArray⟩) ∧ Below w.heap.size w w' := by
  have H := Lib.hid (fb_any u hu w h)
  clear h
  generalize fmtHex 16 u [] = F at *
  go_enter Tryd.func45, Tryd.ntmps45
  go_wp2_with fail
  refine H.out.mono ?_
  rintro e w1 ⟨rfl, hb⟩
  have HB := Lib.hid hb
  clear hb
  go_wp2_with fail
  go_ret
  exact ⟨rfl, HB.out⟩
theorem sfu_any (u : Nat) (hu : u < B64) (w : World) (h : w.cell? ⟨4, 15, none⟩ = some (.int .u8 4)) :
    Calls Tryd.prog 41 #[.int .u64 u, .int .i64 16] w fun e w' => e = .returned (.string ⟨(fmtHex 16 u []).toArray⟩) ∧ Below w.heap.size w w' := by
  have H := Lib.hid (fu_any u hu w h)
  clear h
  generalize fmtHex 16 u [] = F at *
  go_enter Tryd.func41, Tryd.ntmps41
  go_wp2_with fail
  refine H.out.mono ?_
  rintro e w1 ⟨rfl, hb⟩
  have HB := Lib.hid hb
  clear hb
  go_wp2_with fail
  go_ret
  exact ⟨rfl, HB.out⟩
/-- the sixteen digits -/
def hp : Nat → Nat → List UInt8 → List UInt8
  | 0, _, acc => acc
  | n + 1, u, acc => hp n (u / 16) (hexc (u % 16) :: acc)
theorem hp_len (n u : Nat) (acc : List UInt8) : (hp n u acc).length = n + acc.length := by
  induction n generalizing u acc with
  | zero => simp [hp]
  | succ n ih => rw [hp, ih]; simp; omega
theorem hp_zero (n : Nat) (acc : List UInt8) : hp n 0 acc = List.replicate n 48 ++ acc := by
  induction n generalizing acc with
  | zero => simp [hp]
  | succ n ih =>
    rw [hp, ih, List.replicate_succ']
    simp [hexc]
theorem hp_fmt (f x : Nat) (acc : List UInt8) (hf : 0 < f) (hx : x < 16 ^ f) : ∃ k, hp f x acc = List.replicate k 48 ++ fmtHex f x acc ∧ k + (fmtHex f x acc).length = f + acc.length := by
  induction f generalizing x acc with
  | zero => omega
  | succ f ih =>
    by_cases h : x < 16
    · refine ⟨f, ?_, ?_⟩
      · rw [hp, fmtHex, if_pos h, Nat.div_eq_of_lt h, Nat.mod_eq_of_lt h, hp_zero]
      · rw [fmtHex, if_pos h]; simp; omega
    · have hf0 : f ≠ 0 := by rintro rfl; simp at hx; omega
      obtain ⟨k, h1, h2⟩ := ih (x / 16) (hexc (x % 16) :: acc) (by omega) (by rw [Nat.pow_succ] at hx; exact Nat.div_lt_of_lt_mul (by omega))
      refine ⟨k, ?_, ?_⟩
      · rw [hp, fmtHex, if_neg h]; exact h1
      · rw [fmtHex, if_neg h]; simp at h2 ⊢; omega
def hex16 (u : Nat) : ByteArray := ⟨(hp 16 u []).toArray⟩
theorem size_mk (l : List UInt8) : (⟨l.toArray⟩ : ByteArray).size = l.length := by simp [ByteArray.size]
theorem cons_zero (l : List UInt8) : (⟨#[48]⟩ : ByteArray) ++ ⟨l.toArray⟩ = ⟨(48 :: l).toArray⟩ := by
  apply ByteArray.ext
  simp
theorem hex_any (u : Nat) (hu : u < B64) (w : World) (h : w.cell? ⟨4, 15, none⟩ = some (.int .u8 4)) :
    Calls Tryd.prog 37 #[.int .u64 u] w fun e w' => e = .returned (.string (hex16 u)) ∧ Below w.heap.size w w' := by
  have H := Lib.hid (sfu_any u hu w h)
  obtain ⟨k, hk1, hk2⟩ := hp_fmt 16 u [] (by decide) (Nat.lt_of_lt_of_le hu (by decide))
  have HK := Lib.hid (show hex16 u = ⟨(List.replicate k 48 ++ fmtHex 16 u []).toArray⟩ from by unfold hex16; rw [hk1])
  clear h hk1
  generalize fmtHex 16 u [] = F at *
  simp only [List.length_nil, Nat.add_zero] at hk2
  have HK2 := Lib.hid hk2
  clear hk2
  go_enter Tryd.func37, Tryd.ntmps37
  go_wp2_with fail
  refine H.out.mono ?_
  rintro e w1 ⟨rfl, hb⟩
  have HB := Lib.hid hb
  clear hb
  go_wp2_with fail
  go_loopg [3] k (fun g s3 wr => wr = w1 ∧ ∃ j, g + j = k ∧ s3 = .string ⟨(List.replicate j 48 ++ F).toArray⟩)
  case atStart => exact ⟨rfl, 0, by omega, rfl⟩
  case round =>
    obtain ⟨rfl, j, hj, rfl⟩ := hrel
    have hsz := size_mk (List.replicate j 48 ++ F)
    rw [List.length_append, List.length_replicate] at hsz
    generalize hS : (⟨(List.replicate j 48 ++ F).toArray⟩ : ByteArray) = S at *
    have HS := Lib.hid hS
    have HSZ := Lib.hid hsz
    have HJ := Lib.hid hj
    have hsize : S.size = j + F.length := hsz
    clear hS hsz hj
    by_cases hlt : j < k
    · have h1 : (S.size : Int) < 16 := by have := HK2.out; omega
      clear hsize
      go_wp2_with fail
      go_roundg (gk - 1)
      case measure => have := HJ.out; omega
      case rel =>
        refine ⟨rfl, j + 1, by have := HJ.out; omega, ?_⟩
        rw [← HS.out, cons_zero, ← List.cons_append, ← List.replicate_succ]
    · have h1 : ¬ (S.size : Int) < 16 := by have := HK2.out; have := HJ.out; omega
      clear hsize
      go_wp2_with fail
      go_ret
      have hjk : j = k := by have := HJ.out; omega
      exact ⟨by rw [HK.out, ← HS.out, hjk]; rfl, HB.out⟩
end Go.Proofs.YtfiingnanofneaaDoor
