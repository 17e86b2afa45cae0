/- FormatUint at base 16. -/
import Derived.Test.YtgdgpimlaljpdaaDoorC
set_option linter.unusedVariables false
set_option linter.unusedSimpArgs false
namespace Go.Proofs.YtgdgpimlaljpdaaDoor
open Go.Sort Go.ChangeShapes Go.WideShapes Go.ChangeAt Go.RowKit
theorem pow2_16 (w : World) : Calls Tryd.prog 62 #[.int .i64 16] w fun e w' => e = .returned (.bool true) ∧ w' = w := by
  have e : bits .and .i64 16 15 = 0 := by decide
  go_enter Tryd.func62, Tryd.ntmps62
  go_wp2_with fail
  go_ret
  exact ⟨rfl, rfl⟩
theorem tz64_16 (w : World) (h : w.cell? ⟨5, 15, none⟩ = some (.int .u8 4)) : Calls Tryd.prog 68 #[.int .u64 16] w fun e w' => e = .returned (.int .i64 4) ∧ w' = w := by
  have e : (IntKind.u64.wrap (bits .and .u64 16 (IntKind.u64.wrap (-16)) * 285870213051353865) / 288230376151711744).toNat = 15 := by decide +kernel
  go_enter Tryd.func68, Tryd.ntmps68
  go_wp2_with fail
  go_ret
  exact ⟨rfl, rfl⟩
theorem tz_16 (w : World) (h : w.cell? ⟨5, 15, none⟩ = some (.int .u8 4)) : Calls Tryd.prog 63 #[.int .u64 16] w fun e w' => e = .returned (.int .i64 4) ∧ w' = w := by
  have H := Lib.hid (tz64_16 w h)
  clear h
  go_enter Tryd.func63, Tryd.ntmps63
  go_wp2_with fail
  refine H.out.mono ?_
  rintro e w1 ⟨rfl, rfl⟩
  go_wp2_with fail
  go_ret
  exact ⟨rfl, rfl⟩
theorem cell_alloc {w : World} {a : Addr} {v : Value} (h : w.cell? a = some v) (o : Obj) : (w.alloc o).cell? a = some v := by
  rw [World.cell?_alloc_lt _ _ _ (block_lt_of_cell h)]; exact h
/-- the digits of base 16, as formatBits lays them -/
def fmtHex : Nat → Nat → List UInt8 → List UInt8
  | 0, _, acc => acc
  | f + 1, x, acc => if x < 16 then hexc x :: acc else fmtHex f (x / 16) (hexc (x % 16) :: acc)
def bvals (l : List UInt8) : List Value := l.map fun c => .int .u8 ((c.toNat : Nat) : Int)
def cells65 (acc : List UInt8) : Array Value := (List.replicate (65 - acc.length) (Value.int .u8 0) ++ bvals acc).toArray
theorem cells65_nil : Tryd.zeroCells86 = cells65 [] := by kernel_rfl
theorem and15 (x : Nat) (hx : x < B64) : bits .and .u64 (x : Int) 15 = ((x % 16 : Nat) : Int) := by
  rw [show (15 : Int) = ((15 : Nat) : Int) from rfl, u64_and_nat x 15 hx (by decide), nat_mask4]
theorem cells65_set (acc : List UInt8) (h : acc.length < 65) (c : UInt8) : (cells65 acc).setIfInBounds (65 - acc.length - 1) (.int .u8 (c.toNat : Nat)) = cells65 (c :: acc) := by
  unfold cells65 bvals
  simp only [List.length_cons, List.map_cons, List.setIfInBounds_toArray]
  congr 1
  obtain ⟨k, hk⟩ : ∃ k, 65 - acc.length = k + 1 := ⟨64 - acc.length, by omega⟩
  rw [hk, show 65 - (acc.length + 1) = k by omega, List.replicate_succ', List.append_assoc, List.set_append_right _ _ (by simp)]
  simp
theorem hexc_at (d : Nat) (hd : d < 16) : ∀ h, (⟨#[48, 49, 50, 51, 52, 53, 54, 55, 56, 57, 97, 98, 99, 100, 101, 102, 103, 104, 105, 106, 107, 108, 109, 110, 111, 112, 113, 114, 115, 116, 117, 118, 119, 120, 121, 122]⟩ : ByteArray)[d]'h = hexc d := by
  have key : ∀ k : Fin 16, (⟨#[48, 49, 50, 51, 52, 53, 54, 55, 56, 57, 97, 98, 99, 100, 101, 102, 103, 104, 105, 106, 107, 108, 109, 110, 111, 112, 113, 114, 115, 116, 117, 118, 119, 120, 121, 122]⟩ : ByteArray)[k.val]'(Nat.lt_of_lt_of_le k.2 (by decide)) = hexc k.val := by decide
  intro h
  exact key ⟨d, hd⟩
theorem cells65_at (acc : List UInt8) (h : acc.length < 65) : (cells65 acc)[65 - acc.length - 1]? = some (.int .u8 0) := by
  unfold cells65
  rw [List.getElem?_toArray, List.getElem?_append_left (by simp; omega), List.getElem?_replicate, if_pos (by omega)]
theorem slice65 (W : World) (g I : Nat) (h1 : 1 ≤ I) (h2 : I ≤ 65) : (Instr.sliceAt 86 (.pointer (some ⟨g, 0, none⟩)) (some (.int .i64 ((I : Int) - 1))) none none).run Tryd.prog W = .ok (.slice (some ⟨g, I - 1, none⟩) (66 - I) (66 - I)) W := by
  have hs2 : (I : Int) - 1 ≤ ((Tryd.prog.arrayLen 86 : Nat) : Int) := by rw [show Tryd.prog.arrayLen 86 = 65 from by kernel_rfl]; omega
  rw [run_sliceAt_array_l W 86 ⟨g, 0, none⟩ Tryd.underlying86 .i64 ((I : Int) - 1) (by omega) hs2]
  rw [show Tryd.prog.arrayLen 86 = 65 from by kernel_rfl, show (sizeOf (Tryd.prog.elem 86)).run Tryd.prog W = .ok 1 W from by kernel_rfl]
  have e : ((I : Int) - 1).toNat = I - 1 := by omega
  simp only [Result.andThen_ok, slicedAt, e, Go.WideShapes.add_plain]
  rw [if_neg (by omega)]
  simp
  omega
theorem conv65 (W : World) (g I : Nat) (l : List UInt8) (hk : Blk W g 86 (cells65 l)) (h1 : l.length = 66 - I) (h2 : 65 - l.length = I - 1) :
    (convert 38 9 (.slice (some ⟨g, I - 1, none⟩) (66 - I) (66 - I))).run Tryd.prog W = .ok (.string ⟨l.toArray⟩) W := by
  rw [← h1, ← h2]
  refine run_convert_bytes_back (P := Tryd.prog) W 38 9 5 ⟨g, 65 - l.length, none⟩ l.length l Tryd.underlying38 Tryd.underlying5 Tryd.underlying9 (fun j hj => ?_)
  rw [Go.WideShapes.add_plain, hk.cell]
  unfold cells65 bvals
  rw [List.getElem?_toArray, List.getElem?_append_right (by simp)]
  simp [hj]
def FRel (w : World) (u : Nat) (gg : Nat) (s1 s13 : Value) (wr : World) : Prop :=
  ∃ (f x : Nat) (acc : List UInt8), gg = f ∧ x < 16 ^ f ∧ acc.length + f = 16 ∧ 0 < f ∧ fmtHex f x acc = fmtHex 16 u [] ∧ s1 = .int .u64 (x : Nat) ∧ s13 = .int .i64 ((65 - acc.length : Nat) : Int) ∧ Blk wr w.heap.size 86 (cells65 acc) ∧ Below w.heap.size w wr
theorem fb_any (u : Nat) (hu : u < B64) (w : World) (h : w.cell? ⟨5, 15, none⟩ = some (.int .u8 4)) :
    Calls Tryd.prog 50 #[.slice none 0 0, .int .u64 u, .int .i64 16, .bool false, .bool false] w fun e w' => e = .returned (.tuple #[.slice none 0 0, .string ⟨(fmtHex 16 u []).toArray⟩]) ∧ Below w.heap.size w w' := by
  have HT := Lib.hid h
  clear h
  go_enter Tryd.func50, Tryd.ntmps50
  go_wp2_with fail
  refine (pow2_16 _).mono ?_
  rintro e w1 ⟨rfl, rfl⟩
  go_wp2_with fail
  refine (tz_16 _ (cell_alloc HT.out _)).mono ?_
  rintro e w1 ⟨rfl, rfl⟩
  go_wp2_with fail
  go_loopg [1, 13] 16 (fun gg s1 s13 wr => FRel w u gg s1 s13 wr)
  case atStart => exact ⟨16, u, [], rfl, hu, rfl, by decide, rfl, rfl, rfl, by rw [cells65_nil]; exact Blk.new w 86 _, al (Below.refl _ _)⟩
  case round =>
    obtain ⟨f, x, acc, rfl, hx, hl, hf, hfm, rfl, rfl, hk, hB⟩ := hrel
    have HK := Lib.hid hk
    have HB := Lib.hid hB
    have HFM := Lib.hid hfm
    have hx64 : x < B64 := by
      refine Nat.lt_of_lt_of_le hx ?_
      rw [show B64 = 16 ^ 16 from by decide]
      exact Nat.pow_le_pow_right (by decide) (by omega)
    have HA := Lib.hid (and15 x hx64)
    have c0 : wr.cell? ⟨w.heap.size, 65 - acc.length - 1, none⟩ = some (.int .u8 0) := (hk.cell _).trans (cells65_at acc (by omega))
    have c2 : wr.frozen? ⟨w.heap.size, 65 - acc.length - 1, none⟩ = false := hk.frozen _
    have HX := Lib.hid hx
    clear hk hB hfm hx
    have hi : acc.length < 16 := by omega
    generalize hI : 65 - acc.length = I at *
    have hI1 : 49 < I := by omega
    have hI2 : I ≤ 65 := by omega
    have HI := Lib.hid hI
    clear hI
    by_cases hge : 16 ≤ x
    · have hge' : 16 ≤ (x : Int) := by omega
      have hA := HA.out
      have hdig := hexc_at (x % 16) (by omega)
      go_wp2_with fail
      obtain ⟨f, rfl⟩ : ∃ f', gk = f' + 1 := ⟨gk - 1, by omega⟩
      have hfx : f ≠ 0 := by rintro rfl; have := HX.out; simp at this; omega
      go_roundg f
      case measure => omega
      case rel =>
        have hI' := HI.out
        refine ⟨f, x / 16, hexc (x % 16) :: acc, rfl, ?_, by simp; omega, by omega, ?_, by simp, ?_, ?_, HB.out.setCell (p := ⟨w.heap.size, I - 1, none⟩) (Nat.le_refl _) _⟩
        · have := HX.out
          rw [Nat.pow_succ] at this
          exact Nat.div_lt_of_lt_mul (by omega)
        · rw [← HFM.out, fmtHex, if_neg (by omega)]
        · simp only [List.length_cons]; rw [show 65 - (acc.length + 1) = I - 1 by omega]; congr 1; omega
        · have h := HK.out.set_ (65 - acc.length - 1) (.int .u8 ((hexc (x % 16)).toNat : Nat))
          rw [cells65_set acc (by omega), hI'] at h
          exact h
    · have hx' : x < 16 := by omega
      have hlt : (x : Int) < 16 := by omega
      have hdig := hexc_at x hx'
      have hsl := fun W => slice65 W w.heap.size I (by omega) hI2
      have hc : cells65 (hexc x :: acc) = (cells65 acc).setIfInBounds (I - 1) (.int .u8 ((hexc x).toNat : Nat)) := by rw [← cells65_set acc (by omega), HI.out]
      have hk2 := HK.out.set_ (I - 1) (.int .u8 ((hexc x).toNat : Nat))
      rw [← hc] at hk2
      have hcv := conv65 _ w.heap.size I (hexc x :: acc) hk2 (by have := HI.out; simp only [List.length_cons]; omega) (by have := HI.out; simp only [List.length_cons]; omega)
      have hfin : fmtHex gk x acc = hexc x :: acc := by
        obtain ⟨f, rfl⟩ : ∃ f', gk = f' + 1 := ⟨gk - 1, by omega⟩
        rw [fmtHex, if_pos hx']
      have HFIN := Lib.hid (HFM.out.symm.trans hfin)
      have HB2 := Lib.hid (HB.out.setCell (p := ⟨w.heap.size, I - 1, none⟩) (Nat.le_refl _) (.int .u8 ((hexc x).toNat : Nat)))
      clear hc hk2 hfin
      go_wp2_with fail
      exact bodyPost_ret (v := .tuple #[.slice none 0 0, .string ⟨(hexc x :: acc).toArray⟩]) (by simp [results, Tryd.results50, go_sem]) rfl ⟨by rw [HFIN.out], HB2.out⟩
theorem fu_any (u : Nat) (hu : u < B64) (w : World) (h : w.cell? ⟨5, 15, none⟩ = some (.int .u8 4)) :
    Calls Tryd.prog 38 #[.int .u64 u, .int .i64 16] w fun e w' => e = .returned (.string ⟨(fmtHex 16 u []).toArray⟩) ∧ Below w.heap.size w w' := by
  have H := Lib.hid (fb_any u hu w h)
  clear h
  generalize fmtHex 16 u [] = F at *
  go_enter Tryd.func38, Tryd.ntmps38
  go_wp2_with fail
  refine H.out.mono ?_
  rintro e w1 ⟨rfl, hb⟩
  have HB := Lib.hid hb
  clear hb
  go_wp2_with fail
  go_ret
  exact ⟨rfl, HB.out⟩
theorem sfu_any (u : Nat) (hu : u < B64) (w : World) (h : w.cell? ⟨5, 15, none⟩ = some (.int .u8 4)) :
    Calls Tryd.prog 23 #[.int .u64 u, .int .i64 16] w fun e w' => e = .returned (.string ⟨(fmtHex 16 u []).toArray⟩) ∧ Below w.heap.size w w' := by
  have H := Lib.hid (fu_any u hu w h)
  clear h
  generalize fmtHex 16 u [] = F at *
  go_enter Tryd.func23, Tryd.ntmps23
  go_wp2_with fail
  refine H.out.mono ?_
  rintro e w1 ⟨rfl, hb⟩
  have HB := Lib.hid hb
  clear hb
  go_wp2_with fail
  go_ret
  exact ⟨rfl, HB.out⟩
/-- the sixteen digits -/
def hp : Nat → Nat → List UInt8 → List UInt8
  | 0, _, acc => acc
  | n + 1, u, acc => hp n (u / 16) (hexc (u % 16) :: acc)
theorem hp_len (n u : Nat) (acc : List UInt8) : (hp n u acc).length = n + acc.length := by
  induction n generalizing u acc with
  | zero => simp [hp]
  | succ n ih => rw [hp, ih]; simp; omega
theorem hp_zero (n : Nat) (acc : List UInt8) : hp n 0 acc = List.replicate n 48 ++ acc := by
  induction n generalizing acc with
  | zero => simp [hp]
  | succ n ih =>
    rw [hp, ih, List.replicate_succ']
    simp [hexc]
theorem hp_fmt (f x : Nat) (acc : List UInt8) (hf : 0 < f) (hx : x < 16 ^ f) : ∃ k, hp f x acc = List.replicate k 48 ++ fmtHex f x acc ∧ k + (fmtHex f x acc).length = f + acc.length := by
  induction f generalizing x acc with
  | zero => omega
  | succ f ih =>
    by_cases h : x < 16
    · refine ⟨f, ?_, ?_⟩
      · rw [hp, fmtHex, if_pos h, Nat.div_eq_of_lt h, Nat.mod_eq_of_lt h, hp_zero]
      · rw [fmtHex, if_pos h]; simp; omega
    · have hf0 : f ≠ 0 := by rintro rfl; simp at hx; omega
      obtain ⟨k, h1, h2⟩ := ih (x / 16) (hexc (x % 16) :: acc) (by omega) (by rw [Nat.pow_succ] at hx; exact Nat.div_lt_of_lt_mul (by omega))
      refine ⟨k, ?_, ?_⟩
      · rw [hp, fmtHex, if_neg h]; exact h1
      · rw [fmtHex, if_neg h]; simp at h2 ⊢; omega
def hex16 (u : Nat) : ByteArray := ⟨(hp 16 u []).toArray⟩
theorem size_mk (l : List UInt8) : (⟨l.toArray⟩ : ByteArray).size = l.length := by simp [ByteArray.size]
theorem cons_zero (l : List UInt8) : (⟨#[48]⟩ : ByteArray) ++ ⟨l.toArray⟩ = ⟨(48 :: l).toArray⟩ := by
  apply ByteArray.ext
  simp
end Go.Proofs.YtgdgpimlaljpdaaDoor
