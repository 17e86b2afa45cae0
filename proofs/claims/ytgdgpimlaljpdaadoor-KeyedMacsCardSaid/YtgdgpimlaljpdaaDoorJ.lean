/- Code, Text of the program. -/
import Derived.Test.YtgdgpimlaljpdaaDoorI
import Derived.Lib.Strings
set_option linter.unusedVariables false
set_option linter.unusedSimpArgs false
namespace Go.Proofs.YtgdgpimlaljpdaaDoor
open Go.Sort Go.ChangeShapes Go.WideShapes Go.ChangeAt Go.RowKit
def TZ (w : World) : Prop := w.cell? ⟨5, 15, none⟩ = some (.int .u8 4)
theorem TZ.call {w w1 : World} (h : TZ w) (hb : Below w.heap.size w w1) : TZ w1 := (hb.cell (p := ⟨5, 15, none⟩) (block_lt_of_cell h)).trans h
theorem beI {w W w1 : World} {B : Nat} (h : Below B w W) (hB : B ≤ w.heap.size) (hb : Below W.heap.size W w1) : Below B w w1 := h.trans (hb.mono (Nat.le_trans hB h.size))
theorem bst_app (a b : List UInt8) : bst a ++ bst b = bst (a ++ b) := by
  apply ByteArray.ext
  simp [bst]
theorem bst_ext (l : List UInt8) (k : Nat) : (bst l).extract k l.length = bst (l.drop k) := by
  apply ByteArray.ext
  simp [bst]
  rw [List.take_of_length_le (by simp)]
theorem repS (n : Nat) : (⟨(Lib.repeatL (⟨#[48]⟩ : ByteArray).data.toList n).toArray⟩ : ByteArray) = bst (List.replicate n 48) := by
  show bst (Lib.repeatL [48] n) = _
  rw [rep1]
theorem dec_len' (k u : Nat) (hu : u < 10 ^ (k + 1)) : 1 ≤ (Lib.decDigits u).length ∧ (Lib.decDigits u).length ≤ k + 1 := by
  induction k generalizing u with
  | zero => rw [dec_small (by simpa using hu)]; simp
  | succ k ih =>
    by_cases h : u < 10
    · rw [dec_small h]; simp
    · rw [dec_big h]
      have := ih (u / 10) (by rw [Nat.pow_succ] at hu; exact Nat.div_lt_of_lt_mul (by omega))
      simp only [List.length_append, List.length_cons, List.length_nil]
      omega
theorem dec_len (u : Nat) (hu : u < B64) : 1 ≤ (Lib.decDigits u).length ∧ (Lib.decDigits u).length ≤ 20 := dec_len' 19 u (Nat.lt_of_lt_of_le hu (by decide))
set_option maxHeartbeats 1000000 in
theorem code_ok (u : Nat) (hu : u < B64) (n : Nat) (h1 : 1 ≤ n) (h2 : n ≤ 12) (w : World) (hP : TabP w) :
    Calls Tryd.prog 9 #[.int .u64 u, .int .i64 n] w fun e w' => e = .returned (.tuple #[.string (bst (lastD 10 c10 n u)), .int .i64 0]) ∧ Below w.heap.size w w' := by
  have HR := Lib.hid (fun w => Tryd.strings_Repeat ⟨#[48]⟩ 12 w (by decide) (by decide))
  rw [repS] at HR
  have HF : Hid (∀ w, TabP w → _) := Lib.hid (fun w h => sfu10_any u hu w h)
  obtain ⟨l1, l2⟩ := dec_len u hu
  have hpad := pad10 12 n u h2
  have happ := bst_app (List.replicate 12 48) (Lib.decDigits u)
  have hl0 : (List.replicate 12 (48 : UInt8) ++ Lib.decDigits u).length = 12 + (Lib.decDigits u).length := by rw [List.length_append, List.length_replicate]
  have hext := bst_ext (List.replicate 12 48 ++ Lib.decDigits u) (12 + (Lib.decDigits u).length - n)
  rw [hpad, hl0] at hext
  have hsz := bst_size (List.replicate 12 48 ++ Lib.decDigits u)
  rw [hl0] at hsz
  have hzs : (bst (List.replicate 12 48)).size ≤ 12 := by rw [bst_size, List.length_replicate]; exact Nat.le_refl _
  have hfs : (bst (Lib.decDigits u)).size ≤ 20 := by rw [bst_size]; exact l2
  generalize bst (lastD 10 c10 n u) = R at *
  generalize bst (List.replicate 12 48) = Z at *
  generalize bst (List.replicate 12 48 ++ Lib.decDigits u) = S at *
  generalize (Lib.decDigits u).length = L at *
  generalize bst (Lib.decDigits u) = F at *
  have HP := Lib.hid hP
  have ha : Z ++ F = S := happ
  have h1' : 1 ≤ (n : Int) := by omega
  have h2' : (n : Int) ≤ 12 := by omega
  clear hP hu hpad hl0 happ
  go_enter Tryd.func9, Tryd.ntmps9
  go_wp2_with fail
  refine (HR.out _).mono ?_
  rintro e w1 ⟨rfl, hb⟩
  have HB1 := Lib.hid hb
  clear hb
  go_wp2_with fail
  refine (HF.out _ (HP.out.call HB1.out)).mono ?_
  rintro e w2 ⟨rfl, hb⟩
  have HB2 := Lib.hid (beI HB1.out (Nat.le_refl _) hb)
  clear hb HB1
  go_wp2_with fail
  go_ret2
  exact ⟨by rw [← hext]; rfl, HB2.out⟩
theorem code_no (u : Nat) (n : Int) (h : n < 1 ∨ 12 < n) (w : World) :
    Calls Tryd.prog 9 #[.int .u64 u, .int .i64 n] w fun e w' => e = .returned (.tuple #[.string ⟨#[]⟩, .int .i64 4]) ∧ Below w.heap.size w w' := by
  by_cases h1 : n < 1
  · clear h
    go_enter Tryd.func9, Tryd.ntmps9
    go_wp2_with fail
    go_ret2
    exact ⟨rfl, Below.refl _ _⟩
  · have h2 : 12 < n := by omega
    clear h
    go_enter Tryd.func9, Tryd.ntmps9
    go_wp2_with fail
    go_ret2
    exact ⟨rfl, Below.refl _ _⟩
theorem rcode_no (u : Nat) (n : Int) (h : n < 1 ∨ 12 < n) (w : World) :
    Calls Tryd.prog 10 #[.int .u64 u, .int .i64 n] w fun e w' => e = .returned (.tuple #[.string ⟨#[]⟩, .int .i64 4]) ∧ Below w.heap.size w w' := by
  by_cases h1 : n < 1
  · clear h
    go_enter Tryd.func10, Tryd.ntmps10
    go_wp2_with fail
    go_ret2
    exact ⟨rfl, Below.refl _ _⟩
  · have h2 : 12 < n := by omega
    clear h
    go_enter Tryd.func10, Tryd.ntmps10
    go_wp2_with fail
    go_ret2
    exact ⟨rfl, Below.refl _ _⟩
/-- what Code answers -/
def cdS (u : Nat) (n : Int) : ByteArray := if 1 ≤ n ∧ n ≤ 12 then bst (lastD 10 c10 n.toNat u) else ⟨#[]⟩
def cdE (n : Int) : Int := if 1 ≤ n ∧ n ≤ 12 then 0 else 4
theorem code_any (u : Nat) (hu : u < B64) (n : Int) (w : World) (hP : TabP w) :
    Calls Tryd.prog 9 #[.int .u64 u, .int .i64 n] w fun e w' => e = .returned (.tuple #[.string (cdS u n), .int .i64 (cdE n)]) ∧ Below w.heap.size w w' := by
  unfold cdS cdE
  by_cases h : 1 ≤ n ∧ n ≤ 12
  · rw [if_pos h, if_pos h]
    have := code_ok u hu n.toNat (by omega) (by omega) w hP
    rw [show ((n.toNat : Nat) : Int) = n by omega] at this
    exact this
  · rw [if_neg h, if_neg h]
    exact code_no u n (by omega) w
theorem rcode_any (u : Nat) (hu : u < B64) (n : Int) (w : World) :
    Calls Tryd.prog 10 #[.int .u64 u, .int .i64 n] w fun e w' => e = .returned (.tuple #[.string (cdS u n), .int .i64 (cdE n)]) ∧ Below w.heap.size w w' := by
  unfold cdS cdE
  by_cases h : 1 ≤ n ∧ n ≤ 12
  · rw [if_pos h, if_pos h]
    have := rcode_ok u hu n.toNat (by omega) (by omega) w
    rw [show ((n.toNat : Nat) : Int) = n by omega] at this
    exact this
  · rw [if_neg h, if_neg h]
    exact rcode_no u n (by omega) w
def txt (u : Nat) : ByteArray := bst (lastD 16 hexc 16 u)
theorem txt_size (u : Nat) : (txt u).size = 16 := by rw [txt, bst_size, lastD_len]
theorem fmt_len (u : Nat) (hu : u < B64) : 1 ≤ (fmtHex 16 u []).length ∧ (fmtHex 16 u []).length ≤ 16 := by
  obtain ⟨k, h1, h2⟩ := hp_fmt 16 u [] (by decide) (Nat.lt_of_lt_of_le hu (by decide))
  simp only [List.length_nil, Nat.add_zero] at h2
  refine ⟨?_, by omega⟩
  unfold fmtHex
  split
  · simp
  · rename_i h
    have : ∀ f x (acc : List UInt8), 1 ≤ acc.length → 1 ≤ (fmtHex f x acc).length := by
      intro f
      induction f with
      | zero => intro x acc h; exact h
      | succ f ih => intro x acc h; rw [fmtHex]; split
                     · simp
                     · exact ih _ _ (by simp)
    exact this _ _ _ (by simp)
set_option maxHeartbeats 1000000 in
theorem text_any (u : Nat) (hu : u < B64) (w : World) (hT : TZ w) :
    Calls Tryd.prog 14 #[.int .u64 u] w fun e w' => e = .returned (.string (txt u)) ∧ Below w.heap.size w w' := by
  have HR := Lib.hid (fun w => Tryd.strings_Repeat ⟨#[48]⟩ 16 w (by decide) (by decide))
  rw [repS] at HR
  have HF : Hid (∀ w, TZ w → Calls Tryd.prog 23 #[.int .u64 u, .int .i64 16] w fun e w' => e = .returned (.string (bst (fmtHex 16 u []))) ∧ Below w.heap.size w w') := Lib.hid (fun w h => sfu_any u hu w h)
  obtain ⟨l1, l2⟩ := fmt_len u hu
  have hpad := pad16 u hu
  have ha := bst_app (List.replicate 16 48) (fmtHex 16 u [])
  have hl0 : (List.replicate 16 (48 : UInt8) ++ fmtHex 16 u []).length = 16 + (fmtHex 16 u []).length := by rw [List.length_append, List.length_replicate]
  have hext := bst_ext (List.replicate 16 48 ++ fmtHex 16 u []) (16 + (fmtHex 16 u []).length - 16)
  rw [hpad, hl0] at hext
  have hsz := bst_size (List.replicate 16 48 ++ fmtHex 16 u [])
  rw [hl0] at hsz
  have hzs : (bst (List.replicate 16 48)).size ≤ 16 := by rw [bst_size, List.length_replicate]; exact Nat.le_refl _
  have hfs : (bst (fmtHex 16 u [])).size ≤ 20 := by rw [bst_size]; omega
  unfold txt
  generalize bst (lastD 16 hexc 16 u) = R at *
  generalize bst (List.replicate 16 48) = Z at *
  generalize bst (List.replicate 16 48 ++ fmtHex 16 u []) = S at *
  generalize (fmtHex 16 u []).length = L at *
  generalize bst (fmtHex 16 u []) = F at *
  have HT := Lib.hid hT
  clear hT hu hpad hl0
  go_enter Tryd.func14, Tryd.ntmps14
  go_wp2_with fail
  refine (HR.out _).mono ?_
  rintro e w1 ⟨rfl, hb⟩
  have HB1 := Lib.hid hb
  clear hb
  go_wp2_with fail
  refine (HF.out _ (HT.out.call HB1.out)).mono ?_
  rintro e w2 ⟨rfl, hb⟩
  have HB2 := Lib.hid (beI HB1.out (Nat.le_refl _) hb)
  clear hb HB1
  go_wp2_with fail
  go_ret
  exact ⟨by rw [← hext]; rfl, HB2.out⟩
end Go.Proofs.YtgdgpimlaljpdaaDoor
