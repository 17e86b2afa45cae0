/- awake: the chapter's examples hold. -/
import Derived.Test.YtdciiegdgpepbaaE
import Derived.Test.YtdciiegdgpepbaaG
set_option linter.unusedVariables false
set_option linter.unusedSimpArgs false
namespace Go.Proofs.Ytdciiegdgpepbaa
open Go.ChangeShapes Go.WideShapes Go.ChangeAt Go.RowKit
def s1 : ByteArray := ⟨#[97, 101, 56, 98, 55, 98, 101, 52, 51]⟩
def s2 : ByteArray := ⟨#[97, 101, 56, 98, 55, 98, 101, 52, 52]⟩
def s3 : ByteArray := ⟨#[56, 98, 55, 98, 101, 52, 51]⟩
def s4 : ByteArray := ⟨#[49, 50, 51, 52, 53, 54, 55, 56, 57]⟩
def s5 : ByteArray := ⟨#[97]⟩
theorem ht1 : ((sealB (crcOf (bodyOf s1))).toList == (tailOf s1).toList) = true := by
  rw [ByteArray.toList_eq, ByteArray.toList_eq]; decide +kernel
theorem ht2 : ((sealB (crcOf (bodyOf s2))).toList == (tailOf s2).toList) = false := by
  rw [ByteArray.toList_eq, ByteArray.toList_eq]; decide +kernel
theorem oS1 : openS s1 = s5 := by unfold openS; rw [if_neg (by decide), if_pos ht1]; decide +kernel
theorem oE1 : openE s1 = 0 := by unfold openE; rw [if_neg (by decide), if_pos ht1]
theorem oS2 : openS s2 = ⟨#[]⟩ := by unfold openS; rw [if_neg (by decide), ht2]; rfl
theorem oE2 : openE s2 = 9 := by unfold openE; rw [if_neg (by decide), ht2]; rfl
theorem oS3 : openS s3 = ⟨#[]⟩ := by unfold openS; rw [if_pos (by decide)]
theorem oE3 : openE s3 = 1 := by unfold openE; rw [if_pos (by decide)]
theorem c4 : crcOf s4 = 3421780262 := by decide +kernel
theorem h5 : hashOf s5 = 12638187200555641996 := by decide +kernel
theorem e5 : sealOf s5 = s1 := by decide +kernel
def t1 : ByteArray := ⟨#[52, 48, 48, 48, 48, 48, 48, 48, 48, 48, 48, 48, 48, 48, 55, 55]⟩
def t2 : ByteArray := ⟨#[57, 57, 120, 57, 57, 57, 57, 57, 57, 57]⟩
def xs0 (i : Nat) : ByteArray := if i = 0 then t1 else t2
theorem tot0 : totAt xs0 2 = 10000076 := by decide +kernel
theorem size_al' (w : World) (o : Obj) : (w.alloc o).heap.size = w.heap.size + 1 := by show (w.heap.push o).size = _; simp
theorem strAt0 (w : World) : StrAt (w.alloc (.cells #[.string t1, .string t2] 9)) (some ⟨w.heap.size, 0, none⟩) 2 xs0 := by
  intro i hi
  refine ⟨w.heap.size, 0, rfl, by rw [size_al']; omega, ?_⟩
  rw [Nat.zero_add]
  refine (World.cell?_alloc_mark w #[.string t1, .string t2] 9 (0, 0) i).trans ?_
  match i, hi with
  | 0, _ => rfl
  | 1, _ => rfl
theorem below_call {w W w1 : World} (h : Below w.heap.size w W) (hb : Below W.heap.size W w1) : Below w.heap.size w w1 := h.trans (hb.mono h.size)
theorem below_al {w W : World} {o : Obj} (h : Below w.heap.size w W) : Below w.heap.size w (W.alloc o) := h.alloc h.size o
theorem open1 (w : World) : Calls Try.prog 19 #[.string ⟨#[97, 101, 56, 98, 55, 98, 101, 52, 51]⟩] w fun e w' => e = .returned (.tuple #[.string ⟨#[97]⟩, .int .i64 0]) ∧ Below w.heap.size w w' := by
  refine (Open_any s1 w (by decide)).mono fun e w' h => ?_
  rw [oS1, oE1] at h
  exact h
theorem open2 (w : World) : Calls Try.prog 19 #[.string ⟨#[97, 101, 56, 98, 55, 98, 101, 52, 52]⟩] w fun e w' => e = .returned (.tuple #[.string ⟨#[]⟩, .int .i64 9]) ∧ Below w.heap.size w w' := by
  refine (Open_any s2 w (by decide)).mono fun e w' h => ?_
  rw [oS2, oE2] at h
  exact h
theorem open3 (w : World) : Calls Try.prog 19 #[.string ⟨#[56, 98, 55, 98, 101, 52, 51]⟩] w fun e w' => e = .returned (.tuple #[.string ⟨#[]⟩, .int .i64 1]) ∧ Below w.heap.size w w' := by
  refine (Open_any s3 w (by decide)).mono fun e w' h => ?_
  rw [oS3, oE3] at h
  exact h
theorem crc4 (w : World) : Calls Try.prog 10 #[.string ⟨#[49, 50, 51, 52, 53, 54, 55, 56, 57]⟩] w fun e w' => e = .returned (.int .u32 3421780262) ∧ w = w' := by
  refine (crc_try s4 w (by decide)).mono fun e w' h => ?_
  rw [c4] at h
  exact h
theorem hash5 (w : World) : Calls Try.prog 12 #[.string ⟨#[97]⟩] w fun e w' => e = .returned (.int .u64 12638187200555641996) ∧ w = w' := by
  refine (hash_try s5 w (by decide)).mono fun e w' h => ?_
  rw [h5] at h
  exact h
theorem seal5 (w : World) : Calls Try.prog 21 #[.string ⟨#[97]⟩] w fun e w' => e = .returned (.string ⟨#[97, 101, 56, 98, 55, 98, 101, 52, 51]⟩) ∧ Below w.heap.size w w' := by
  refine (Seal_any s5 w (by decide)).mono fun e w' h => ?_
  rw [e5] at h
  exact h
theorem total0 (w : World) : Calls Try.prog 17 #[.slice (some ⟨w.heap.size, 0, none⟩) 2 2] (w.alloc (.cells #[.string ⟨#[52, 48, 48, 48, 48, 48, 48, 48, 48, 48, 48, 48, 48, 48, 55, 55]⟩, .string ⟨#[57, 57, 120, 57, 57, 57, 57, 57, 57, 57]⟩] 9))
    fun e w' => e = .returned (.int .i64 10000076) ∧ (w.alloc (.cells #[.string ⟨#[52, 48, 48, 48, 48, 48, 48, 48, 48, 48, 48, 48, 48, 48, 55, 55]⟩, .string ⟨#[57, 57, 120, 57, 57, 57, 57, 57, 57, 57]⟩] 9)) = w' := by
  refine (Total_any (some ⟨w.heap.size, 0, none⟩) 2 2 xs0 _ (strAt0 w) (fun i hi => ?_) (by omega) (by unfold maxLen; omega)).mono fun e w' h => ?_
  · match i, hi with
    | 0, _ => decide
    | 1, _ => decide
  · rw [tot0] at h
    exact h
theorem awake_any (w : World) : Calls Try.prog 9 #[] w fun e w' => e = .returned (.bool true) ∧ Below w.heap.size w w' := by
  go_enter Try.func9, Try.ntmps9
  go_wp2_with fail
  refine (open1 _).mono ?_
  rintro e w1 ⟨rfl, hb1⟩
  go_wp2_with fail
  refine (open2 _).mono ?_
  rintro e w2 ⟨rfl, hb2⟩
  go_wp2_with fail
  refine (open3 _).mono ?_
  rintro e w3 ⟨rfl, hb3⟩
  go_wp2_with (first | (go_at_call 10; refine (crc4 _).mono ?_; rintro e w' ⟨rfl, rfl⟩) | (go_at_call 12; refine (hash5 _).mono ?_; rintro e w' ⟨rfl, rfl⟩) | (go_at_call 17; refine (total0 _).mono ?_; rintro e w' ⟨rfl, rfl⟩))
  refine (seal5 _).mono ?_
  rintro e w4 ⟨rfl, hb4⟩
  go_wp2_with fail
  go_ret
  exact ⟨rfl, below_call (below_al (below_call (below_call hb1 hb2) hb3)) hb4⟩
end Go.Proofs.Ytdciiegdgpepbaa
