/- The reference's Chain. -/
import Derived.Test.YtdciiegdgpepbaaB
set_option linter.unusedVariables false
set_option linter.unusedSimpArgs false
namespace Go.Proofs.Ytdciiegdgpepbaa
open Go.ChangeShapes Go.WideShapes Go.ChangeAt Go.RowKit
def by1 (b : Int) : ByteArray := ⟨#[UInt8.ofNat b.toNat]⟩
theorem conv1 (w : World) (b : Int) (h : 0 ≤ b ∧ b < 256) :
    (convert 38 9 (.slice (some ⟨w.heap.size, 0, none⟩) 1 1)).run Try.prog (w.alloc (.cells #[.int .u8 b] 5)) = .ok (.string (by1 b)) (w.alloc (.cells #[.int .u8 b] 5)) := by
  have h := run_convert_bytes_back (P := Try.prog) (w.alloc (.cells #[.int .u8 b] 5)) 38 9 5 ⟨w.heap.size, 0, none⟩ 1
    [UInt8.ofNat b.toNat] Try.underlying38 Try.underlying5 Try.underlying9 (fun j hj => by
      have hc := World.cell?_alloc_mark w #[.int .u8 b] 5 (0, 0) j
      have ha : (⟨w.heap.size, 0, none⟩ : Addr).add j = ⟨w.heap.size, j, none⟩ := by simp [Addr.add]; intro h; exact h.symm
      rw [ha]
      refine Eq.trans hc ?_
      clear ha hc
      match j, hj with
      | 0, _ => exact congrArg (fun x => some (Value.int .u8 x)) (u8_of h).symm)
  exact h
theorem conv1' (w : World) (n : Nat) (b : Int) (hn : n = w.heap.size) (h : 0 ≤ b ∧ b < 256) :
    (convert 38 9 (.slice (some ⟨n, 0, none⟩) 1 1)).run Try.prog (w.alloc (.cells #[.int .u8 b] 5)) = .ok (.string (by1 b)) (w.alloc (.cells #[.int .u8 b] 5)) := by
  subst hn
  exact conv1 w b h
theorem size_al (w : World) (o : Obj) : (w.alloc o).heap.size = w.heap.size + 1 := by show (w.heap.push o).size = _; simp
theorem al {w W : World} {o : Obj} (h : Below w.heap.size w W) : Below w.heap.size w (W.alloc o) := h.alloc h.size o
theorem be_eq (p : Int) : (⟨#[]⟩ : ByteArray) ++ by1 (p / 72057594037927936) ++ by1 (p / 281474976710656 % 256) ++ by1 (p / 1099511627776 % 256) ++ by1 (p / 4294967296 % 256) ++ by1 (p / 16777216 % 256) ++ by1 (p / 65536 % 256) ++ by1 (p / 256 % 256) ++ by1 (p % 256) = be8 p := by
  apply ByteArray.ext
  simp [by1, be8, bs8, ByteArray.data_append]
theorem refchain_any (p : Int) (s : ByteArray) (w : World) (hp : (Lit.int .u64 p).wf = true) (hs : s.size ≤ 1000) :
    Calls Try.prog 15 #[.int .u64 p, .string s] w fun e w' => e = .returned (.int .u64 (chainOf p s)) ∧ Below w.heap.size w w' := by
  have hb := bounds_u64 hp
  have hsz : ∀ b, (by1 b).size = 1 := fun _ => rfl
  go_enter Try.func15, Try.ntmps15
  go_wp2_with fail
  refine wp_loop_rounds 9 ?_
  rw [rounds_succ]
  go_wp2_with fail
  rw [conv1']
  rotate_left
  · rfl
  · omega
  go_wp2_with fail
  rw [rounds_succ]
  go_wp2_with fail
  rw [conv1']
  rotate_left
  · simp only [size_al]
  · omega
  go_wp2_with fail
  rw [rounds_succ]
  go_wp2_with fail
  rw [conv1']
  rotate_left
  · simp only [size_al]
  · omega
  go_wp2_with fail
  rw [rounds_succ]
  go_wp2_with fail
  rw [conv1']
  rotate_left
  · simp only [size_al]
  · omega
  go_wp2_with fail
  rw [rounds_succ]
  go_wp2_with fail
  rw [conv1']
  rotate_left
  · simp only [size_al]
  · omega
  go_wp2_with fail
  rw [rounds_succ]
  go_wp2_with fail
  rw [conv1']
  rotate_left
  · simp only [size_al]
  · omega
  go_wp2_with fail
  rw [rounds_succ]
  go_wp2_with fail
  rw [conv1']
  rotate_left
  · simp only [size_al]
  · omega
  go_wp2_with fail
  rw [rounds_succ]
  go_wp2_with fail
  rw [conv1']
  rotate_left
  · simp only [size_al]
  · omega
  go_wp2_with fail
  rw [rounds_succ]
  go_wp2_with fail
  refine (refhash_try _ _ (by rw [be_eq]; unfold maxLen; rw [ByteArray.size_append]; show 8 + s.size ≤ _; omega)).mono ?_
  rintro e w1 ⟨rfl, rfl⟩
  go_wp2_with fail
  go_ret
  refine ⟨?_, al (al (al (al (al (al (al (al (Below.refl _ _))))))))⟩
  unfold chainOf
  rw [be_eq]
  rfl
end Go.Proofs.Ytdciiegdgpepbaa
