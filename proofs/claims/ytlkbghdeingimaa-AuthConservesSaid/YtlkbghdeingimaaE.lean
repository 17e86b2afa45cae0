import Derived.Test.YtlkbghdeingimaaD
import Derived.Deep.RegionWith
import Derived.Deep.DeepCutAuto
set_option linter.unusedVariables false
set_option linter.unusedSimpArgs false
namespace Go.Proofs.Ytlkbghdeingimaa
open Go.ChangeShapes Go.WideShapes Go.ChangeAt Go.RowKit

def chk (id cur : ByteArray) (ap rv cl ex st tt un pa : Int) : Int :=
  if idL id.data.toList = false then 5 else if curL cur.data.toList = false then 11 else
  if amtB ap 1 = false ∨ amtB rv 0 = false ∨ amtB cl 0 = false ∨ amtB ex 0 = false then 4 else if ap - rv - cl - ex < 0 then 26 else
  if timeB tt = false ∨ timeB un = false ∨ un ≤ tt then 14 else
  if pa < 0 ∨ 8 < pa ∨ cl < pa ∨ ¬ (pa = 0 ↔ cl = 0) then 4 else if st ≠ sttI ap rv cl ex ∨ st = 1 ∧ ex ≠ 0 then 8 else 0

theorem bcell {W w1 : World} (hb : Below W.heap.size W w1) : (∀ b o, b < W.heap.size → w1.cell? ⟨b, o, none⟩ = W.cell? ⟨b, o, none⟩) ∧ (∀ b o, b < W.heap.size → w1.frozen? ⟨b, o, none⟩ = W.frozen? ⟨b, o, none⟩) :=
  ⟨fun b o h => hb.cell (p := ⟨b, o, none⟩) h, fun b o h => hb.frozen (p := ⟨b, o, none⟩) h⟩

theorem amtB_le {n l : Int} (h : amtB n l = true) : l ≤ n ∧ n ≤ 999999999999 := by simpa [amtB] using h

set_option maxHeartbeats 1000000 in
theorem chk_bad (id cur : ByteArray) (ap rv cl ex st tt un pa : Int) (w : World) (hs1 : id.size ≤ maxLen) (hs2 : cur.size ≤ maxLen)
    (hbad : (idL id.data.toList && curL cur.data.toList && amtB ap 1 && amtB rv 0 && amtB cl 0 && amtB ex 0) = false) :
    Calls Try.prog 12 #[au id cur ap rv cl ex st tt un pa] w fun e w' => e = .returned (.int .i64 (chk id cur ap rv cl ex st tt un pa)) ∧ Below w.heap.size w w' := by
  cases h1 : idL id.data.toList
  · have H := Lib.hid (show chk id cur ap rv cl ex st tt un pa = 5 by simp [chk, h1])
    go_enter Try.func12, Try.ntmps12
    go_wp2_with (first | (go_at_call 24; refine (id_any _ _ hs1).mono ?_; rintro e w' ⟨rfl, rfl⟩))
    go_ret
    exact ⟨ret_i H.out.symm, (Below.refl _ _).alloc (Nat.le_refl _) _⟩
  cases h2 : curL cur.data.toList
  · have H := Lib.hid (show chk id cur ap rv cl ex st tt un pa = 11 by simp [chk, h1, h2])
    go_enter Try.func12, Try.ntmps12
    go_wp2_with (first | (go_at_call 24; refine (id_any _ _ hs1).mono ?_; rintro e w' ⟨rfl, rfl⟩) | (go_at_call 25; refine (cur_any _ _ hs2).mono ?_; rintro e w' ⟨rfl, rfl⟩))
    go_ret
    exact ⟨ret_i H.out.symm, (Below.refl _ _).alloc (Nat.le_refl _) _⟩
  have H := Lib.hid (show chk id cur ap rv cl ex st tt un pa = 4 by
    simp only [chk, h1, h2]; rw [if_neg (by simp), if_neg (by simp), if_pos (by revert hbad; simp only [h1, h2]; cases amtB ap 1 <;> cases amtB rv 0 <;> cases amtB cl 0 <;> cases amtB ex 0 <;> simp)])
  have HB := Lib.hid hbad
  clear hbad
  cases h3 : amtB ap 1
  all_goals cases h4 : amtB rv 0
  all_goals cases h5 : amtB cl 0
  all_goals cases h6 : amtB ex 0
  all_goals first
    | (exfalso; have := HB.out; simp [h1, h2, h3, h4, h5, h6] at this; done)
    | (go_enter Try.func12, Try.ntmps12
       go_wp2_with (first | (go_at_call 24; refine (id_any _ _ hs1).mono ?_; rintro e w' ⟨rfl, rfl⟩) | (go_at_call 25; refine (cur_any _ _ hs2).mono ?_; rintro e w' ⟨rfl, rfl⟩) | (go_at_call 26; refine (amt_any _ _ _).mono ?_; rintro e w' ⟨rfl, rfl⟩))
       go_ret
       exact ⟨ret_i H.out.symm, (Below.refl _ _).alloc (Nat.le_refl _) _⟩)

end Go.Proofs.Ytlkbghdeingimaa
