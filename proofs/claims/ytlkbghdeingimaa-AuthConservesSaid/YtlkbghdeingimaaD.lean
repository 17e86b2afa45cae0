import Derived.Test.YtlkbghdeingimaaC
set_option linter.unusedVariables false
set_option linter.unusedSimpArgs false
namespace Go.Proofs.Ytlkbghdeingimaa
open Go.ChangeShapes Go.WideShapes Go.ChangeAt Go.RowKit

/-- the value of an authorization -/
abbrev au (id cur : ByteArray) (ap rv cl ex st tt un pa : Int) : Value :=
  .agg #[.string id, .string cur, .int .i64 ap, .int .i64 rv, .int .i64 cl, .int .i64 ex, .int .i64 st, .int .i64 tt, .int .i64 un, .int .i64 pa]

abbrev auc (id cur : ByteArray) (ap rv cl ex st tt un pa : Int) : Array Value :=
  #[.string id, .string cur, .int .i64 ap, .int .i64 rv, .int .i64 cl, .int .i64 ex, .int .i64 st, .int .i64 tt, .int .i64 un, .int .i64 pa]
abbrev auz : Array Value := auc ByteArray.empty ByteArray.empty 0 0 0 0 0 0 0 0

theorem ret_i {k : IntKind} {a b : Int} (h : a = b) : Ending.returned (.int k a) = .returned (.int k b) := by rw [h]

theorem open_any (id cur : ByteArray) (ap rv cl ex st tt un pa : Int) (w : World)
    (h1 : 0 ≤ ap) (h2 : ap ≤ 999999999999) (h3 : 0 ≤ rv) (h4 : rv ≤ 1999999999999) (h5 : 0 ≤ cl) (h6 : cl ≤ 1999999999999) (h7 : 0 ≤ ex) (h8 : ex ≤ 1999999999999) :
    Calls Try.prog 20 #[au id cur ap rv cl ex st tt un pa] w fun e w' => e = .returned (.int .i64 (ap - rv - cl - ex)) ∧ w' = w.alloc (.cells (auc id cur ap rv cl ex st tt un pa) 24) := by
  go_enter Try.func20, Try.ntmps20
  go_wp2
  go_ret
  exact ⟨rfl, rfl⟩

def sttI (ap rv cl ex : Int) : Int := if 0 < ap - rv - cl - ex then 1 else if 0 < ex then 4 else if 0 < cl then 2 else 3

theorem state_any (id cur : ByteArray) (ap rv cl ex st tt un pa : Int) (w : World)
    (h1 : 0 ≤ ap) (h2 : ap ≤ 999999999999) (h3 : 0 ≤ rv) (h4 : rv ≤ 1999999999999) (h5 : 0 ≤ cl) (h6 : cl ≤ 1999999999999) (h7 : 0 ≤ ex) (h8 : ex ≤ 1999999999999) :
    Calls Try.prog 32 #[au id cur ap rv cl ex st tt un pa] w fun e w' => e = .returned (.int .i64 (sttI ap rv cl ex)) ∧ Below w.heap.size w w' := by
  by_cases c1 : 0 < ap - rv - cl - ex
  · have H := Lib.hid (show sttI ap rv cl ex = 1 by unfold sttI; (repeat' split) <;> omega)
    go_enter Try.func32, Try.ntmps32
    go_wp2
    go_ret
    exact ⟨ret_i H.out.symm, (Below.refl _ _).alloc (Nat.le_refl _) _⟩
  · by_cases c2 : 0 < ex
    · have H := Lib.hid (show sttI ap rv cl ex = 4 by unfold sttI; (repeat' split) <;> omega)
      go_enter Try.func32, Try.ntmps32
      go_wp2
      go_ret
      exact ⟨ret_i H.out.symm, (Below.refl _ _).alloc (Nat.le_refl _) _⟩
    · by_cases c3 : 0 < cl
      · have H := Lib.hid (show sttI ap rv cl ex = 2 by unfold sttI; (repeat' split) <;> omega)
        go_enter Try.func32, Try.ntmps32
        go_wp2
        go_ret
        exact ⟨ret_i H.out.symm, (Below.refl _ _).alloc (Nat.le_refl _) _⟩
      · have H := Lib.hid (show sttI ap rv cl ex = 3 by unfold sttI; (repeat' split) <;> omega)
        go_enter Try.func32, Try.ntmps32
        go_wp2
        go_ret
        exact ⟨ret_i H.out.symm, (Below.refl _ _).alloc (Nat.le_refl _) _⟩


theorem settled_x (id cur : ByteArray) (ap rv cl ex st tt un pa : Int) (w : World)
    (h1 : 0 ≤ ap) (h2 : ap ≤ 999999999999) (h3 : 0 ≤ rv) (h4 : rv ≤ 1999999999999) (h5 : 0 ≤ cl) (h6 : cl ≤ 1999999999999) (h7 : 0 ≤ ex) (h8 : ex ≤ 1999999999999) :
    Calls Try.prog 28 #[au id cur ap rv cl ex st tt un pa] w fun e w' => e = .returned (au id cur ap rv cl ex (sttI ap rv cl ex) tt un pa) ∧ Below w.heap.size w w' := by
  by_cases c1 : 0 < ap - rv - cl - ex
  · have H := Lib.hid (show sttI ap rv cl ex = 1 by unfold sttI; (repeat' split) <;> omega)
    go_enter Try.func28, Try.ntmps28
    go_wp2_with fail
    refine (open_any id cur ap rv cl ex st tt un pa _ (by omega) (by omega) (by omega) (by omega) (by omega) (by omega) (by omega) (by omega)).mono ?_
    rintro e w1 ⟨rfl, rfl⟩
    go_wp2_with fail
    exact bodyPost_ret (v := au id cur ap rv cl ex 1 tt un pa) (by simp [results, Try.results28, go_sem]) rfl ⟨by rw [H.out], (((Below.refl _ _).alloc (Nat.le_refl _) _).alloc (by simp) _).alloc (by simp; omega) _⟩
  · by_cases c2 : 0 < ex
    · have H := Lib.hid (show sttI ap rv cl ex = 4 by unfold sttI; (repeat' split) <;> omega)
      go_enter Try.func28, Try.ntmps28
      go_wp2_with fail
      refine (open_any id cur ap rv cl ex st tt un pa _ (by omega) (by omega) (by omega) (by omega) (by omega) (by omega) (by omega) (by omega)).mono ?_
      rintro e w1 ⟨rfl, rfl⟩
      go_wp2_with fail
      exact bodyPost_ret (v := au id cur ap rv cl ex 4 tt un pa) (by simp [results, Try.results28, go_sem]) rfl ⟨by rw [H.out], (((Below.refl _ _).alloc (Nat.le_refl _) _).alloc (by simp) _).alloc (by simp; omega) _⟩
    · by_cases c3 : 0 < cl
      · have H := Lib.hid (show sttI ap rv cl ex = 2 by unfold sttI; (repeat' split) <;> omega)
        go_enter Try.func28, Try.ntmps28
        go_wp2_with fail
        refine (open_any id cur ap rv cl ex st tt un pa _ (by omega) (by omega) (by omega) (by omega) (by omega) (by omega) (by omega) (by omega)).mono ?_
        rintro e w1 ⟨rfl, rfl⟩
        go_wp2_with fail
        exact bodyPost_ret (v := au id cur ap rv cl ex 2 tt un pa) (by simp [results, Try.results28, go_sem]) rfl ⟨by rw [H.out], (((Below.refl _ _).alloc (Nat.le_refl _) _).alloc (by simp) _).alloc (by simp; omega) _⟩
      · have H := Lib.hid (show sttI ap rv cl ex = 3 by unfold sttI; (repeat' split) <;> omega)
        go_enter Try.func28, Try.ntmps28
        go_wp2_with fail
        refine (open_any id cur ap rv cl ex st tt un pa _ (by omega) (by omega) (by omega) (by omega) (by omega) (by omega) (by omega) (by omega)).mono ?_
        rintro e w1 ⟨rfl, rfl⟩
        go_wp2_with fail
        exact bodyPost_ret (v := au id cur ap rv cl ex 3 tt un pa) (by simp [results, Try.results28, go_sem]) rfl ⟨by rw [H.out], (((Below.refl _ _).alloc (Nat.le_refl _) _).alloc (by simp) _).alloc (by simp; omega) _⟩
end Go.Proofs.Ytlkbghdeingimaa
