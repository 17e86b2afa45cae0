import Derived.Test.YtlkbghdeingimaaI
import Derived.Test.YtlkbghdeingimaaK
set_option linter.unusedVariables false
set_option linter.unusedSimpArgs false
namespace Go.Proofs.Ytlkbghdeingimaa
open Go.Sort Go.ChangeShapes Go.WideShapes Go.ChangeAt Go.RowKit

theorem neq_of_eq {a : Int} (h : (a == 0) = true) : (a != 0) = false := by simp at h; simp [h]
theorem neq_of_ne {a : Int} (h : (a == 0) = false) : (a != 0) = true := by simp at h; simp [h]

abbrev aux : Array Value := auc ByteArray.empty ByteArray.empty 0 0 0 0 0 0 0 0
abbrev au0 : Value := au ⟨#[]⟩ ⟨#[]⟩ 0 0 0 0 0 0 0 0

theorem new_ok (id cur : ByteArray) (am tt un : Int) (w : World) (hs1 : id.size ≤ maxLen) (hs2 : cur.size ≤ maxLen) (h : (chk id cur am 0 0 0 1 tt un 0 == 0) = true) :
    Calls Try.prog 8 #[.string id, .string cur, .int .i64 am, .int .i64 tt, .int .i64 un] w fun e w' => e = .returned (.tuple #[au id cur am 0 0 0 1 tt un 0, .int .i64 0]) ∧ Below w.heap.size w w' := by
  have h' := neq_of_eq h
  go_enter Try.func8, Try.ntmps8
  go_wp2_with (first | (go_at_call 12; refine (chk_any id cur am 0 0 0 1 tt un 0 _ hs1 hs2).mono ?_; rintro e w1 ⟨rfl, hb⟩; obtain ⟨d, os, rfl⟩ := regrow_of hb; clear hb))
  exact bodyPost_ret (v := .tuple #[au id cur am 0 0 0 1 tt un 0, .int .i64 0]) (by simp [results, Try.results8, go_sem]) rfl ⟨rfl, below_re (((Below.refl _ _).alloc (Nat.le_refl _) _).alloc (by simp) _) (by simp; omega) _ _⟩

theorem new_no (id cur : ByteArray) (am tt un : Int) (w : World) (hs1 : id.size ≤ maxLen) (hs2 : cur.size ≤ maxLen) (h : (chk id cur am 0 0 0 1 tt un 0 == 0) = false) :
    Calls Try.prog 8 #[.string id, .string cur, .int .i64 am, .int .i64 tt, .int .i64 un] w fun e w' => e = .returned (.tuple #[au0, .int .i64 (chk id cur am 0 0 0 1 tt un 0)]) ∧ Below w.heap.size w w' := by
  have h' := neq_of_ne h
  go_enter Try.func8, Try.ntmps8
  go_wp2_with (first | (go_at_call 12; refine (chk_any id cur am 0 0 0 1 tt un 0 _ hs1 hs2).mono ?_; rintro e w1 ⟨rfl, hb⟩; obtain ⟨d, os, rfl⟩ := regrow_of hb; clear hb))
  exact bodyPost_ret (v := .tuple #[au0, .int .i64 (chk id cur am 0 0 0 1 tt un 0)]) (by simp [results, Try.results8, go_sem]) rfl ⟨rfl, below_re (((Below.refl _ _).alloc (Nat.le_refl _) _).alloc (by simp) _) (by simp; omega) _ _⟩

theorem rnew_ok (id cur : ByteArray) (am tt un : Int) (w : World) (hs1 : id.size ≤ maxLen) (hs2 : cur.size ≤ maxLen) (h : (chk id cur am 0 0 0 1 tt un 0 == 0) = true) :
    Calls Try.prog 16 #[.string id, .string cur, .int .i64 am, .int .i64 tt, .int .i64 un] w fun e w' => e = .returned (.tuple #[au id cur am 0 0 0 1 tt un 0, .int .i64 0]) ∧ Below w.heap.size w w' := by
  have h' := neq_of_eq h
  go_enter Try.func16, Try.ntmps16
  go_wp2_with (first | (go_at_call 13; refine (rchk_any id cur am 0 0 0 1 tt un 0 _ hs1 hs2).mono ?_; rintro e w1 ⟨rfl, hb⟩; obtain ⟨d, os, rfl⟩ := regrow_of hb; clear hb))
  exact bodyPost_ret (v := .tuple #[au id cur am 0 0 0 1 tt un 0, .int .i64 0]) (by simp [results, Try.results16, go_sem]) rfl ⟨rfl, below_re (((Below.refl _ _).alloc (Nat.le_refl _) _).alloc (by simp) _) (by simp; omega) _ _⟩

theorem rnew_no (id cur : ByteArray) (am tt un : Int) (w : World) (hs1 : id.size ≤ maxLen) (hs2 : cur.size ≤ maxLen) (h : (chk id cur am 0 0 0 1 tt un 0 == 0) = false) :
    Calls Try.prog 16 #[.string id, .string cur, .int .i64 am, .int .i64 tt, .int .i64 un] w fun e w' => e = .returned (.tuple #[au0, .int .i64 (chk id cur am 0 0 0 1 tt un 0)]) ∧ Below w.heap.size w w' := by
  have h' := neq_of_ne h
  go_enter Try.func16, Try.ntmps16
  go_wp2_with (first | (go_at_call 13; refine (rchk_any id cur am 0 0 0 1 tt un 0 _ hs1 hs2).mono ?_; rintro e w1 ⟨rfl, hb⟩; obtain ⟨d, os, rfl⟩ := regrow_of hb; clear hb))
  exact bodyPost_ret (v := .tuple #[au0, .int .i64 (chk id cur am 0 0 0 1 tt un 0)]) (by simp [results, Try.results16, go_sem]) rfl ⟨rfl, below_re (((Below.refl _ _).alloc (Nat.le_refl _) _).alloc (by simp) _) (by simp; omega) _ _⟩

def nameL (n : Int) : ByteArray := ⟨if n = 1 then #[111, 112, 101, 110] else if n = 2 then #[99, 108, 101, 97, 114, 101, 100] else if n = 3 then #[114, 101, 118, 101, 114, 115, 101, 100] else if n = 4 then #[101, 120, 112, 105, 114, 101, 100] else #[]⟩
theorem name_any (n : Int) (w : World) : Calls Try.prog 17 #[.int .i64 n] w fun e w' => e = .returned (.string (nameL n)) ∧ w = w' := by
  by_cases h1 : n = 1
  · subst h1; go_enter Try.func17, Try.ntmps17; go_wp2; go_ret; exact ⟨rfl, rfl⟩
  by_cases h2 : n = 2
  · subst h2; go_enter Try.func17, Try.ntmps17; go_wp2; go_ret; exact ⟨rfl, rfl⟩
  by_cases h3 : n = 3
  · subst h3; go_enter Try.func17, Try.ntmps17; go_wp2; go_ret; exact ⟨rfl, rfl⟩
  by_cases h4 : n = 4
  · subst h4; go_enter Try.func17, Try.ntmps17; go_wp2; go_ret; exact ⟨rfl, rfl⟩
  have H := Lib.hid (show nameL n = ⟨#[]⟩ by simp [nameL, h1, h2, h3, h4])
  go_enter Try.func17, Try.ntmps17
  go_wp2
  go_ret
  exact ⟨by rw [H.out]; rfl, rfl⟩
theorem rname_any (n : Int) (w : World) : Calls Try.prog 18 #[.int .i64 n] w fun e w' => e = .returned (.string (nameL n)) ∧ w = w' := by
  by_cases h1 : n = 1
  · subst h1; go_enter Try.func18, Try.ntmps18; go_wp2; go_ret; exact ⟨rfl, rfl⟩
  by_cases h2 : n = 2
  · subst h2; go_enter Try.func18, Try.ntmps18; go_wp2; go_ret; exact ⟨rfl, rfl⟩
  by_cases h3 : n = 3
  · subst h3; go_enter Try.func18, Try.ntmps18; go_wp2; go_ret; exact ⟨rfl, rfl⟩
  by_cases h4 : n = 4
  · subst h4; go_enter Try.func18, Try.ntmps18; go_wp2; go_ret; exact ⟨rfl, rfl⟩
  have H := Lib.hid (show nameL n = ⟨#[]⟩ by simp [nameL, h1, h2, h3, h4])
  go_enter Try.func18, Try.ntmps18
  go_wp2
  go_ret
  exact ⟨by rw [H.out]; rfl, rfl⟩
end Go.Proofs.Ytlkbghdeingimaa
