/- Check of both. -/
import Derived.Test.YtpabgmdgoghahaaDoorA
set_option linter.unusedVariables false
set_option linter.unusedSimpArgs false
namespace Go.Proofs.YtpabgmdgoghahaaDoor
open Go.Sort Go.ChangeShapes Go.WideShapes Go.ChangeAt Go.RowKit
def rt (f t : ByteArray) (n d : Int) : Value := .agg #[.string f, .string t, .int .i64 n, .int .i64 d]
def pB (n : Int) : Bool := decide (1 ≤ n ∧ n ≤ 1099511627776)
def sB (f t : ByteArray) : Bool := curL f.data.toList && curL t.data.toList && !(f.toList == t.toList)
def chkR (f t : ByteArray) (n d : Int) : Int := if sB f t = false then 11 else if (pB n && pB d) = false then 4 else 0
theorem al {w W : World} {o : Obj} (h : Below w.heap.size w W) : Below w.heap.size w (W.alloc o) := h.alloc h.size o
theorem bre {w W : World} (h : Below w.heap.size w W) (d : Nat) (os : Array Obj) : Below w.heap.size w (grow (redrawn W d) os) := below_re h h.size d os
theorem part_any (n : Int) (w : World) : Calls Tryd.prog 31 #[.int .i64 n] w fun e w' => e = .returned (.bool (pB n)) ∧ w = w' := by
  by_cases h1 : 1 ≤ n
  · by_cases h2 : n ≤ 1099511627776
    · have h : pB n = true := decide_eq_true ⟨h1, h2⟩
      rw [h]; clear h
      go_enter Tryd.func31, Tryd.ntmps31
      go_wp2_with fail
      go_ret
      exact ⟨rfl, rfl⟩
    · have h : pB n = false := decide_eq_false (by omega)
      rw [h]; clear h
      go_enter Tryd.func31, Tryd.ntmps31
      go_wp2_with fail
      go_ret
      exact ⟨rfl, rfl⟩
  · have h : pB n = false := decide_eq_false (by omega)
    rw [h]; clear h
    go_enter Tryd.func31, Tryd.ntmps31
    go_wp2_with fail
    go_ret
    exact ⟨rfl, rfl⟩
set_option maxHeartbeats 1000000 in
theorem check_any (f t : ByteArray) (n d : Int) (w : World) (hf : f.size ≤ maxLen) (ht : t.size ≤ maxLen) :
    Calls Tryd.prog 13 #[rt f t n d] w fun e w' => e = .returned (.int .i64 (chkR f t n d)) ∧ Below w.heap.size w w' := by
  have h1 : ∀ w, Calls Tryd.prog 30 #[.string f] w fun e w' => e = .returned (.bool (curL f.data.toList)) ∧ w = w' := fun w => cur_any f w hf
  have h2 : ∀ w, Calls Tryd.prog 30 #[.string t] w fun e w' => e = .returned (.bool (curL t.data.toList)) ∧ w = w' := fun w => cur_any t w ht
  have h3 : ∀ w, Calls Tryd.prog 31 #[.int .i64 n] w fun e w' => e = .returned (.bool (pB n)) ∧ w = w' := fun w => part_any n w
  have h4 : ∀ w, Calls Tryd.prog 31 #[.int .i64 d] w fun e w' => e = .returned (.bool (pB d)) ∧ w = w' := fun w => part_any d w
  unfold chkR sB rt
  generalize curL f.data.toList = c1 at *
  generalize curL t.data.toList = c2 at *
  generalize pB n = p1 at *
  generalize pB d = p2 at *
  have H1 := Lib.hid h1
  have H2 := Lib.hid h2
  have H3 := Lib.hid h3
  have H4 := Lib.hid h4
  clear h1 h2 h3 h4
  cases heq : (f.toList == t.toList) <;> cases c1 <;> cases c2 <;> cases p1 <;> cases p2
  all_goals
    go_enter Tryd.func13, Tryd.ntmps13
    go_wp2_with fail
    refine (H1.out _).mono ?_
    rintro e w1 ⟨rfl, rfl⟩
    go_wp2_with fail
    first
      | (go_ret; exact ⟨rfl, al (Below.refl _ _)⟩)
      | (refine (H2.out _).mono ?_
         rintro e w1 ⟨rfl, rfl⟩
         go_wp2_with fail
         first
           | (go_ret; exact ⟨rfl, al (Below.refl _ _)⟩)
           | (refine (H3.out _).mono ?_
              rintro e w1 ⟨rfl, rfl⟩
              go_wp2_with fail
              first
                | (go_ret; exact ⟨rfl, al (Below.refl _ _)⟩)
                | (refine (H4.out _).mono ?_
                   rintro e w1 ⟨rfl, rfl⟩
                   go_wp2_with fail
                   go_ret
                   exact ⟨rfl, al (Below.refl _ _)⟩)))
set_option maxHeartbeats 1000000 in
theorem rcheck_any (f t : ByteArray) (n d : Int) (w : World) (hf : f.size ≤ maxLen) (ht : t.size ≤ maxLen) :
    Calls Tryd.prog 14 #[rt f t n d] w fun e w' => e = .returned (.int .i64 (chkR f t n d)) ∧ Below w.heap.size w w' := by
  have h1 : ∀ w, Calls Tryd.prog 32 #[.string f] w fun e w' => e = .returned (.bool (curL f.data.toList)) ∧ w = w' := fun w => rcur_any f w hf
  have h2 : ∀ w, Calls Tryd.prog 32 #[.string t] w fun e w' => e = .returned (.bool (curL t.data.toList)) ∧ w = w' := fun w => rcur_any t w ht
  unfold chkR sB rt
  generalize curL f.data.toList = c1 at *
  generalize curL t.data.toList = c2 at *
  have H1 := Lib.hid h1
  have H2 := Lib.hid h2
  clear h1 h2
  by_cases hs : (c1 && c2 && !(f.toList == t.toList)) = false
  · rw [if_pos hs]
    cases heq : (f.toList == t.toList) <;> cases c1 <;> cases c2
    all_goals (first | (exfalso; clear H1 H2; rw [heq] at hs; clear heq; revert hs; decide) | skip)
    all_goals
      clear hs
      go_enter Tryd.func14, Tryd.ntmps14
      go_wp2_with fail
      refine (H1.out _).mono ?_
      rintro e w1 ⟨rfl, rfl⟩
      go_wp2_with fail
      first
        | (go_ret; exact ⟨rfl, al (Below.refl _ _)⟩)
        | (refine (H2.out _).mono ?_
           rintro e w1 ⟨rfl, rfl⟩
           go_wp2_with fail
           go_ret
           exact ⟨rfl, al (Below.refl _ _)⟩)
  · rw [if_neg hs]
    obtain ⟨rfl, rfl, heq⟩ : c1 = true ∧ c2 = true ∧ (f.toList == t.toList) = false := by simpa using hs
    clear hs
    by_cases n1 : 1 ≤ n
    · by_cases n2 : n ≤ 1099511627776
      · have hp : pB n = true := decide_eq_true ⟨n1, n2⟩
        by_cases d1 : 1 ≤ d
        · by_cases d2 : d ≤ 1099511627776
          · have hq : pB d = true := decide_eq_true ⟨d1, d2⟩
            rw [hp, hq]; clear hp hq
            go_enter Tryd.func14, Tryd.ntmps14
            go_wp2_with fail
            refine (H1.out _).mono ?_
            rintro e w1 ⟨rfl, rfl⟩
            go_wp2_with fail
            refine (H2.out _).mono ?_
            rintro e w1 ⟨rfl, rfl⟩
            go_wp2_with fail
            go_ret; exact ⟨rfl, al (Below.refl _ _)⟩
          · have hq : pB d = false := decide_eq_false (by omega)
            rw [hp, hq]; clear hp hq
            go_enter Tryd.func14, Tryd.ntmps14
            go_wp2_with fail
            refine (H1.out _).mono ?_
            rintro e w1 ⟨rfl, rfl⟩
            go_wp2_with fail
            refine (H2.out _).mono ?_
            rintro e w1 ⟨rfl, rfl⟩
            go_wp2_with fail
            go_ret; exact ⟨rfl, al (Below.refl _ _)⟩
        · have hq : pB d = false := decide_eq_false (by omega)
          rw [hp, hq]; clear hp hq
          go_enter Tryd.func14, Tryd.ntmps14
          go_wp2_with fail
          refine (H1.out _).mono ?_
          rintro e w1 ⟨rfl, rfl⟩
          go_wp2_with fail
          refine (H2.out _).mono ?_
          rintro e w1 ⟨rfl, rfl⟩
          go_wp2_with fail
          go_ret; exact ⟨rfl, al (Below.refl _ _)⟩
      · have hp : pB n = false := decide_eq_false (by omega)
        rw [hp, Bool.false_and]; clear hp
        go_enter Tryd.func14, Tryd.ntmps14
        go_wp2_with fail
        refine (H1.out _).mono ?_
        rintro e w1 ⟨rfl, rfl⟩
        go_wp2_with fail
        refine (H2.out _).mono ?_
        rintro e w1 ⟨rfl, rfl⟩
        go_wp2_with fail
        go_ret; exact ⟨rfl, al (Below.refl _ _)⟩
    · have hp : pB n = false := decide_eq_false (by omega)
      rw [hp, Bool.false_and]; clear hp
      go_enter Tryd.func14, Tryd.ntmps14
      go_wp2_with fail
      refine (H1.out _).mono ?_
      rintro e w1 ⟨rfl, rfl⟩
      go_wp2_with fail
      refine (H2.out _).mono ?_
      rintro e w1 ⟨rfl, rfl⟩
      go_wp2_with fail
      go_ret; exact ⟨rfl, al (Below.refl _ _)⟩
end Go.Proofs.YtpabgmdgoghahaaDoor
