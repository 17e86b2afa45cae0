/- The chapter's example holds. -/
import Derived.Test.YtellajpjhhamhaaH
set_option linter.unusedVariables false
set_option linter.unusedSimpArgs false
namespace Go.Proofs.Ytellajpjhhamhaa
open Go.ChangeShapes Go.WideShapes Go.ChangeAt Go.RowKit
/-- what a call at the card leaves: the card's block, and what lies below it -/
def Stays (w w' : World) (g : Nat) (cs : Array Value) : Prop := Blk w' g 57 cs ∧ (∀ B, B ≤ g → B ≤ w.heap.size → Below B w w') ∧ Kp g w w'
theorem Stays.of_below {w w' : World} {g : Nat} {cs : Array Value} (h : Blk w g 57 cs) (hb : Below w.heap.size w w') : Stays w w' g cs := ⟨h.call hb, fun _ _ q => hb.mono q, Kp.call hb⟩
theorem do_stay (nm : ByteArray) (ex st la lc : Int) (k : Bool) (d a c : Int) (g : Nat) (ev : Int) (w : World) (h : Blk w g 57 (cc nm ex st la lc k d a c)) :
    Calls Try.prog 20 #[.pointer (some ⟨g, 0, none⟩), .int .i64 ev] w fun e w' => e = .returned (.int .i64 (nxE st ev)) ∧ Stays w w' g (cc nm ex (if nxE st ev = 0 then nxS st ev else st) la lc k d a c) :=
  (do_any nm ex st la lc k d a c g ev w h).mono fun e w' ⟨he, hw⟩ => by
    refine ⟨he, ?_⟩
    by_cases h0 : nxE st ev = 0
    · rw [if_pos h0] at hw ⊢
      subst hw
      refine ⟨?_, fun B q1 q2 => (Below.refl B w).setCell (p := ⟨g, 2, none⟩) q1 _, (Kp.refl g w).set (p := ⟨g, 2, none⟩) rfl _⟩
      have kk := h.set_ 2 (.int .i64 (nxS st ev))
      rwa [show (cc nm ex st la lc k d a c).setIfInBounds 2 (.int .i64 (nxS st ev)) = cc nm ex (nxS st ev) la lc k d a c from by simp [cc]] at kk
    · rw [if_neg h0] at hw ⊢
      subst hw
      exact ⟨h, fun B _ _ => Below.refl B _, Kp.refl _ _⟩
theorem use_yes_stay (nm : ByteArray) (ex st la lc : Int) (k : Bool) (d a c : Int) (g : Nat) (day am : Int) (w : World) (h : Blk w g 57 (cc nm ex st la lc k d a c))
    (ha : 0 ≤ a ∧ a ≤ 999999999999) (hc : 0 ≤ c ∧ c ≤ 1000) (hE : useE st ex la lc k d a c day am = 0) (A C : Int) (hA : dayA k d day a + am = A) (hC : dayA k d day c + 1 = C) :
    Calls Try.prog 21 #[.pointer (some ⟨g, 0, none⟩), .int .i64 day, .int .i64 am] w fun e w' => e = .returned (.int .i64 0) ∧ Stays w w' g (cc nm ex st la lc true day A C) := by
  subst hA hC
  exact use_yes nm ex st la lc k d a c g day am w h ha hc hE
theorem use_no_stay (nm : ByteArray) (ex st la lc : Int) (k : Bool) (d a c : Int) (g : Nat) (day am : Int) (w : World) (h : Blk w g 57 (cc nm ex st la lc k d a c))
    (ha : 0 ≤ a ∧ a ≤ 999999999999) (hc : 0 ≤ c ∧ c ≤ 1000) (E : Int) (hE : useE st ex la lc k d a c day am = E) (h0 : E ≠ 0) :
    Calls Try.prog 21 #[.pointer (some ⟨g, 0, none⟩), .int .i64 day, .int .i64 am] w fun e w' => e = .returned (.int .i64 E) ∧ Stays w w' g (cc nm ex st la lc k d a c) :=
  (use_no nm ex st la lc k d a c g day am w h ha hc E hE h0).mono fun _ _ ⟨he, hb⟩ => ⟨he, Stays.of_below h hb⟩
theorem used_stay (nm : ByteArray) (ex st la lc : Int) (k : Bool) (d a c : Int) (g : Nat) (day : Int) (w : World) (h : Blk w g 57 (cc nm ex st la lc k d a c)) (A C : Int) (hA : dayA k d day a = A) (hC : dayA k d day c = C) :
    Calls Try.prog 22 #[.pointer (some ⟨g, 0, none⟩), .int .i64 day] w fun e w' => e = .returned (.tuple #[.int .i64 A, .int .i64 C]) ∧ Stays w w' g (cc nm ex st la lc k d a c) := by
  subst hA hC
  exact (used_any nm ex st la lc k d a c g day w h).mono fun _ _ ⟨he, hb⟩ => ⟨he, Stays.of_below h hb⟩
theorem undo_ok_stay (nm : ByteArray) (ex st la lc : Int) (d a c : Int) (g : Nat) (am : Int) (w : World) (h : Blk w g 57 (cc nm ex st la lc true d a c)) (h1 : 0 ≤ am ∧ am ≤ 999999999999)
    (hA : am ≤ a ∧ a ≤ 999999999999) (hC : 0 < c ∧ c ≤ 1000) (A C : Int) (qA : a - am = A) (qC : c - 1 = C) :
    Calls Try.prog 23 #[.pointer (some ⟨g, 0, none⟩), .int .i64 d, .int .i64 am] w fun e w' => e = .returned (.int .i64 0) ∧ Stays w w' g (cc nm ex st la lc true d A C) := by
  subst qA qC
  exact undo_ok nm ex st la lc d a c g am w h h1 hA hC
theorem undo_past_stay (nm : ByteArray) (ex st la lc : Int) (k : Bool) (d a c : Int) (g : Nat) (day am : Int) (w : World) (h : Blk w g 57 (cc nm ex st la lc k d a c)) (h1 : 0 ≤ am ∧ am ≤ 999999999999) (hp : (k && decide (day < d)) = true) :
    Calls Try.prog 23 #[.pointer (some ⟨g, 0, none⟩), .int .i64 day, .int .i64 am] w fun e w' => e = .returned (.int .i64 14) ∧ Stays w w' g (cc nm ex st la lc k d a c) :=
  (undo_past nm ex st la lc k d a c g day am w h h1 hp).mono fun _ _ ⟨he, hb⟩ => ⟨he, by subst hb; exact Stays.of_below h (Below.refl _ _)⟩
theorem undo_none_stay (nm : ByteArray) (ex st la lc : Int) (k : Bool) (d a c : Int) (g : Nat) (day am : Int) (w : World) (h : Blk w g 57 (cc nm ex st la lc k d a c)) (h1 : 0 ≤ am ∧ am ≤ 999999999999) (hp : (k && decide (day < d)) = false)
    (h2 : dayA k d day c = 0 ∨ dayA k d day a < am) :
    Calls Try.prog 23 #[.pointer (some ⟨g, 0, none⟩), .int .i64 day, .int .i64 am] w fun e w' => e = .returned (.int .i64 6) ∧ Stays w w' g (cc nm ex st la lc k d a c) :=
  (undo_none nm ex st la lc k d a c g day am w h h1 hp h2).mono fun _ _ ⟨he, hb⟩ => ⟨he, Stays.of_below h hb⟩
theorem new_stay (ex am cn : Int) (w : World) (h1 : 0 ≤ ex ∧ ex ≤ 99999) (h2 : 0 ≤ am ∧ am ≤ 999999999999) (h3 : 0 ≤ cn) (h4 : cn ≤ 1000) :
    Calls Try.prog 9 #[.string smp, .int .i64 ex, .int .i64 am, .int .i64 cn] w fun e w' => ∃ g, e = .returned (.tuple #[.pointer (some ⟨g, 0, none⟩), .int .i64 0]) ∧ w.heap.size ≤ g ∧ Below w.heap.size w w' ∧ Blk w' g 57 (cc smp ex 1 am cn false 0 0 0) :=
  (new_s ex am cn w h1 h2 h3 h4).mono fun e w' ⟨w1, he, hb, hw⟩ => by subst hw; exact ⟨w1.heap.size, he, hb.size, hb.alloc hb.size _, Blk.new _ _ _⟩
theorem Stays.go {w w1 w2 : World} {g : Nat} {cs : Array Value} (hg : w.heap.size ≤ g) (hb : Below w.heap.size w w1) (h : Stays w1 w2 g cs) : Below w.heap.size w w2 := hb.trans (h.2.1 _ hg hb.size)
set_option maxHeartbeats 1000000 in
theorem awake_any (w : World) : Calls Try.prog 8 #[] w fun e w' => e = .returned (.bool true) ∧ Below w.heap.size w w' := by
  go_enter Try.func8, Try.ntmps8
  go_wp2_with fail
  refine (new_stay _ _ _ _ (by decide) (by decide) (by decide) (by decide)).mono ?_
  rintro e w1 ⟨g, rfl, hg, hb, hk⟩
  have B1 := Lib.hid hb
  have K1 := Lib.hid hk
  clear hb hk
  go_wp2_with fail
  refine (do_stay _ _ _ _ _ _ _ _ _ g 1 w1 K1.out).mono ?_
  rintro e w2 ⟨rfl, hs⟩
  have B2 := Lib.hid (hs.go hg B1.out)
  have K2 : Blk w2 g 57 (cc smp 100 2 1000 2 false 0 0 0) := hs.1
  clear hs
  rw [show nxE 1 1 = 0 from by decide]
  go_wp2_with fail
  refine (use_yes_stay smp 100 2 1000 2 false 0 0 0 g 10 600 w2 K2 (by decide) (by decide) (by decide) 600 1 (by decide) (by decide)).mono ?_
  rintro e w3 ⟨rfl, hs⟩
  have B3 := Lib.hid (hs.go hg B2.out)
  have K3 := Lib.hid hs.1
  clear hs
  go_wp2_with fail
  refine (use_yes_stay smp 100 2 1000 2 true 10 600 1 g 10 400 w3 K3.out (by decide) (by decide) (by decide) 1000 2 (by decide) (by decide)).mono ?_
  rintro e w4 ⟨rfl, hs⟩
  have B4 := Lib.hid (hs.go hg B3.out)
  have K4 := Lib.hid hs.1
  clear hs
  go_wp2_with fail
  refine (use_no_stay smp 100 2 1000 2 true 10 1000 2 g 10 0 w4 K4.out (by decide) (by decide) 10 (by decide) (by decide)).mono ?_
  rintro e w5 ⟨rfl, hs⟩
  have B5 := Lib.hid (hs.go hg B4.out)
  have K5 := Lib.hid hs.1
  clear hs
  go_wp2_with fail
  refine (undo_ok_stay smp 100 2 1000 2 10 1000 2 g 400 w5 K5.out (by decide) (by decide) (by decide) 600 1 (by decide) (by decide)).mono ?_
  rintro e w6 ⟨rfl, hs⟩
  have B6 := Lib.hid (hs.go hg B5.out)
  have K6 := Lib.hid hs.1
  clear hs
  go_wp2_with fail
  refine (used_stay smp 100 2 1000 2 true 10 600 1 g 10 w6 K6.out 600 1 (by decide) (by decide)).mono ?_
  rintro e w7 ⟨rfl, hs⟩
  have B7 := Lib.hid (hs.go hg B6.out)
  have K7 := Lib.hid hs.1
  clear hs
  go_wp2_with fail
  refine (use_yes_stay smp 100 2 1000 2 true 10 600 1 g 11 1000 w7 K7.out (by decide) (by decide) (by decide) 1000 1 (by decide) (by decide)).mono ?_
  rintro e w8 ⟨rfl, hs⟩
  have B8 := Lib.hid (hs.go hg B7.out)
  have K8 := Lib.hid hs.1
  clear hs
  go_wp2_with fail
  refine (use_no_stay smp 100 2 1000 2 true 11 1000 1 g 10 1 w8 K8.out (by decide) (by decide) 14 (by decide) (by decide)).mono ?_
  rintro e w9 ⟨rfl, hs⟩
  have B9 := Lib.hid (hs.go hg B8.out)
  have K9 := Lib.hid hs.1
  clear hs
  go_wp2_with fail
  refine (undo_past_stay smp 100 2 1000 2 true 11 1000 1 g 10 1 w9 K9.out (by decide) (by decide)).mono ?_
  rintro e w10 ⟨rfl, hs⟩
  have B10 := Lib.hid (hs.go hg B9.out)
  clear hs
  go_wp2_with fail
  go_ret
  exact ⟨rfl, B10.out⟩
end Go.Proofs.Ytellajpjhhamhaa
