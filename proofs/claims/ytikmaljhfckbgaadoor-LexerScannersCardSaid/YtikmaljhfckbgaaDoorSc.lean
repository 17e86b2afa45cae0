/- Scanners of both: accept, Mark, Word, NewScanner. -/
import Derived.Test.YtikmaljhfckbgaaDoorSb
set_option linter.unusedVariables false
set_option linter.unusedSimpArgs false
namespace Go.Proofs.YtikmaljhfckbgaaDoor
open Go.Sort Go.ChangeShapes Go.WideShapes Go.ChangeAt Go.RowKit
theorem tl_ne {a b : ByteArray} (h : a ≠ b) : (a.toList == b.toList) = false := by
  rw [beq_eq_false_iff_ne]
  intro e
  rw [ByteArray.toList_eq, ByteArray.toList_eq] at e
  exact h (ls_ext e)
def acc (S : Sp) (k : Int) (m : ByteArray) : Bool := S.hd.k == k && decide (S.hd.t = m)
def acs (S : Sp) (k : Int) (m : ByteArray) : Sp := if acc S k m then S.tl else S
def APost (t : TypeId) (g q : Nat) (v : Value) (S : Sp) (k : Int) (m : ByteArray) (w : World) (e : Ending) (w' : World) : Prop := e = .returned (.bool (acc S k m)) ∧ ScP t g q w' v (acs S k m) ∧ Below g w w' ∧ Kp g w w'
set_option maxHeartbeats 2000000 in
set_option maxRecDepth 100000 in
theorem accept37_k (v : Value) (k K : Int) (m T : ByteArray) (V P : Int) (w : World) (h : (K != k) = true) (HP : Hid (∀ W, Below w.heap.size w W → Calls Tryd.prog 19 #[v] W fun e w' => e = .returned (lx K T V P) ∧ Below W.heap.size W w')) : Calls Tryd.prog 37 #[v, .int .i64 k, .string m] w fun e w' => e = .returned (.bool false) ∧ Below w.heap.size w w' := by
  go_enter Tryd.func37, Tryd.ntmps37
  go_wp2_with fail
  refine (HP.out _ (Below.refl _ _)).mono ?_
  rintro e w1 ⟨rfl, hb⟩
  have HB1 := Lib.hid hb
  clear hb
  go_wp2_with fail
  go_ret
  exact ⟨rfl, HB1.out.alloc HB1.out.size _⟩
set_option maxHeartbeats 2000000 in
set_option maxRecDepth 100000 in
theorem accept37_t (v : Value) (k : Int) (m T : ByteArray) (V P : Int) (w : World) (h : (T.toList == m.toList) = false) (HP : Hid (∀ W, Below w.heap.size w W → Calls Tryd.prog 19 #[v] W fun e w' => e = .returned (lx k T V P) ∧ Below W.heap.size W w')) : Calls Tryd.prog 37 #[v, .int .i64 k, .string m] w fun e w' => e = .returned (.bool false) ∧ Below w.heap.size w w' := by
  have hk : (k != k) = false := by simp
  go_enter Tryd.func37, Tryd.ntmps37
  go_wp2_with fail
  refine (HP.out _ (Below.refl _ _)).mono ?_
  rintro e w1 ⟨rfl, hb⟩
  have HB1 := Lib.hid hb
  clear hb
  go_wp2_with fail
  go_ret
  exact ⟨rfl, HB1.out.alloc HB1.out.size _⟩
set_option maxHeartbeats 2000000 in
set_option maxRecDepth 100000 in
theorem accept37_ok (g : Nat) (v Y : Value) (R : World → Prop) (k : Int) (m : ByteArray) (V P : Int) (w : World) (hg : g ≤ w.heap.size) (HP : Hid (∀ W, Below w.heap.size w W → Calls Tryd.prog 19 #[v] W fun e w' => e = .returned (lx k m V P) ∧ Below W.heap.size W w')) (HN : Hid (∀ W, Below w.heap.size w W → Calls Tryd.prog 21 #[v] W fun e w' => e = .returned Y ∧ R w' ∧ Below g W w' ∧ Kp g W w')) : Calls Tryd.prog 37 #[v, .int .i64 k, .string m] w fun e w' => e = .returned (.bool true) ∧ R w' ∧ Below g w w' ∧ Kp g w w' := by
  have hk : (k != k) = false := by simp
  have hm : (m.toList == m.toList) = true := by simp
  have HG := Lib.hid hg
  clear hg
  go_enter Tryd.func37, Tryd.ntmps37
  go_wp2_with fail
  refine (HP.out _ (Below.refl _ _)).mono ?_
  rintro e w1 ⟨rfl, hb⟩
  have HB1 := Lib.hid hb
  clear hb
  go_wp2_with fail
  refine (HN.out _ (HB1.out.alloc HB1.out.size _)).mono ?_
  rintro e w2 ⟨rfl, hr, hb2, hk2⟩
  have HR := Lib.hid hr
  have HB2 := Lib.hid (((HB1.out.alloc HB1.out.size _).mono HG.out).trans hb2)
  have HK2 := Lib.hid ((Kp.call (g := g) (HB1.out.alloc HB1.out.size _)).trans (HB1.out.alloc HB1.out.size _).size hk2)
  clear hr hb2 hk2
  go_wp2_with fail
  go_ret
  exact ⟨rfl, HR.out, HB2.out, HK2.out⟩
theorem accept37_any (g q : Nat) (v : Value) (S : Sp) (k : Int) (m : ByteArray) (w : World) (h : ScP 57 g q w v S) : Calls Tryd.prog 37 #[v, .int .i64 k, .string m] w (APost 57 g q v S k m w) := by
  have HP := Lib.hid (fun W hb => peek19_any g q v S W (h.call hb))
  have HN := Lib.hid (fun W hb => next21_any g q v S W (h.call hb))
  by_cases hk : S.hd.k = k
  · by_cases ht : S.hd.t = m
    · have ea : acc S k m = true := by unfold acc; rw [hk, ht]; simp
      have es : acs S k m = S.tl := by unfold acs; rw [ea]; rfl
      unfold APost
      rw [ea, es]
      refine accept37_ok g v S.hd.val (fun w' => ScP 57 g q w' v S.tl) k m S.hd.v S.hd.p w h.1 (Lib.hid fun W hb => ?_) HN
      have := HP.out W hb
      rw [Lx.val, hk, ht] at this
      exact this
    · have ea : acc S k m = false := by unfold acc; rw [hk, decide_eq_false ht, Bool.and_false]
      have es : acs S k m = S := by unfold acs; rw [ea]; rfl
      unfold APost
      rw [ea, es]
      refine (accept37_t v k m S.hd.t S.hd.v S.hd.p w (tl_ne ht) (Lib.hid fun W hb => ?_)).mono ?_
      · have := HP.out W hb
        rw [Lx.val, hk] at this
        exact this
      · rintro e w' ⟨rfl, hb⟩
        exact ⟨rfl, h.call hb, hb.mono h.1, Kp.call hb⟩
  · have ea : acc S k m = false := by unfold acc; rw [beq_eq_false_iff_ne.2 hk, Bool.false_and]
    have es : acs S k m = S := by unfold acs; rw [ea]; rfl
    unfold APost
    rw [ea, es]
    refine (accept37_k v k S.hd.k m S.hd.t S.hd.v S.hd.p w (by rw [bne, beq_eq_false_iff_ne.2 hk]; rfl) HP).mono ?_
    rintro e w' ⟨rfl, hb⟩
    exact ⟨rfl, h.call hb, hb.mono h.1, Kp.call hb⟩
set_option maxHeartbeats 2000000 in
set_option maxRecDepth 100000 in
theorem accept38_k (v : Value) (k K : Int) (m T : ByteArray) (V P : Int) (w : World) (h : (K != k) = true) (HP : Hid (∀ W, Below w.heap.size w W → Calls Tryd.prog 20 #[v] W fun e w' => e = .returned (lx K T V P) ∧ Below W.heap.size W w')) : Calls Tryd.prog 38 #[v, .int .i64 k, .string m] w fun e w' => e = .returned (.bool false) ∧ Below w.heap.size w w' := by
  go_enter Tryd.func38, Tryd.ntmps38
  go_wp2_with fail
  refine (HP.out _ (Below.refl _ _)).mono ?_
  rintro e w1 ⟨rfl, hb⟩
  have HB1 := Lib.hid hb
  clear hb
  go_wp2_with fail
  go_ret
  exact ⟨rfl, HB1.out.alloc HB1.out.size _⟩
set_option maxHeartbeats 2000000 in
set_option maxRecDepth 100000 in
theorem accept38_t (v : Value) (k : Int) (m T : ByteArray) (V P : Int) (w : World) (h : (T.toList == m.toList) = false) (HP : Hid (∀ W, Below w.heap.size w W → Calls Tryd.prog 20 #[v] W fun e w' => e = .returned (lx k T V P) ∧ Below W.heap.size W w')) : Calls Tryd.prog 38 #[v, .int .i64 k, .string m] w fun e w' => e = .returned (.bool false) ∧ Below w.heap.size w w' := by
  have hk : (k != k) = false := by simp
  go_enter Tryd.func38, Tryd.ntmps38
  go_wp2_with fail
  refine (HP.out _ (Below.refl _ _)).mono ?_
  rintro e w1 ⟨rfl, hb⟩
  have HB1 := Lib.hid hb
  clear hb
  go_wp2_with fail
  go_ret
  exact ⟨rfl, HB1.out.alloc HB1.out.size _⟩
set_option maxHeartbeats 2000000 in
set_option maxRecDepth 100000 in
theorem accept38_ok (g : Nat) (v Y : Value) (R : World → Prop) (k : Int) (m : ByteArray) (V P : Int) (w : World) (hg : g ≤ w.heap.size) (HP : Hid (∀ W, Below w.heap.size w W → Calls Tryd.prog 20 #[v] W fun e w' => e = .returned (lx k m V P) ∧ Below W.heap.size W w')) (HN : Hid (∀ W, Below w.heap.size w W → Calls Tryd.prog 22 #[v] W fun e w' => e = .returned Y ∧ R w' ∧ Below g W w' ∧ Kp g W w')) : Calls Tryd.prog 38 #[v, .int .i64 k, .string m] w fun e w' => e = .returned (.bool true) ∧ R w' ∧ Below g w w' ∧ Kp g w w' := by
  have hk : (k != k) = false := by simp
  have hm : (m.toList == m.toList) = true := by simp
  have HG := Lib.hid hg
  clear hg
  go_enter Tryd.func38, Tryd.ntmps38
  go_wp2_with fail
  refine (HP.out _ (Below.refl _ _)).mono ?_
  rintro e w1 ⟨rfl, hb⟩
  have HB1 := Lib.hid hb
  clear hb
  go_wp2_with fail
  refine (HN.out _ (HB1.out.alloc HB1.out.size _)).mono ?_
  rintro e w2 ⟨rfl, hr, hb2, hk2⟩
  have HR := Lib.hid hr
  have HB2 := Lib.hid (((HB1.out.alloc HB1.out.size _).mono HG.out).trans hb2)
  have HK2 := Lib.hid ((Kp.call (g := g) (HB1.out.alloc HB1.out.size _)).trans (HB1.out.alloc HB1.out.size _).size hk2)
  clear hr hb2 hk2
  go_wp2_with fail
  go_ret
  exact ⟨rfl, HR.out, HB2.out, HK2.out⟩
theorem accept38_any (g q : Nat) (v : Value) (S : Sp) (k : Int) (m : ByteArray) (w : World) (h : ScP 59 g q w v S) : Calls Tryd.prog 38 #[v, .int .i64 k, .string m] w (APost 59 g q v S k m w) := by
  have HP := Lib.hid (fun W hb => peek20_any g q v S W (h.call hb))
  have HN := Lib.hid (fun W hb => next22_any g q v S W (h.call hb))
  by_cases hk : S.hd.k = k
  · by_cases ht : S.hd.t = m
    · have ea : acc S k m = true := by unfold acc; rw [hk, ht]; simp
      have es : acs S k m = S.tl := by unfold acs; rw [ea]; rfl
      unfold APost
      rw [ea, es]
      refine accept38_ok g v S.hd.val (fun w' => ScP 59 g q w' v S.tl) k m S.hd.v S.hd.p w h.1 (Lib.hid fun W hb => ?_) HN
      have := HP.out W hb
      rw [Lx.val, hk, ht] at this
      exact this
    · have ea : acc S k m = false := by unfold acc; rw [hk, decide_eq_false ht, Bool.and_false]
      have es : acs S k m = S := by unfold acs; rw [ea]; rfl
      unfold APost
      rw [ea, es]
      refine (accept38_t v k m S.hd.t S.hd.v S.hd.p w (tl_ne ht) (Lib.hid fun W hb => ?_)).mono ?_
      · have := HP.out W hb
        rw [Lx.val, hk] at this
        exact this
      · rintro e w' ⟨rfl, hb⟩
        exact ⟨rfl, h.call hb, hb.mono h.1, Kp.call hb⟩
  · have ea : acc S k m = false := by unfold acc; rw [beq_eq_false_iff_ne.2 hk, Bool.false_and]
    have es : acs S k m = S := by unfold acs; rw [ea]; rfl
    unfold APost
    rw [ea, es]
    refine (accept38_k v k S.hd.k m S.hd.t S.hd.v S.hd.p w (by rw [bne, beq_eq_false_iff_ne.2 hk]; rfl) HP).mono ?_
    rintro e w' ⟨rfl, hb⟩
    exact ⟨rfl, h.call hb, hb.mono h.1, Kp.call hb⟩
set_option maxHeartbeats 2000000 in
set_option maxRecDepth 100000 in
theorem say23_any (g q : Nat) (v : Value) (S : Sp) (m : ByteArray) (w : World) (h : ScP 57 g q w v S) : Calls Tryd.prog 23 #[v, .string m] w (APost 57 g q v S 4 m w) := by
  have HA := Lib.hid (accept37_any g q v S 4 m w h)
  clear h
  unfold APost at HA ⊢
  generalize acs S 4 m = S2 at *
  generalize acc S 4 m = B at *
  go_enter Tryd.func23, Tryd.ntmps23
  go_wp2_with fail
  refine HA.out.mono ?_
  rintro e w1 ⟨rfl, h1, h2, h3⟩
  have H := Lib.hid (And.intro h1 (And.intro h2 h3))
  clear h1 h2 h3
  go_wp2_with fail
  go_ret
  exact ⟨rfl, H.out.1, H.out.2.1, H.out.2.2⟩
set_option maxHeartbeats 2000000 in
set_option maxRecDepth 100000 in
theorem say24_any (g q : Nat) (v : Value) (S : Sp) (m : ByteArray) (w : World) (h : ScP 59 g q w v S) : Calls Tryd.prog 24 #[v, .string m] w (APost 59 g q v S 4 m w) := by
  have HA := Lib.hid (accept38_any g q v S 4 m w h)
  clear h
  unfold APost at HA ⊢
  generalize acs S 4 m = S2 at *
  generalize acc S 4 m = B at *
  go_enter Tryd.func24, Tryd.ntmps24
  go_wp2_with fail
  refine HA.out.mono ?_
  rintro e w1 ⟨rfl, h1, h2, h3⟩
  have H := Lib.hid (And.intro h1 (And.intro h2 h3))
  clear h1 h2 h3
  go_wp2_with fail
  go_ret
  exact ⟨rfl, H.out.1, H.out.2.1, H.out.2.2⟩
set_option maxHeartbeats 2000000 in
set_option maxRecDepth 100000 in
theorem say25_any (g q : Nat) (v : Value) (S : Sp) (m : ByteArray) (w : World) (h : ScP 57 g q w v S) : Calls Tryd.prog 25 #[v, .string m] w (APost 57 g q v S 1 m w) := by
  have HA := Lib.hid (accept37_any g q v S 1 m w h)
  clear h
  unfold APost at HA ⊢
  generalize acs S 1 m = S2 at *
  generalize acc S 1 m = B at *
  go_enter Tryd.func25, Tryd.ntmps25
  go_wp2_with fail
  refine HA.out.mono ?_
  rintro e w1 ⟨rfl, h1, h2, h3⟩
  have H := Lib.hid (And.intro h1 (And.intro h2 h3))
  clear h1 h2 h3
  go_wp2_with fail
  go_ret
  exact ⟨rfl, H.out.1, H.out.2.1, H.out.2.2⟩
set_option maxHeartbeats 2000000 in
set_option maxRecDepth 100000 in
theorem say26_any (g q : Nat) (v : Value) (S : Sp) (m : ByteArray) (w : World) (h : ScP 59 g q w v S) : Calls Tryd.prog 26 #[v, .string m] w (APost 59 g q v S 1 m w) := by
  have HA := Lib.hid (accept38_any g q v S 1 m w h)
  clear h
  unfold APost at HA ⊢
  generalize acs S 1 m = S2 at *
  generalize acc S 1 m = B at *
  go_enter Tryd.func26, Tryd.ntmps26
  go_wp2_with fail
  refine HA.out.mono ?_
  rintro e w1 ⟨rfl, h1, h2, h3⟩
  have H := Lib.hid (And.intro h1 (And.intro h2 h3))
  clear h1 h2 h3
  go_wp2_with fail
  go_ret
  exact ⟨rfl, H.out.1, H.out.2.1, H.out.2.2⟩
theorem lay_of {w : World} {a : Option Addr} {x : Lx} {r : List Lx} (h : LxO w a (x :: r)) : ∃ q o, a = some ⟨q, o, none⟩ ∧ q < w.heap.size ∧ Lay w q o (x :: r) := by
  obtain ⟨q, o, rfl, hq, _⟩ := h 0 (by rw [List.length_cons]; omega)
  refine ⟨q, o, rfl, hq, fun i hi => ?_⟩
  obtain ⟨q', o', e, _, c⟩ := h i hi
  injection e with e
  injection e with e1 e2
  subst e1 e2
  exact c
/-- a list's block lies where its call put it -/
theorem own_ge {w : World} {B n : Nat} {a : Option Addr} {c : Nat} {l : List Value} {q o : Nat} (h : w.ownsRow B 30 4 (.slice a n c) n l) (ha : a = some ⟨q, o, none⟩) : B ≤ q := by
  subst ha
  obtain ⟨_, ⟨e, _⟩ | ⟨g, cp, cur, e, hb, _⟩⟩ := h
  · cases e
  · cases e; exact hb
set_option maxHeartbeats 2000000 in
set_option maxRecDepth 100000 in
theorem new17_bad (s : ByteArray) (E p : Int) (w : World) (hE : (E != 0) = true) (HS : Hid (Calls Tryd.prog 10 #[.string s] w (SPost w.heap.size w ⟨[], E, p⟩))) : Calls Tryd.prog 17 #[.string s] w fun e w' => e = .returned (.tuple #[.pointer none, .int .i64 E, .int .i64 p]) ∧ Below w.heap.size w w' := by
  go_enter Tryd.func17, Tryd.ntmps17
  go_wp2_with fail
  refine HS.out.mono ?_
  rintro e w1 ⟨v1, rfl, o1, b1⟩
  have HB1 := Lib.hid b1
  clear o1 b1
  go_wp2_with fail
  exact bodyPost_ret (v := .tuple #[.pointer none, .int .i64 E, .int .i64 p]) (by simp [results, Tryd.results17, go_sem]) rfl ⟨rfl, HB1.out⟩
set_option maxHeartbeats 2000000 in
set_option maxRecDepth 100000 in
theorem new17_ok (s : ByteArray) (x : Lx) (r : List Lx) (p : Int) (hl : r.length + 1 ≤ 5000) (w : World) (HS : Hid (Calls Tryd.prog 10 #[.string s] w (SPost w.heap.size w ⟨x :: r, 0, p⟩))) : Calls Tryd.prog 17 #[.string s] w fun e w' => ∃ g q, e = .returned (.tuple #[.pointer (some ⟨g, 0, none⟩), .int .i64 0, .int .i64 0]) ∧ w.heap.size ≤ g ∧ w.heap.size ≤ q ∧ g < w'.heap.size ∧ q < w'.heap.size ∧ ScP 57 g q w' (.pointer (some ⟨g, 0, none⟩)) (some (x, r)) ∧ Below w.heap.size w w' := by
  have HLen := Lib.hid hl
  go_enter Tryd.func17, Tryd.ntmps17
  go_wp2_with fail
  refine HS.out.mono ?_
  rintro e w1 ⟨v1, rfl, o1, b1⟩
  obtain ⟨a, ca, rfl, ha1, ha2, L1⟩ := lxO_of (lxAt_of rfl o1)
  obtain ⟨q, o, rfl, hq, hL⟩ := lay_of L1
  have HQ := Lib.hid (own_ge (q := q) (o := o) o1 rfl)
  have HB1 := Lib.hid b1
  have HL := Lib.hid hL
  have HQL := Lib.hid hq
  have HA1 := Lib.hid ha1
  have HA2 := Lib.hid ha2
  clear o1 b1 L1 hL hq ha1 ha2
  dsimp only [List.length_cons] at HA1 ⊢
  go_wp2_with fail
  refine bodyPost_ret (v := .tuple #[.pointer (some ⟨w1.heap.size, 0, none⟩), .int .i64 0, .int .i64 0]) (by simp [results, Tryd.results17, go_sem]) rfl ?_
  have hlt := HQL.out
  refine ⟨w1.heap.size, q, rfl, HB1.out.size, HQ.out, by simp, by simp; omega, ⟨by simp, rfl, o, ca, Nat.ne_of_lt hlt, by simp; omega, Blk.new _ _ _, HA1.out, HA2.out, HLen.out, HL.out.keep (Below.heap_alloc _ _ _ hlt)⟩, HB1.out.alloc HB1.out.size _⟩
set_option maxHeartbeats 2000000 in
set_option maxRecDepth 100000 in
theorem new18_bad (s : ByteArray) (E p : Int) (w : World) (hE : (E != 0) = true) (HS : Hid (Calls Tryd.prog 11 #[.string s] w (SPost w.heap.size w ⟨[], E, p⟩))) : Calls Tryd.prog 18 #[.string s] w fun e w' => e = .returned (.tuple #[.pointer none, .int .i64 E, .int .i64 p]) ∧ Below w.heap.size w w' := by
  go_enter Tryd.func18, Tryd.ntmps18
  go_wp2_with fail
  refine HS.out.mono ?_
  rintro e w1 ⟨v1, rfl, o1, b1⟩
  have HB1 := Lib.hid b1
  clear o1 b1
  go_wp2_with fail
  exact bodyPost_ret (v := .tuple #[.pointer none, .int .i64 E, .int .i64 p]) (by simp [results, Tryd.results18, go_sem]) rfl ⟨rfl, HB1.out⟩
set_option maxHeartbeats 2000000 in
set_option maxRecDepth 100000 in
theorem new18_ok (s : ByteArray) (x : Lx) (r : List Lx) (p : Int) (hl : r.length + 1 ≤ 5000) (w : World) (HS : Hid (Calls Tryd.prog 11 #[.string s] w (SPost w.heap.size w ⟨x :: r, 0, p⟩))) : Calls Tryd.prog 18 #[.string s] w fun e w' => ∃ g q, e = .returned (.tuple #[.pointer (some ⟨g, 0, none⟩), .int .i64 0, .int .i64 0]) ∧ w.heap.size ≤ g ∧ w.heap.size ≤ q ∧ g < w'.heap.size ∧ q < w'.heap.size ∧ ScP 59 g q w' (.pointer (some ⟨g, 0, none⟩)) (some (x, r)) ∧ Below w.heap.size w w' := by
  have HLen := Lib.hid hl
  go_enter Tryd.func18, Tryd.ntmps18
  go_wp2_with fail
  refine HS.out.mono ?_
  rintro e w1 ⟨v1, rfl, o1, b1⟩
  obtain ⟨a, ca, rfl, ha1, ha2, L1⟩ := lxO_of (lxAt_of rfl o1)
  obtain ⟨q, o, rfl, hq, hL⟩ := lay_of L1
  have HQ := Lib.hid (own_ge (q := q) (o := o) o1 rfl)
  have HB1 := Lib.hid b1
  have HL := Lib.hid hL
  have HQL := Lib.hid hq
  have HA1 := Lib.hid ha1
  have HA2 := Lib.hid ha2
  clear o1 b1 L1 hL hq ha1 ha2
  dsimp only [List.length_cons] at HA1 ⊢
  go_wp2_with fail
  refine bodyPost_ret (v := .tuple #[.pointer (some ⟨w1.heap.size, 0, none⟩), .int .i64 0, .int .i64 0]) (by simp [results, Tryd.results18, go_sem]) rfl ?_
  have hlt := HQL.out
  refine ⟨w1.heap.size, q, rfl, HB1.out.size, HQ.out, by simp, by simp; omega, ⟨by simp, rfl, o, ca, Nat.ne_of_lt hlt, by simp; omega, Blk.new _ _ _, HA1.out, HA2.out, HLen.out, HL.out.keep (Below.heap_alloc _ _ _ hlt)⟩, HB1.out.alloc HB1.out.size _⟩
end Go.Proofs.YtikmaljhfckbgaaDoor
