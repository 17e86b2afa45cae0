/- Check, Add, Sub and Cmp of both. -/
import Derived.Test.YtompeealmgdfhaaDoorP
set_option linter.unusedVariables false
set_option linter.unusedSimpArgs false
namespace Go.Proofs.YtompeealmgdfhaaDoor
open Go.Sort Go.ChangeShapes Go.WideShapes Go.ChangeAt Go.RowKit
open div
theorem mcheck_any (a : Int) (c : ByteArray) (hc : c.size ≤ maxLen) (w : World) :
    Calls Tryd.prog 16 #[mo a c] w fun e w' => e = .returned (.int .i64 (mchk a c)) ∧ Below w.heap.size w w' := by
  unfold mchk
  cases h : curL c.data.toList
  · exact mcheck_no a c hc h w
  · rw [if_neg (by simp)]
    by_cases h2 : -4503599627370496 ≤ a ∧ a ≤ 4503599627370496
    · rw [if_pos h2]; exact mcheck_ok a c hc h h2.1 h2.2 w
    · rw [if_neg h2]; exact mcheck_far a c hc h (by omega) w
theorem mchk_zero {a : Int} {c : ByteArray} (h : mchk a c = 0) : curL c.data.toList = true ∧ -4503599627370496 ≤ a ∧ a ≤ 4503599627370496 := by
  unfold mchk at h
  split at h
  · cases h
  · rename_i h1
    split at h
    · rename_i h2; exact ⟨by simpa using h1, h2⟩
    · cases h
theorem mchk_of {a : Int} {c : ByteArray} (h : curL c.data.toList = true) : mchk a c = if -4503599627370496 ≤ a ∧ a ≤ 4503599627370496 then 0 else 4 := by
  unfold mchk; rw [if_neg (by rw [h]; decide)]
/-- the first error of two amounts -/
def chk2 (x y : Int) (c d : ByteArray) : Int := if (x == 0) = true then if (y == 0) = true then if (c.toList == d.toList) = true then 0 else 11 else y else x
theorem toList_inj {a b : ByteArray} (h : a.toList = b.toList) : a = b := by
  rw [ByteArray.toList_eq, ByteArray.toList_eq] at h
  exact ByteArray.ext (Array.toList_inj.1 h)
set_option maxHeartbeats 1000000 in
theorem both_any (a b : Int) (c d : ByteArray) (hc : c.size ≤ maxLen) (hd : d.size ≤ maxLen) (w : World) :
    Calls Tryd.prog 29 #[mo a c, mo b d] w fun e w' => e = .returned (.int .i64 (chk2 (mchk a c) (mchk b d) c d)) ∧ Below w.heap.size w w' := by
  have HA := Lib.hid (fun w => mcheck_any a c hc w)
  have HB := Lib.hid (fun w => mcheck_any b d hd w)
  unfold chk2 mo at *
  generalize mchk a c = x at *
  generalize mchk b d = y at *
  clear hc hd
  cases hx : (x == 0)
  · rw [if_neg (by simp)]
    have hx2 : (x != 0) = true := by rw [bne, hx]; rfl
    go_enter Tryd.func29, Tryd.ntmps29
    go_wp2_with fail
    refine (HA.out _).mono ?_
    rintro e w1 ⟨rfl, hb⟩
    obtain ⟨d1, o1, rfl⟩ := regrow_of hb
    clear hb
    go_wp2_with fail
    go_ret
    exact ⟨rfl, by repeat (first | exact Below.refl _ _ | refine al ?_ | refine bre ?_ _ _)⟩
  · rw [if_pos rfl]
    have hx2 : (x != 0) = false := by rw [bne, hx]; rfl
    have hx0 : x = 0 := by simpa using hx
    subst hx0
    cases hy : (y == 0)
    · rw [if_neg (by simp)]
      have hy2 : (y != 0) = true := by rw [bne, hy]; rfl
      go_enter Tryd.func29, Tryd.ntmps29
      go_wp2_with fail
      refine (HA.out _).mono ?_
      rintro e w1 ⟨rfl, hb⟩
      obtain ⟨d1, o1, rfl⟩ := regrow_of hb
      clear hb
      go_wp2_with fail
      refine (HB.out _).mono ?_
      rintro e w2 ⟨rfl, hb⟩
      obtain ⟨d2, o2, rfl⟩ := regrow_of hb
      clear hb
      go_wp2_with fail
      go_ret
      exact ⟨rfl, by repeat (first | exact Below.refl _ _ | refine al ?_ | refine bre ?_ _ _)⟩
    · rw [if_pos rfl]
      have hy0 : y = 0 := by simpa using hy
      subst hy0
      cases hcd : (c.toList == d.toList)
      · rw [if_neg (by simp)]
        have hcd2 : (c.toList != d.toList) = true := by rw [bne, hcd]; rfl
        go_enter Tryd.func29, Tryd.ntmps29
        go_wp2_with fail
        refine (HA.out _).mono ?_
        rintro e w1 ⟨rfl, hb⟩
        obtain ⟨d1, o1, rfl⟩ := regrow_of hb
        clear hb
        go_wp2_with fail
        refine (HB.out _).mono ?_
        rintro e w2 ⟨rfl, hb⟩
        obtain ⟨d2, o2, rfl⟩ := regrow_of hb
        clear hb
        go_wp2_with fail
        go_ret
        exact ⟨rfl, by repeat (first | exact Below.refl _ _ | refine al ?_ | refine bre ?_ _ _)⟩
      · rw [if_pos rfl]
        have hcd2 : (c.toList != d.toList) = false := by rw [bne, hcd]; rfl
        go_enter Tryd.func29, Tryd.ntmps29
        go_wp2_with fail
        refine (HA.out _).mono ?_
        rintro e w1 ⟨rfl, hb⟩
        obtain ⟨d1, o1, rfl⟩ := regrow_of hb
        clear hb
        go_wp2_with fail
        refine (HB.out _).mono ?_
        rintro e w2 ⟨rfl, hb⟩
        obtain ⟨d2, o2, rfl⟩ := regrow_of hb
        clear hb
        go_wp2_with fail
        go_ret
        exact ⟨rfl, by repeat (first | exact Below.refl _ _ | refine al ?_ | refine bre ?_ _ _)⟩
set_option maxHeartbeats 1000000 in
theorem rboth_any (a b : Int) (c d : ByteArray) (hc : c.size ≤ maxLen) (hd : d.size ≤ maxLen) (w : World) :
    Calls Tryd.prog 31 #[mo a c, mo b d] w fun e w' => e = .returned (.int .i64 (chk2 (mchk a c) (mchk b d) c d)) ∧ Below w.heap.size w w' := by
  have HA := Lib.hid (fun w => rmcheck_any a c hc w)
  have HB := Lib.hid (fun w => rmcheck_any b d hd w)
  unfold chk2 mo at *
  generalize mchk a c = x at *
  generalize mchk b d = y at *
  clear hc hd
  cases hx : (x == 0)
  · rw [if_neg (by simp)]
    have hx2 : (x != 0) = true := by rw [bne, hx]; rfl
    go_enter Tryd.func31, Tryd.ntmps31
    go_wp2_with fail
    refine (HA.out _).mono ?_
    rintro e w1 ⟨rfl, hb⟩
    obtain ⟨d1, o1, rfl⟩ := regrow_of hb
    clear hb
    go_wp2_with fail
    refine (HA.out _).mono ?_
    rintro e w2 ⟨rfl, hb⟩
    obtain ⟨d2, o2, rfl⟩ := regrow_of hb
    clear hb
    go_wp2_with fail
    go_ret
    exact ⟨rfl, by repeat (first | exact Below.refl _ _ | refine al ?_ | refine bre ?_ _ _)⟩
  · rw [if_pos rfl]
    have hx2 : (x != 0) = false := by rw [bne, hx]; rfl
    have hx0 : x = 0 := by simpa using hx
    subst hx0
    cases hy : (y == 0)
    · rw [if_neg (by simp)]
      have hy2 : (y != 0) = true := by rw [bne, hy]; rfl
      go_enter Tryd.func31, Tryd.ntmps31
      go_wp2_with fail
      refine (HA.out _).mono ?_
      rintro e w1 ⟨rfl, hb⟩
      obtain ⟨d1, o1, rfl⟩ := regrow_of hb
      clear hb
      go_wp2_with fail
      refine (HB.out _).mono ?_
      rintro e w2 ⟨rfl, hb⟩
      obtain ⟨d2, o2, rfl⟩ := regrow_of hb
      clear hb
      go_wp2_with fail
      refine (HB.out _).mono ?_
      rintro e w3 ⟨rfl, hb⟩
      obtain ⟨d3, o3, rfl⟩ := regrow_of hb
      clear hb
      go_wp2_with fail
      go_ret
      exact ⟨rfl, by repeat (first | exact Below.refl _ _ | refine al ?_ | refine bre ?_ _ _)⟩
    · rw [if_pos rfl]
      have hy0 : y = 0 := by simpa using hy
      subst hy0
      cases hcd : (c.toList == d.toList)
      · rw [if_neg (by simp)]
        have hcd2 : (c.toList != d.toList) = true := by rw [bne, hcd]; rfl
        go_enter Tryd.func31, Tryd.ntmps31
        go_wp2_with fail
        refine (HA.out _).mono ?_
        rintro e w1 ⟨rfl, hb⟩
        obtain ⟨d1, o1, rfl⟩ := regrow_of hb
        clear hb
        go_wp2_with fail
        refine (HB.out _).mono ?_
        rintro e w2 ⟨rfl, hb⟩
        obtain ⟨d2, o2, rfl⟩ := regrow_of hb
        clear hb
        go_wp2_with fail
        go_ret
        exact ⟨rfl, by repeat (first | exact Below.refl _ _ | refine al ?_ | refine bre ?_ _ _)⟩
      · rw [if_pos rfl]
        have hcd2 : (c.toList != d.toList) = false := by rw [bne, hcd]; rfl
        go_enter Tryd.func31, Tryd.ntmps31
        go_wp2_with fail
        refine (HA.out _).mono ?_
        rintro e w1 ⟨rfl, hb⟩
        obtain ⟨d1, o1, rfl⟩ := regrow_of hb
        clear hb
        go_wp2_with fail
        refine (HB.out _).mono ?_
        rintro e w2 ⟨rfl, hb⟩
        obtain ⟨d2, o2, rfl⟩ := regrow_of hb
        clear hb
        go_wp2_with fail
        go_ret
        exact ⟨rfl, by repeat (first | exact Below.refl _ _ | refine al ?_ | refine bre ?_ _ _)⟩
theorem valid_any (a : Int) (c : ByteArray) (hc : c.size ≤ maxLen) (w : World) :
    Calls Tryd.prog 30 #[mo a c] w fun e w' => e = .returned (.tuple #[if (mchk a c == 0) = true then mo a c else mo0, .int .i64 (mchk a c)]) ∧ Below w.heap.size w w' := by
  have HA := Lib.hid (fun w => mcheck_any a c hc w)
  unfold mo0 at *
  unfold mo at *
  generalize mchk a c = x at *
  clear hc
  cases hx : (x == 0)
  · rw [if_neg (by simp)]
    have hx2 : (x != 0) = true := by rw [bne, hx]; rfl
    go_enter Tryd.func30, Tryd.ntmps30
    go_wp2_with fail
    refine (HA.out _).mono ?_
    rintro e w1 ⟨rfl, hb⟩
    obtain ⟨d1, o1, rfl⟩ := regrow_of hb
    clear hb
    go_wp2_with fail
    exact bodyPost_ret (v := .tuple #[.agg #[.int .i64 0, .string ⟨#[]⟩], .int .i64 x]) (by simp [results, Tryd.results30, go_sem]) rfl ⟨rfl, by repeat (first | exact Below.refl _ _ | refine al ?_ | refine bre ?_ _ _)⟩
  · rw [if_pos rfl]
    have hx0 : x = 0 := by simpa using hx
    subst hx0
    go_enter Tryd.func30, Tryd.ntmps30
    go_wp2_with fail
    refine (HA.out _).mono ?_
    rintro e w1 ⟨rfl, hb⟩
    obtain ⟨d1, o1, rfl⟩ := regrow_of hb
    clear hb
    go_wp2_with fail
    exact bodyPost_ret (v := .tuple #[.agg #[.int .i64 a, .string c], .int .i64 0]) (by simp [results, Tryd.results30, go_sem]) rfl ⟨rfl, by repeat (first | exact Below.refl _ _ | refine al ?_ | refine bre ?_ _ _)⟩

/-- what Add and Sub answer, of the reckoned sum -/
def adE (E s : Int) : Int := if (E == 0) = true then if -4503599627370496 ≤ s ∧ s ≤ 4503599627370496 then 0 else 4 else E
def adV (E s : Int) (c : ByteArray) : Value := if (adE E s == 0) = true then mo s c else mo0
theorem chk2_zero {a b : Int} {c d : ByteArray} (h : (chk2 (mchk a c) (mchk b d) c d == 0) = true) : mchk a c = 0 ∧ mchk b d = 0 ∧ c = d := by
  rw [beq_iff_eq] at h
  unfold chk2 at h
  split at h
  · rename_i h1
    split at h
    · rename_i h2
      split at h
      · rename_i h3; exact ⟨by simpa using h1, by simpa using h2, toList_inj (by simpa using h3)⟩
      · cases h
    · rename_i h2; exact absurd (by rw [h]; rfl) h2
  · rename_i h1; exact absurd (by rw [h]; rfl) h1
set_option maxHeartbeats 1000000 in
theorem add_any (a b : Int) (c d : ByteArray) (hc : c.size ≤ maxLen) (hd : d.size ≤ maxLen) (w : World) :
    Calls Tryd.prog 10 #[mo a c, mo b d] w fun e w' => e = .returned (.tuple #[adV (chk2 (mchk a c) (mchk b d) c d) (a + b) c, .int .i64 (adE (chk2 (mchk a c) (mchk b d) c d) (a + b))]) ∧ Below w.heap.size w w' := by
  have HA := Lib.hid (fun w => both_any a b c d hc hd w)
  have HV := Lib.hid (fun w => valid_any (a + b) c hc w)
  have hz := @chk2_zero a b c d
  unfold adV
  generalize chk2 (mchk a c) (mchk b d) c d = x at *
  cases hx : (x == 0)
  · have e1 : adE x (a + b) = x := by unfold adE; rw [if_neg (by rw [hx]; simp)]
    rw [e1, if_neg (by rw [hx]; simp)]
    have hx2 : (x != 0) = true := by rw [bne, hx]; rfl
    unfold mo0 at *
    unfold mo at *
    clear hz hc hd e1
    go_enter Tryd.func10, Tryd.ntmps10
    go_wp2_with fail
    refine (HA.out _).mono ?_
    rintro e w1 ⟨rfl, hb⟩
    obtain ⟨d1, o1, rfl⟩ := regrow_of hb
    clear hb
    go_wp2_with fail
    exact bodyPost_ret (v := .tuple #[.agg #[.int .i64 0, .string ⟨#[]⟩], .int .i64 x]) (by simp [results, Tryd.results10, go_sem]) rfl ⟨rfl, by repeat (first | exact Below.refl _ _ | refine al ?_ | refine bre ?_ _ _)⟩
  · obtain ⟨z1, z2, rfl⟩ := hz hx
    have hx0 : x = 0 := by simpa using hx
    subst hx0
    obtain ⟨c1, a0, a1⟩ := mchk_zero z1
    obtain ⟨_, b0, b1⟩ := mchk_zero z2
    have e1 : adE 0 (a + b) = mchk (a + b) c := by rw [mchk_of c1]; unfold adE; rw [if_pos (show ((0 : Int) == 0) = true from rfl)]
    rw [e1]
    have hs : IntKind.i64.wrap (a + b) = a + b := by rw [IntKind.wrap_i64]; omega
    generalize mchk (a + b) c = y at *
    unfold mo0 at *
    unfold mo at *
    clear hz hc hd e1 z1 z2 hx c1 a0 a1 b0 b1
    cases hy : (y == 0)
    · rw [hy, if_neg (by simp)] at HV
      rw [if_neg (by simp)]
      go_enter Tryd.func10, Tryd.ntmps10
      go_wp2_with fail
      refine (HA.out _).mono ?_
      rintro e w1 ⟨rfl, hb⟩
      obtain ⟨d1, o1, rfl⟩ := regrow_of hb
      clear hb
      go_wp2_with fail
      refine (HV.out _).mono ?_
      rintro e w2 ⟨rfl, hb⟩
      obtain ⟨d2, o2, rfl⟩ := regrow_of hb
      clear hb
      go_wp2_with fail
      exact bodyPost_ret (v := .tuple #[.agg #[.int .i64 0, .string ⟨#[]⟩], .int .i64 y]) (by simp [results, Tryd.results10, go_sem]) rfl ⟨rfl, by repeat (first | exact Below.refl _ _ | refine al ?_ | refine bre ?_ _ _)⟩
    · rw [hy, if_pos rfl] at HV
      rw [if_pos rfl]
      go_enter Tryd.func10, Tryd.ntmps10
      go_wp2_with fail
      refine (HA.out _).mono ?_
      rintro e w1 ⟨rfl, hb⟩
      obtain ⟨d1, o1, rfl⟩ := regrow_of hb
      clear hb
      go_wp2_with fail
      refine (HV.out _).mono ?_
      rintro e w2 ⟨rfl, hb⟩
      obtain ⟨d2, o2, rfl⟩ := regrow_of hb
      clear hb
      go_wp2_with fail
      exact bodyPost_ret (v := .tuple #[.agg #[.int .i64 (a + b), .string c], .int .i64 y]) (by simp [results, Tryd.results10, go_sem]) rfl ⟨rfl, by repeat (first | exact Below.refl _ _ | refine al ?_ | refine bre ?_ _ _)⟩
set_option maxHeartbeats 1000000 in
theorem sub_any (a b : Int) (c d : ByteArray) (hc : c.size ≤ maxLen) (hd : d.size ≤ maxLen) (w : World) :
    Calls Tryd.prog 12 #[mo a c, mo b d] w fun e w' => e = .returned (.tuple #[adV (chk2 (mchk a c) (mchk b d) c d) (a - b) c, .int .i64 (adE (chk2 (mchk a c) (mchk b d) c d) (a - b))]) ∧ Below w.heap.size w w' := by
  have HA := Lib.hid (fun w => both_any a b c d hc hd w)
  have HV := Lib.hid (fun w => valid_any (a - b) c hc w)
  have hz := @chk2_zero a b c d
  unfold adV
  generalize chk2 (mchk a c) (mchk b d) c d = x at *
  cases hx : (x == 0)
  · have e1 : adE x (a - b) = x := by unfold adE; rw [if_neg (by rw [hx]; simp)]
    rw [e1, if_neg (by rw [hx]; simp)]
    have hx2 : (x != 0) = true := by rw [bne, hx]; rfl
    unfold mo0 at *
    unfold mo at *
    clear hz hc hd e1
    go_enter Tryd.func12, Tryd.ntmps12
    go_wp2_with fail
    refine (HA.out _).mono ?_
    rintro e w1 ⟨rfl, hb⟩
    obtain ⟨d1, o1, rfl⟩ := regrow_of hb
    clear hb
    go_wp2_with fail
    exact bodyPost_ret (v := .tuple #[.agg #[.int .i64 0, .string ⟨#[]⟩], .int .i64 x]) (by simp [results, Tryd.results12, go_sem]) rfl ⟨rfl, by repeat (first | exact Below.refl _ _ | refine al ?_ | refine bre ?_ _ _)⟩
  · obtain ⟨z1, z2, rfl⟩ := hz hx
    have hx0 : x = 0 := by simpa using hx
    subst hx0
    obtain ⟨c1, a0, a1⟩ := mchk_zero z1
    obtain ⟨_, b0, b1⟩ := mchk_zero z2
    have e1 : adE 0 (a - b) = mchk (a - b) c := by rw [mchk_of c1]; unfold adE; rw [if_pos (show ((0 : Int) == 0) = true from rfl)]
    rw [e1]
    have hs : IntKind.i64.wrap (a - b) = a - b := by rw [IntKind.wrap_i64]; omega
    generalize mchk (a - b) c = y at *
    unfold mo0 at *
    unfold mo at *
    clear hz hc hd e1 z1 z2 hx c1 a0 a1 b0 b1
    cases hy : (y == 0)
    · rw [hy, if_neg (by simp)] at HV
      rw [if_neg (by simp)]
      go_enter Tryd.func12, Tryd.ntmps12
      go_wp2_with fail
      refine (HA.out _).mono ?_
      rintro e w1 ⟨rfl, hb⟩
      obtain ⟨d1, o1, rfl⟩ := regrow_of hb
      clear hb
      go_wp2_with fail
      refine (HV.out _).mono ?_
      rintro e w2 ⟨rfl, hb⟩
      obtain ⟨d2, o2, rfl⟩ := regrow_of hb
      clear hb
      go_wp2_with fail
      exact bodyPost_ret (v := .tuple #[.agg #[.int .i64 0, .string ⟨#[]⟩], .int .i64 y]) (by simp [results, Tryd.results12, go_sem]) rfl ⟨rfl, by repeat (first | exact Below.refl _ _ | refine al ?_ | refine bre ?_ _ _)⟩
    · rw [hy, if_pos rfl] at HV
      rw [if_pos rfl]
      go_enter Tryd.func12, Tryd.ntmps12
      go_wp2_with fail
      refine (HA.out _).mono ?_
      rintro e w1 ⟨rfl, hb⟩
      obtain ⟨d1, o1, rfl⟩ := regrow_of hb
      clear hb
      go_wp2_with fail
      refine (HV.out _).mono ?_
      rintro e w2 ⟨rfl, hb⟩
      obtain ⟨d2, o2, rfl⟩ := regrow_of hb
      clear hb
      go_wp2_with fail
      exact bodyPost_ret (v := .tuple #[.agg #[.int .i64 (a - b), .string c], .int .i64 y]) (by simp [results, Tryd.results12, go_sem]) rfl ⟨rfl, by repeat (first | exact Below.refl _ _ | refine al ?_ | refine bre ?_ _ _)⟩
set_option maxHeartbeats 1000000 in
theorem radd_any (a b : Int) (c d : ByteArray) (hc : c.size ≤ maxLen) (hd : d.size ≤ maxLen) (w : World) :
    Calls Tryd.prog 11 #[mo a c, mo b d] w fun e w' => e = .returned (.tuple #[adV (chk2 (mchk a c) (mchk b d) c d) (a + b) c, .int .i64 (adE (chk2 (mchk a c) (mchk b d) c d) (a + b))]) ∧ Below w.heap.size w w' := by
  have HA := Lib.hid (fun w => rboth_any a b c d hc hd w)
  have hz := @chk2_zero a b c d
  unfold adV
  generalize chk2 (mchk a c) (mchk b d) c d = x at *
  cases hx : (x == 0)
  · have e1 : adE x (a + b) = x := by unfold adE; rw [if_neg (by rw [hx]; simp)]
    rw [e1, if_neg (by rw [hx]; simp)]
    have hx2 : (x != 0) = true := by rw [bne, hx]; rfl
    unfold mo0 at *
    unfold mo at *
    clear hz hc hd e1
    go_enter Tryd.func11, Tryd.ntmps11
    go_wp2_with fail
    refine (HA.out _).mono ?_
    rintro e w1 ⟨rfl, hb⟩
    obtain ⟨d1, o1, rfl⟩ := regrow_of hb
    clear hb
    go_wp2_with fail
    exact bodyPost_ret (v := .tuple #[.agg #[.int .i64 0, .string ⟨#[]⟩], .int .i64 x]) (by simp [results, Tryd.results11, go_sem]) rfl ⟨rfl, by repeat (first | exact Below.refl _ _ | refine al ?_ | refine bre ?_ _ _)⟩
  · obtain ⟨z1, z2, rfl⟩ := hz hx
    have hx0 : x = 0 := by simpa using hx
    subst hx0
    obtain ⟨c1, a0, a1⟩ := mchk_zero z1
    obtain ⟨_, b0, b1⟩ := mchk_zero z2
    have hs : IntKind.i64.wrap (a + b) = a + b := by rw [IntKind.wrap_i64]; omega
    by_cases hy : -4503599627370496 ≤ a + b ∧ a + b ≤ 4503599627370496
    · have e1 : adE 0 (a + b) = 0 := by unfold adE; rw [if_pos (show ((0 : Int) == 0) = true from rfl), if_pos hy]
      rw [e1, if_pos (show ((0 : Int) == 0) = true from rfl)]
      have HW := Lib.hid (rwithin_ok (a + b) hy.1 hy.2)
      unfold mo0 at *
      unfold mo at *
      clear hz hc hd e1 z1 z2 hx c1 a0 a1 b0 b1 hy
      go_enter Tryd.func11, Tryd.ntmps11
      go_wp2_with fail
      refine (HA.out _).mono ?_
      rintro e w1 ⟨rfl, hb⟩
      obtain ⟨d1, o1, rfl⟩ := regrow_of hb
      clear hb
      go_wp2_with fail
      refine (HW.out _).mono ?_
      rintro e q2 ⟨rfl, rfl⟩
      go_wp2_with fail
      exact bodyPost_ret (v := .tuple #[.agg #[.int .i64 (a + b), .string c], .int .i64 0]) (by simp [results, Tryd.results11, go_sem]) rfl ⟨rfl, by repeat (first | exact Below.refl _ _ | refine al ?_ | refine bre ?_ _ _)⟩
    · have e1 : adE 0 (a + b) = 4 := by unfold adE; rw [if_pos (show ((0 : Int) == 0) = true from rfl), if_neg hy]
      rw [e1, if_neg (by decide)]
      have HW := Lib.hid (rwithin_no (a + b) (by omega))
      unfold mo0 at *
      unfold mo at *
      clear hz hc hd e1 z1 z2 hx c1 a0 a1 b0 b1 hy
      go_enter Tryd.func11, Tryd.ntmps11
      go_wp2_with fail
      refine (HA.out _).mono ?_
      rintro e w1 ⟨rfl, hb⟩
      obtain ⟨d1, o1, rfl⟩ := regrow_of hb
      clear hb
      go_wp2_with fail
      refine (HW.out _).mono ?_
      rintro e q2 ⟨rfl, rfl⟩
      go_wp2_with fail
      exact bodyPost_ret (v := .tuple #[.agg #[.int .i64 0, .string ⟨#[]⟩], .int .i64 4]) (by simp [results, Tryd.results11, go_sem]) rfl ⟨rfl, by repeat (first | exact Below.refl _ _ | refine al ?_ | refine bre ?_ _ _)⟩
set_option maxHeartbeats 1000000 in
theorem rsub_any (a b : Int) (c d : ByteArray) (hc : c.size ≤ maxLen) (hd : d.size ≤ maxLen) (w : World) :
    Calls Tryd.prog 13 #[mo a c, mo b d] w fun e w' => e = .returned (.tuple #[adV (chk2 (mchk a c) (mchk b d) c d) (a - b) c, .int .i64 (adE (chk2 (mchk a c) (mchk b d) c d) (a - b))]) ∧ Below w.heap.size w w' := by
  have HA := Lib.hid (fun w => rboth_any a b c d hc hd w)
  have hz := @chk2_zero a b c d
  unfold adV
  generalize chk2 (mchk a c) (mchk b d) c d = x at *
  cases hx : (x == 0)
  · have e1 : adE x (a - b) = x := by unfold adE; rw [if_neg (by rw [hx]; simp)]
    rw [e1, if_neg (by rw [hx]; simp)]
    have hx2 : (x != 0) = true := by rw [bne, hx]; rfl
    unfold mo0 at *
    unfold mo at *
    clear hz hc hd e1
    go_enter Tryd.func13, Tryd.ntmps13
    go_wp2_with fail
    refine (HA.out _).mono ?_
    rintro e w1 ⟨rfl, hb⟩
    obtain ⟨d1, o1, rfl⟩ := regrow_of hb
    clear hb
    go_wp2_with fail
    exact bodyPost_ret (v := .tuple #[.agg #[.int .i64 0, .string ⟨#[]⟩], .int .i64 x]) (by simp [results, Tryd.results13, go_sem]) rfl ⟨rfl, by repeat (first | exact Below.refl _ _ | refine al ?_ | refine bre ?_ _ _)⟩
  · obtain ⟨z1, z2, rfl⟩ := hz hx
    have hx0 : x = 0 := by simpa using hx
    subst hx0
    obtain ⟨c1, a0, a1⟩ := mchk_zero z1
    obtain ⟨_, b0, b1⟩ := mchk_zero z2
    have hs : IntKind.i64.wrap (a - b) = a - b := by rw [IntKind.wrap_i64]; omega
    by_cases hy : -4503599627370496 ≤ a - b ∧ a - b ≤ 4503599627370496
    · have e1 : adE 0 (a - b) = 0 := by unfold adE; rw [if_pos (show ((0 : Int) == 0) = true from rfl), if_pos hy]
      rw [e1, if_pos (show ((0 : Int) == 0) = true from rfl)]
      have HW := Lib.hid (rwithin_ok (a - b) hy.1 hy.2)
      unfold mo0 at *
      unfold mo at *
      clear hz hc hd e1 z1 z2 hx c1 a0 a1 b0 b1 hy
      go_enter Tryd.func13, Tryd.ntmps13
      go_wp2_with fail
      refine (HA.out _).mono ?_
      rintro e w1 ⟨rfl, hb⟩
      obtain ⟨d1, o1, rfl⟩ := regrow_of hb
      clear hb
      go_wp2_with fail
      refine (HW.out _).mono ?_
      rintro e q2 ⟨rfl, rfl⟩
      go_wp2_with fail
      exact bodyPost_ret (v := .tuple #[.agg #[.int .i64 (a - b), .string c], .int .i64 0]) (by simp [results, Tryd.results13, go_sem]) rfl ⟨rfl, by repeat (first | exact Below.refl _ _ | refine al ?_ | refine bre ?_ _ _)⟩
    · have e1 : adE 0 (a - b) = 4 := by unfold adE; rw [if_pos (show ((0 : Int) == 0) = true from rfl), if_neg hy]
      rw [e1, if_neg (by decide)]
      have HW := Lib.hid (rwithin_no (a - b) (by omega))
      unfold mo0 at *
      unfold mo at *
      clear hz hc hd e1 z1 z2 hx c1 a0 a1 b0 b1 hy
      go_enter Tryd.func13, Tryd.ntmps13
      go_wp2_with fail
      refine (HA.out _).mono ?_
      rintro e w1 ⟨rfl, hb⟩
      obtain ⟨d1, o1, rfl⟩ := regrow_of hb
      clear hb
      go_wp2_with fail
      refine (HW.out _).mono ?_
      rintro e q2 ⟨rfl, rfl⟩
      go_wp2_with fail
      exact bodyPost_ret (v := .tuple #[.agg #[.int .i64 0, .string ⟨#[]⟩], .int .i64 4]) (by simp [results, Tryd.results13, go_sem]) rfl ⟨rfl, by repeat (first | exact Below.refl _ _ | refine al ?_ | refine bre ?_ _ _)⟩
theorem nan_any (a : Int) (w : World) : Calls Tryd.prog 54 #[.int .i64 a] w fun e w' => e = .returned (.bool false) ∧ w = w' := by
  have h := bne_self_eq_false a
  go_enter Tryd.func54, Tryd.ntmps54
  go_wp2_with fail
  go_ret
  exact ⟨rfl, rfl⟩
def cmpI (a b : Int) : Int := if a < b then -1 else if b < a then 1 else 0
theorem cmp_of (a b : Int) (w : World) : Calls Tryd.prog 33 #[.int .i64 a, .int .i64 b] w fun e w' => e = .returned (.int .i64 (cmpI a b)) ∧ w = w' := by
  unfold cmpI
  by_cases h1 : a < b
  · rw [if_pos h1]
    have g1 : decide (a < b) = true := decide_eq_true h1
    clear h1
    go_enter Tryd.func33, Tryd.ntmps33
    go_wp2_with (go_at_call 54; refine (nan_any _ _).mono ?_; rintro e w1 ⟨rfl, rfl⟩)
    go_ret
    exact ⟨rfl, rfl⟩
  · rw [if_neg h1]
    have g1 : decide (a < b) = false := decide_eq_false h1
    by_cases h2 : b < a
    · rw [if_pos h2]
      have g2 : decide (b < a) = true := decide_eq_true h2
      clear h1 h2
      go_enter Tryd.func33, Tryd.ntmps33
      go_wp2_with (go_at_call 54; refine (nan_any _ _).mono ?_; rintro e w1 ⟨rfl, rfl⟩)
      go_ret
      exact ⟨rfl, rfl⟩
    · rw [if_neg h2]
      have g2 : decide (b < a) = false := decide_eq_false h2
      clear h1 h2
      go_enter Tryd.func33, Tryd.ntmps33
      go_wp2_with (go_at_call 54; refine (nan_any _ _).mono ?_; rintro e w1 ⟨rfl, rfl⟩)
      go_ret
      exact ⟨rfl, rfl⟩
set_option maxHeartbeats 1000000 in
theorem cmp_any (a b : Int) (c d : ByteArray) (hc : c.size ≤ maxLen) (hd : d.size ≤ maxLen) (w : World) :
    Calls Tryd.prog 14 #[mo a c, mo b d] w fun e w' => e = .returned (.tuple #[.int .i64 (if (chk2 (mchk a c) (mchk b d) c d == 0) = true then cmpI a b else 0), .int .i64 (chk2 (mchk a c) (mchk b d) c d)]) ∧ Below w.heap.size w w' := by
  have HA := Lib.hid (fun w => both_any a b c d hc hd w)
  have HC := Lib.hid (fun w => cmp_of a b w)
  unfold mo at *
  generalize chk2 (mchk a c) (mchk b d) c d = x at *
  cases hx : (x == 0)
  · rw [if_neg (by simp)]
    have hx2 : (x != 0) = true := by rw [bne, hx]; rfl
    clear hc hd
    go_enter Tryd.func14, Tryd.ntmps14
    go_wp2_with fail
    refine (HA.out _).mono ?_
    rintro e w1 ⟨rfl, hb⟩
    obtain ⟨d1, o1, rfl⟩ := regrow_of hb
    clear hb
    go_wp2_with fail
    go_ret2
    exact ⟨rfl, by repeat (first | exact Below.refl _ _ | refine al ?_ | refine bre ?_ _ _)⟩
  · rw [if_pos rfl]
    have hx0 : x = 0 := by simpa using hx
    subst hx0
    clear hc hd hx
    generalize cmpI a b = z at *
    go_enter Tryd.func14, Tryd.ntmps14
    go_wp2_with fail
    refine (HA.out _).mono ?_
    rintro e w1 ⟨rfl, hb⟩
    obtain ⟨d1, o1, rfl⟩ := regrow_of hb
    clear hb
    go_wp2_with fail
    refine (HC.out _).mono ?_
    rintro e q2 ⟨rfl, rfl⟩
    go_wp2_with fail
    go_ret2
    exact ⟨rfl, by repeat (first | exact Below.refl _ _ | refine al ?_ | refine bre ?_ _ _)⟩
set_option maxHeartbeats 1000000 in
theorem rcmp_any (a b : Int) (c d : ByteArray) (hc : c.size ≤ maxLen) (hd : d.size ≤ maxLen) (w : World) :
    Calls Tryd.prog 15 #[mo a c, mo b d] w fun e w' => e = .returned (.tuple #[.int .i64 (if (chk2 (mchk a c) (mchk b d) c d == 0) = true then cmpI a b else 0), .int .i64 (chk2 (mchk a c) (mchk b d) c d)]) ∧ Below w.heap.size w w' := by
  have HA := Lib.hid (fun w => rboth_any a b c d hc hd w)
  have HC := Lib.hid (fun w => cmp_of a b w)
  unfold mo at *
  generalize chk2 (mchk a c) (mchk b d) c d = x at *
  cases hx : (x == 0)
  · rw [if_neg (by simp)]
    have hx2 : (x != 0) = true := by rw [bne, hx]; rfl
    clear hc hd
    go_enter Tryd.func15, Tryd.ntmps15
    go_wp2_with fail
    refine (HA.out _).mono ?_
    rintro e w1 ⟨rfl, hb⟩
    obtain ⟨d1, o1, rfl⟩ := regrow_of hb
    clear hb
    go_wp2_with fail
    go_ret2
    exact ⟨rfl, by repeat (first | exact Below.refl _ _ | refine al ?_ | refine bre ?_ _ _)⟩
  · rw [if_pos rfl]
    have hx0 : x = 0 := by simpa using hx
    subst hx0
    clear hc hd hx
    clear HC
    unfold cmpI
    by_cases h1 : a < b
    · rw [if_pos h1]
      have g1 : decide (a < b) = true := decide_eq_true h1
      clear h1
      go_enter Tryd.func15, Tryd.ntmps15
      go_wp2_with fail
      refine (HA.out _).mono ?_
      rintro e w1 ⟨rfl, hb⟩
      obtain ⟨d1, o1, rfl⟩ := regrow_of hb
      clear hb
      go_wp2_with fail
      go_ret2
      exact ⟨rfl, by repeat (first | exact Below.refl _ _ | refine al ?_ | refine bre ?_ _ _)⟩
    · rw [if_neg h1]
      have g1 : decide (a < b) = false := decide_eq_false h1
      by_cases h2 : b < a
      · rw [if_pos h2]
        have g2 : decide (b < a) = true := decide_eq_true h2
        clear h1 h2
        go_enter Tryd.func15, Tryd.ntmps15
        go_wp2_with fail
        refine (HA.out _).mono ?_
        rintro e w1 ⟨rfl, hb⟩
        obtain ⟨d1, o1, rfl⟩ := regrow_of hb
        clear hb
        go_wp2_with fail
        go_ret2
        exact ⟨rfl, by repeat (first | exact Below.refl _ _ | refine al ?_ | refine bre ?_ _ _)⟩
      · rw [if_neg h2]
        have g2 : decide (b < a) = false := decide_eq_false h2
        clear h1 h2
        go_enter Tryd.func15, Tryd.ntmps15
        go_wp2_with fail
        refine (HA.out _).mono ?_
        rintro e w1 ⟨rfl, hb⟩
        obtain ⟨d1, o1, rfl⟩ := regrow_of hb
        clear hb
        go_wp2_with fail
        go_ret2
        exact ⟨rfl, by repeat (first | exact Below.refl _ _ | refine al ?_ | refine bre ?_ _ _)⟩
end Go.Proofs.YtompeealmgdfhaaDoor
