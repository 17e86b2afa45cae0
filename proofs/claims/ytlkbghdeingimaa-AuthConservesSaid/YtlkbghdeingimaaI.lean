import Derived.Test.YtlkbghdeingimaaH
set_option linter.unusedVariables false
set_option linter.unusedSimpArgs false
namespace Go.Proofs.Ytlkbghdeingimaa
open Go.ChangeShapes Go.WideShapes Go.ChangeAt Go.RowKit
set_option maxHeartbeats 1000000 in
theorem rchk_ok1 (id cur : ByteArray) (ap rv cl ex st tt un pa : Int) (w : World) (hs1 : id.size ≤ maxLen) (hs2 : cur.size ≤ maxLen)
    (h1 : idL id.data.toList = true) (h2 : curL cur.data.toList = true) (h3 : amtB ap 1 = true) (h4 : amtB rv 0 = true) (h5 : amtB cl 0 = true) (h6 : amtB ex 0 = true)
    (hbad : ap - rv - cl - ex < 0 ∨ (timeB tt = false ∨ timeB un = false ∨ un ≤ tt)) :
    Calls Try.prog 13 #[au id cur ap rv cl ex st tt un pa] w fun e w' => e = .returned (.int .i64 (chk id cur ap rv cl ex st tt un pa)) ∧ Below w.heap.size w w' := by
  obtain ⟨a1, a2⟩ := amtB_le h3
  obtain ⟨b1, b2⟩ := amtB_le h4
  obtain ⟨c1, c2⟩ := amtB_le h5
  obtain ⟨d1, d2⟩ := amtB_le h6
  by_cases k1 : ap - rv - cl - ex < 0
  · have H := Lib.hid (show chk id cur ap rv cl ex st tt un pa = 26 by rw [chk_4 h1 h2 h3 h4 h5 h6, if_pos k1])
    clear hbad
    have m1 : ap < rv + cl + ex := by omega
    go_enter Try.func13, Try.ntmps13
    go_wp2_with (first | (go_at_call 29; refine (rid_any _ _ hs1).mono ?_; rintro e w' ⟨rfl, rfl⟩) | (go_at_call 30; refine (rcur_any _ _ hs2).mono ?_; rintro e w' ⟨rfl, rfl⟩) | (go_at_call 31; refine (ramt_any _ _ _).mono ?_; rintro e w' ⟨rfl, rfl⟩))
    go_ret
    exact ⟨ret_i H.out.symm, (Below.refl _ _).alloc (Nat.le_refl _) _⟩
  · have hb : timeB tt = false ∨ timeB un = false ∨ un ≤ tt := hbad.resolve_left k1
    have H := Lib.hid (chk_14 (st := st) (pa := pa) h1 h2 h3 h4 h5 h6 k1 hb)
    clear hbad
    have m1 : rv + cl + ex ≤ ap := by omega
    have hq : tt < 0 ∨ (0 ≤ tt ∧ 1099511627776 < tt) ∨ (0 ≤ tt ∧ tt ≤ 1099511627776 ∧ un ≤ tt) ∨ (0 ≤ tt ∧ tt ≤ 1099511627776 ∧ tt < un ∧ 1099511627776 < un) := by
      rcases hb with h | h | h
      · have := timeB_no h; omega
      · have := timeB_no h; omega
      · omega
    clear hb
    rcases hq with q1 | ⟨q1, q2⟩ | ⟨q1, q2, q3⟩ | ⟨q1, q2, q3, q4⟩
    all_goals
      go_enter Try.func13, Try.ntmps13
      go_wp2_with (first | (go_at_call 29; refine (rid_any _ _ hs1).mono ?_; rintro e w' ⟨rfl, rfl⟩) | (go_at_call 30; refine (rcur_any _ _ hs2).mono ?_; rintro e w' ⟨rfl, rfl⟩) | (go_at_call 31; refine (ramt_any _ _ _).mono ?_; rintro e w' ⟨rfl, rfl⟩))
      go_ret
      exact ⟨ret_i H.out.symm, (Below.refl _ _).alloc (Nat.le_refl _) _⟩
set_option maxHeartbeats 1000000 in
theorem rchk_ok2 (id cur : ByteArray) (ap rv cl ex st tt un pa : Int) (w : World) (hs1 : id.size ≤ maxLen) (hs2 : cur.size ≤ maxLen)
    (h1 : idL id.data.toList = true) (h2 : curL cur.data.toList = true) (h3 : amtB ap 1 = true) (h4 : amtB rv 0 = true) (h5 : amtB cl 0 = true) (h6 : amtB ex 0 = true)
    (k1 : ¬ (ap - rv - cl - ex < 0)) (k2 : timeB tt = true) (k3 : timeB un = true) (k4 : ¬ un ≤ tt) (hbad : pa < 0 ∨ 8 < pa ∨ cl < pa ∨ ¬ (pa = 0 ↔ cl = 0)) :
    Calls Try.prog 13 #[au id cur ap rv cl ex st tt un pa] w fun e w' => e = .returned (.int .i64 (chk id cur ap rv cl ex st tt un pa)) ∧ Below w.heap.size w w' := by
  have H := Lib.hid (chk_44 (st := st) (tt := tt) (un := un) h1 h2 h3 h4 h5 h6 k1 (by rw [k2, k3]; simp; omega) hbad)
  obtain ⟨e1, e2⟩ := timeB_le k2
  obtain ⟨f1, f2⟩ := timeB_le k3
  have m1 : rv + cl + ex ≤ ap := by omega
  obtain ⟨a1, a2⟩ := amtB_le h3
  obtain ⟨b1, b2⟩ := amtB_le h4
  obtain ⟨c1, c2⟩ := amtB_le h5
  obtain ⟨d1, d2⟩ := amtB_le h6
  have hq : pa < 0 ∨ (0 ≤ pa ∧ 8 < pa) ∨ (0 ≤ pa ∧ pa ≤ 8 ∧ cl < pa) ∨ (0 ≤ pa ∧ pa ≤ 8 ∧ pa ≤ cl ∧ ((pa == 0) == (cl == 0)) = false) := by
    rw [Bool.eq_false_iff, ne_eq, iff_beq]; omega
  clear hbad
  rcases hq with q1 | ⟨q1, q2⟩ | ⟨q1, q2, q3⟩ | ⟨q1, q2, q3, q4⟩
  all_goals
    go_enter Try.func13, Try.ntmps13
    go_wp2_with (first | (go_at_call 29; refine (rid_any _ _ hs1).mono ?_; rintro e w' ⟨rfl, rfl⟩) | (go_at_call 30; refine (rcur_any _ _ hs2).mono ?_; rintro e w' ⟨rfl, rfl⟩) | (go_at_call 31; refine (ramt_any _ _ _).mono ?_; rintro e w' ⟨rfl, rfl⟩))
    go_ret
    exact ⟨ret_i H.out.symm, (Below.refl _ _).alloc (Nat.le_refl _) _⟩

theorem rchk_any (id cur : ByteArray) (ap rv cl ex st tt un pa : Int) (w : World) (hs1 : id.size ≤ maxLen) (hs2 : cur.size ≤ maxLen) :
    Calls Try.prog 13 #[au id cur ap rv cl ex st tt un pa] w fun e w' => e = .returned (.int .i64 (chk id cur ap rv cl ex st tt un pa)) ∧ Below w.heap.size w w' := by
  by_cases hbad : (idL id.data.toList && curL cur.data.toList && amtB ap 1 && amtB rv 0 && amtB cl 0 && amtB ex 0) = false
  · exact rchk_bad id cur ap rv cl ex st tt un pa w hs1 hs2 hbad
  · simp only [Bool.not_eq_false, Bool.and_eq_true] at hbad
    obtain ⟨⟨⟨⟨⟨h1, h2⟩, h3⟩, h4⟩, h5⟩, h6⟩ := hbad
    by_cases k : ap - rv - cl - ex < 0 ∨ (timeB tt = false ∨ timeB un = false ∨ un ≤ tt)
    · exact rchk_ok1 id cur ap rv cl ex st tt un pa w hs1 hs2 h1 h2 h3 h4 h5 h6 k
    · have k1 : ¬ (ap - rv - cl - ex < 0) := fun h => k (Or.inl h)
      have k2 : timeB tt = true := by cases h : timeB tt <;> simp [h] at k ⊢
      have k3 : timeB un = true := by cases h : timeB un <;> simp [h] at k ⊢
      have k4 : ¬ un ≤ tt := fun h => k (Or.inr (Or.inr (Or.inr h)))
      by_cases p : pa < 0 ∨ 8 < pa ∨ cl < pa ∨ ¬ (pa = 0 ↔ cl = 0)
      · exact rchk_ok2 id cur ap rv cl ex st tt un pa w hs1 hs2 h1 h2 h3 h4 h5 h6 k1 k2 k3 k4 p
      · have e : chk id cur ap rv cl ex st tt un pa = stE st ap rv cl ex := by
          rw [chk_4 h1 h2 h3 h4 h5 h6, if_neg k1, if_neg (by rw [k2, k3]; simp; omega), if_neg p]
        rw [e]
        have p5 : ((pa == 0) == (cl == 0)) = true := by rw [iff_beq]; omega
        by_cases s : st = sttI ap rv cl ex
        · subst s
          exact rchk_st2 id cur ap rv cl ex tt un pa w hs1 hs2 h1 h2 h3 h4 h5 h6 (by omega) k2 k3 (by omega) (by omega) (by omega) (by omega) p5
        · have e2 : stE st ap rv cl ex = 8 := by simp [stE, s]
          rw [e2]
          exact rchk_st1 id cur ap rv cl ex st tt un pa w hs1 hs2 h1 h2 h3 h4 h5 h6 (by omega) k2 k3 (by omega) (by omega) (by omega) (by omega) p5 s
end Go.Proofs.Ytlkbghdeingimaa
