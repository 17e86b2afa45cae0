import Derived.Test.YtlkbghdeingimaaO
import Derived.Test.YtlkbghdeingimaaQ
import Derived.Test.YtlkbghdeingimaaS
set_option linter.unusedVariables false
set_option linter.unusedSimpArgs false
namespace Go.Proofs.Ytlkbghdeingimaa
open Go.Sort Go.ChangeShapes Go.WideShapes Go.ChangeAt Go.RowKit
structure Au where
  id : ByteArray
  cur : ByteArray
  ap : Int
  rv : Int
  cl : Int
  ex : Int
  st : Int
  tt : Int
  un : Int
  pa : Int
abbrev Au.v (a : Au) : Value := au a.id a.cur a.ap a.rv a.cl a.ex a.st a.tt a.un a.pa
def Au.zero : Au := ⟨⟨#[]⟩, ⟨#[]⟩, 0, 0, 0, 0, 0, 0, 0, 0⟩
abbrev Au.ck (a : Au) : Int := cko a.id a.cur a.ap a.rv a.cl a.ex a.st a.tt a.un a.pa
abbrev Au.ch (a : Au) : Int := chk a.id a.cur a.ap a.rv a.cl a.ex a.st a.tt a.un a.pa
/-- the state anew -/
def Au.re (a : Au) : Au := { a with st := sttI a.ap a.rv a.cl a.ex }
abbrev Au.op (a : Au) : Int := a.ap - a.rv - a.cl - a.ex
def raiseR (a : Au) (n u : Int) : Au × Int :=
  if ¬ a.ck = 0 then (Au.zero, a.ck) else if n < 1 ∨ 999999999999 - a.ap < n then (Au.zero, 4) else if u < a.un ∨ 1099511627776 < u then (Au.zero, 14) else ({ a with ap := a.ap + n, un := u }, 0)
def revR (a : Au) (n : Int) : Au × Int × Int :=
  if ¬ a.ck = 0 then (Au.zero, 0, a.ck) else if n < 0 ∨ a.op < n then (Au.zero, 0, 4) else if n = 0 then (Au.re { a with rv := a.rv + a.op }, a.op, 0) else (Au.re { a with rv := a.rv + n }, n, 0)
def expR (a : Au) (n : Int) : Au × Int × Int :=
  if ¬ a.ck = 0 then (Au.zero, 0, a.ck) else if n < a.un then (Au.zero, 0, 14) else (Au.re { a with ex := a.ex + a.op }, a.op, 0)
def clearR (a : Au) (n : Int) (f : Bool) : Au × Int × Int × Int :=
  if ¬ a.ck = 0 then (Au.zero, 0, 0, a.ck) else if amtB n 1 = false then (Au.zero, 0, 0, 4) else if 8 ≤ a.pa then (Au.zero, 0, 0, 10) else
  if n ≤ a.op then (if f then (Au.re { a with rv := a.rv + (a.ap - a.rv - (a.cl + n) - a.ex), cl := a.cl + n, pa := a.pa + 1 }, n, (a.ap - a.rv - (a.cl + n) - a.ex), 0) else (Au.re { a with cl := a.cl + n, pa := a.pa + 1 }, n, 0, 0))
  else (if f then (Au.re { a with rv := a.rv + (a.ap - a.rv - (a.cl + a.op) - a.ex), cl := a.cl + a.op, pa := a.pa + 1 }, a.op, (a.ap - a.rv - (a.cl + a.op) - a.ex), 0) else (Au.re { a with cl := a.cl + a.op, pa := a.pa + 1 }, a.op, 0, 0))
/-- what comes back, as a value -/
abbrev v2 (r : Au × Int) : Value := .tuple #[r.1.v, .int .i64 r.2]
abbrev v3 (r : Au × Int × Int) : Value := .tuple #[r.1.v, .int .i64 r.2.1, .int .i64 r.2.2]
abbrev v4 (r : Au × Int × Int × Int) : Value := .tuple #[r.1.v, .int .i64 r.2.1, .int .i64 r.2.2.1, .int .i64 r.2.2.2]
theorem raise_any (a : Au) (n u : Int) (w : World) (hs1 : a.id.size ≤ maxLen) (hs2 : a.cur.size ≤ maxLen) :
    Calls Try.prog 21 #[a.v, .int .i64 n, .int .i64 u] w fun e w' => e = .returned (v2 (raiseR a n u)) ∧ Below w.heap.size w w' := by
  obtain ⟨id, cur, ap, rv, cl, ex, st, tt, un, pa⟩ := a
  by_cases h : cko id cur ap rv cl ex st tt un pa = 0
  · by_cases h1 : n < 1 ∨ 999999999999 - ap < n
    · have e1 : raiseR ⟨id, cur, ap, rv, cl, ex, st, tt, un, pa⟩ n u = (Au.zero, 4) := by simp [raiseR, h, h1]
      exact (raise_e1 id cur ap rv cl ex st tt un pa n u w hs1 hs2 h (by omega)).mono fun _ _ ⟨he, hw⟩ => ⟨by rw [he, e1]; try rfl, hw⟩
    · by_cases h2 : u < un
      · have e1 : raiseR ⟨id, cur, ap, rv, cl, ex, st, tt, un, pa⟩ n u = (Au.zero, 14) := by simp [raiseR, h, h1, h2]
        exact (raise_e2a id cur ap rv cl ex st tt un pa n u w hs1 hs2 h (by omega) (by omega) h2).mono fun _ _ ⟨he, hw⟩ => ⟨by rw [he, e1]; try rfl, hw⟩
      · by_cases h3 : 1099511627776 < u
        · have e1 : raiseR ⟨id, cur, ap, rv, cl, ex, st, tt, un, pa⟩ n u = (Au.zero, 14) := by simp [raiseR, h, h1, h3]
          exact (raise_e2b id cur ap rv cl ex st tt un pa n u w hs1 hs2 h (by omega) (by omega) (by omega) h3).mono fun _ _ ⟨he, hw⟩ => ⟨by rw [he, e1]; try rfl, hw⟩
        · have e1 : raiseR ⟨id, cur, ap, rv, cl, ex, st, tt, un, pa⟩ n u = (⟨id, cur, ap + n, rv, cl, ex, st, tt, u, pa⟩, 0) := by simp [raiseR, h, h1, h2, h3]
          exact (raise_ok id cur ap rv cl ex st tt un pa n u w hs1 hs2 h (by omega) (by omega) (by omega) (by omega)).mono fun _ _ ⟨he, hw⟩ => ⟨by rw [he, e1]; try rfl, hw⟩
  · have e1 : raiseR ⟨id, cur, ap, rv, cl, ex, st, tt, un, pa⟩ n u = (Au.zero, cko id cur ap rv cl ex st tt un pa) := by simp [raiseR, h]
    exact (raise_e0 id cur ap rv cl ex st tt un pa n u w hs1 hs2 h).mono fun _ _ ⟨he, hw⟩ => ⟨by rw [he, e1]; try rfl, hw⟩
theorem rev_any (a : Au) (n : Int) (w : World) (hs1 : a.id.size ≤ maxLen) (hs2 : a.cur.size ≤ maxLen) :
    Calls Try.prog 22 #[a.v, .int .i64 n] w fun e w' => e = .returned (v3 (revR a n)) ∧ Below w.heap.size w w' := by
  obtain ⟨id, cur, ap, rv, cl, ex, st, tt, un, pa⟩ := a
  by_cases h : cko id cur ap rv cl ex st tt un pa = 0
  · by_cases h1 : n < 0
    · have e1 : revR ⟨id, cur, ap, rv, cl, ex, st, tt, un, pa⟩ n = (Au.zero, 0, 4) := by simp [revR, h, h1]
      exact (rev_e1a id cur ap rv cl ex st tt un pa n w hs1 hs2 h h1).mono fun _ _ ⟨he, hw⟩ => ⟨by rw [he, e1]; try rfl, hw⟩
    · by_cases h2 : ap - rv - cl - ex < n
      · have e1 : revR ⟨id, cur, ap, rv, cl, ex, st, tt, un, pa⟩ n = (Au.zero, 0, 4) := by simp [revR, h, h2]
        exact (rev_e1b id cur ap rv cl ex st tt un pa n w hs1 hs2 h (by omega) h2).mono fun _ _ ⟨he, hw⟩ => ⟨by rw [he, e1]; try rfl, hw⟩
      · by_cases h3 : n = 0
        · subst h3
          have e1 : revR ⟨id, cur, ap, rv, cl, ex, st, tt, un, pa⟩ 0 = (Au.re ⟨id, cur, ap, rv + (ap - rv - cl - ex), cl, ex, st, tt, un, pa⟩, ap - rv - cl - ex, 0) := by
            unfold revR; rw [if_neg (by simp [h]), if_neg (by show ¬ ((0 : Int) < 0 ∨ ap - rv - cl - ex < 0); omega), if_pos rfl]
          exact (rev_ok0 id cur ap rv cl ex st tt un pa w hs1 hs2 h).mono fun _ _ ⟨he, hw⟩ => ⟨by rw [he, e1]; try rfl, hw⟩
        · have e1 : revR ⟨id, cur, ap, rv, cl, ex, st, tt, un, pa⟩ n = (Au.re ⟨id, cur, ap, rv + n, cl, ex, st, tt, un, pa⟩, n, 0) := by
            unfold revR; rw [if_neg (by simp [h]), if_neg (by show ¬ (n < 0 ∨ ap - rv - cl - ex < n); omega), if_neg h3]
          exact (rev_ok1 id cur ap rv cl ex st tt un pa n w hs1 hs2 h (by omega) (by omega)).mono fun _ _ ⟨he, hw⟩ => ⟨by rw [he, e1]; try rfl, hw⟩
  · have e1 : revR ⟨id, cur, ap, rv, cl, ex, st, tt, un, pa⟩ n = (Au.zero, 0, cko id cur ap rv cl ex st tt un pa) := by simp [revR, h]
    exact (rev_e0 id cur ap rv cl ex st tt un pa n w hs1 hs2 h).mono fun _ _ ⟨he, hw⟩ => ⟨by rw [he, e1]; try rfl, hw⟩
theorem exp_any (a : Au) (n : Int) (w : World) (hs1 : a.id.size ≤ maxLen) (hs2 : a.cur.size ≤ maxLen) :
    Calls Try.prog 23 #[a.v, .int .i64 n] w fun e w' => e = .returned (v3 (expR a n)) ∧ Below w.heap.size w w' := by
  obtain ⟨id, cur, ap, rv, cl, ex, st, tt, un, pa⟩ := a
  by_cases h : cko id cur ap rv cl ex st tt un pa = 0
  · by_cases h1 : n < un
    · have e1 : expR ⟨id, cur, ap, rv, cl, ex, st, tt, un, pa⟩ n = (Au.zero, 0, 14) := by simp [expR, h, h1]
      exact (exp_e1 id cur ap rv cl ex st tt un pa n w hs1 hs2 h h1).mono fun _ _ ⟨he, hw⟩ => ⟨by rw [he, e1]; try rfl, hw⟩
    · have e1 : expR ⟨id, cur, ap, rv, cl, ex, st, tt, un, pa⟩ n = (Au.re ⟨id, cur, ap, rv, cl, ex + (ap - rv - cl - ex), st, tt, un, pa⟩, ap - rv - cl - ex, 0) := by
        unfold expR; rw [if_neg (by simp [h]), if_neg h1]
      exact (exp_ok id cur ap rv cl ex st tt un pa n w hs1 hs2 h (by omega)).mono fun _ _ ⟨he, hw⟩ => ⟨by rw [he, e1]; try rfl, hw⟩
  · have e1 : expR ⟨id, cur, ap, rv, cl, ex, st, tt, un, pa⟩ n = (Au.zero, 0, cko id cur ap rv cl ex st tt un pa) := by simp [expR, h]
    exact (exp_e0 id cur ap rv cl ex st tt un pa n w hs1 hs2 h).mono fun _ _ ⟨he, hw⟩ => ⟨by rw [he, e1]; try rfl, hw⟩
theorem clear_any (a : Au) (n : Int) (f : Bool) (w : World) (hs1 : a.id.size ≤ maxLen) (hs2 : a.cur.size ≤ maxLen) :
    Calls Try.prog 19 #[a.v, .int .i64 n, .bool f] w fun e w' => e = .returned (v4 (clearR a n f)) ∧ Below w.heap.size w w' := by
  obtain ⟨id, cur, ap, rv, cl, ex, st, tt, un, pa⟩ := a
  by_cases h : cko id cur ap rv cl ex st tt un pa = 0
  · cases h1 : amtB n 1
    · have e1 : clearR ⟨id, cur, ap, rv, cl, ex, st, tt, un, pa⟩ n f = (Au.zero, 0, 0, 4) := by simp [clearR, h, h1]
      exact (clear_no id cur ap rv cl ex st tt un pa n f w hs1 hs2 (by unfold clrE; rw [if_pos h, h1]; simp)).mono fun _ _ ⟨he, hw⟩ => ⟨by rw [he, e1, show clrE id cur ap rv cl ex st tt un pa n = 4 by unfold clrE; rw [if_pos h, h1]; simp]; try rfl, hw⟩
    · by_cases h2 : 8 ≤ pa
      · have e1 : clearR ⟨id, cur, ap, rv, cl, ex, st, tt, un, pa⟩ n f = (Au.zero, 0, 0, 10) := by simp [clearR, h, h1, h2]
        exact (clear_no id cur ap rv cl ex st tt un pa n f w hs1 hs2 (by unfold clrE; rw [if_pos h, if_pos h1, if_pos h2]; simp)).mono fun _ _ ⟨he, hw⟩ => ⟨by rw [he, e1, show clrE id cur ap rv cl ex st tt un pa n = 10 by unfold clrE; rw [if_pos h, if_pos h1, if_pos h2]]; try rfl, hw⟩
      · by_cases h3 : n ≤ ap - rv - cl - ex
        · cases f
          · have e1 : clearR ⟨id, cur, ap, rv, cl, ex, st, tt, un, pa⟩ n false = (Au.re ⟨id, cur, ap, rv, cl + n, ex, st, tt, un, pa + 1⟩, n, 0, 0) := by
              unfold clearR; rw [if_neg (by simp [h]), if_neg (by simp [h1]), if_neg h2, if_pos h3]; rfl
            exact (clear_f1 id cur ap rv cl ex st tt un pa n w hs1 hs2 (by unfold clrE; rw [if_pos h, if_pos h1, if_neg h2]) h3).mono fun _ _ ⟨he, hw⟩ => ⟨by rw [he, e1]; try rfl, hw⟩
          · have e1 : clearR ⟨id, cur, ap, rv, cl, ex, st, tt, un, pa⟩ n true = (Au.re ⟨id, cur, ap, rv + (ap - rv - (cl + n) - ex), cl + n, ex, st, tt, un, pa + 1⟩, n, (ap - rv - (cl + n) - ex), 0) := by
              unfold clearR; rw [if_neg (by simp [h]), if_neg (by simp [h1]), if_neg h2, if_pos h3]; rfl
            exact (clear_t1 id cur ap rv cl ex st tt un pa n w hs1 hs2 (by unfold clrE; rw [if_pos h, if_pos h1, if_neg h2]) h3).mono fun _ _ ⟨he, hw⟩ => ⟨by rw [he, e1]; try rfl, hw⟩
        · cases f
          · have e1 : clearR ⟨id, cur, ap, rv, cl, ex, st, tt, un, pa⟩ n false = (Au.re ⟨id, cur, ap, rv, cl + (ap - rv - cl - ex), ex, st, tt, un, pa + 1⟩, (ap - rv - cl - ex), 0, 0) := by
              unfold clearR; rw [if_neg (by simp [h]), if_neg (by simp [h1]), if_neg h2, if_neg h3]; rfl
            exact (clear_f2 id cur ap rv cl ex st tt un pa n w hs1 hs2 (by unfold clrE; rw [if_pos h, if_pos h1, if_neg h2]) h3).mono fun _ _ ⟨he, hw⟩ => ⟨by rw [he, e1]; try rfl, hw⟩
          · have e1 : clearR ⟨id, cur, ap, rv, cl, ex, st, tt, un, pa⟩ n true = (Au.re ⟨id, cur, ap, rv + (ap - rv - (cl + (ap - rv - cl - ex)) - ex), cl + (ap - rv - cl - ex), ex, st, tt, un, pa + 1⟩, (ap - rv - cl - ex), (ap - rv - (cl + (ap - rv - cl - ex)) - ex), 0) := by
              unfold clearR; rw [if_neg (by simp [h]), if_neg (by simp [h1]), if_neg h2, if_neg h3]; rfl
            exact (clear_t2 id cur ap rv cl ex st tt un pa n w hs1 hs2 (by unfold clrE; rw [if_pos h, if_pos h1, if_neg h2]) h3).mono fun _ _ ⟨he, hw⟩ => ⟨by rw [he, e1]; try rfl, hw⟩
  · have e1 : clearR ⟨id, cur, ap, rv, cl, ex, st, tt, un, pa⟩ n f = (Au.zero, 0, 0, cko id cur ap rv cl ex st tt un pa) := by simp [clearR, h]
    exact (clear_no id cur ap rv cl ex st tt un pa n f w hs1 hs2 (by unfold clrE; rw [if_neg h]; exact h)).mono fun _ _ ⟨he, hw⟩ => ⟨by rw [he, e1, show clrE id cur ap rv cl ex st tt un pa n = cko id cur ap rv cl ex st tt un pa by unfold clrE; rw [if_neg h]]; try rfl, hw⟩
theorem rraise_any (a : Au) (n u : Int) (w : World) (hs1 : a.id.size ≤ maxLen) (hs2 : a.cur.size ≤ maxLen) :
    Calls Try.prog 33 #[a.v, .int .i64 n, .int .i64 u] w fun e w' => e = .returned (v2 (raiseR a n u)) ∧ Below w.heap.size w w' := by
  obtain ⟨id, cur, ap, rv, cl, ex, st, tt, un, pa⟩ := a
  by_cases h : cko id cur ap rv cl ex st tt un pa = 0
  · by_cases h1 : n < 1 ∨ 999999999999 - ap < n
    · have e1 : raiseR ⟨id, cur, ap, rv, cl, ex, st, tt, un, pa⟩ n u = (Au.zero, 4) := by simp [raiseR, h, h1]
      exact (rraise_e1 id cur ap rv cl ex st tt un pa n u w hs1 hs2 h (by omega)).mono fun _ _ ⟨he, hw⟩ => ⟨by rw [he, e1]; try rfl, hw⟩
    · by_cases h2 : u < un
      · have e1 : raiseR ⟨id, cur, ap, rv, cl, ex, st, tt, un, pa⟩ n u = (Au.zero, 14) := by simp [raiseR, h, h1, h2]
        exact (rraise_e2a id cur ap rv cl ex st tt un pa n u w hs1 hs2 h (by omega) (by omega) h2).mono fun _ _ ⟨he, hw⟩ => ⟨by rw [he, e1]; try rfl, hw⟩
      · by_cases h3 : 1099511627776 < u
        · have e1 : raiseR ⟨id, cur, ap, rv, cl, ex, st, tt, un, pa⟩ n u = (Au.zero, 14) := by simp [raiseR, h, h1, h3]
          exact (rraise_e2b id cur ap rv cl ex st tt un pa n u w hs1 hs2 h (by omega) (by omega) (by omega) h3).mono fun _ _ ⟨he, hw⟩ => ⟨by rw [he, e1]; try rfl, hw⟩
        · have e1 : raiseR ⟨id, cur, ap, rv, cl, ex, st, tt, un, pa⟩ n u = (⟨id, cur, ap + n, rv, cl, ex, st, tt, u, pa⟩, 0) := by simp [raiseR, h, h1, h2, h3]
          exact (rraise_ok id cur ap rv cl ex st tt un pa n u w hs1 hs2 h (by omega) (by omega) (by omega) (by omega)).mono fun _ _ ⟨he, hw⟩ => ⟨by rw [he, e1]; try rfl, hw⟩
  · have e1 : raiseR ⟨id, cur, ap, rv, cl, ex, st, tt, un, pa⟩ n u = (Au.zero, cko id cur ap rv cl ex st tt un pa) := by simp [raiseR, h]
    exact (rraise_e0 id cur ap rv cl ex st tt un pa n u w hs1 hs2 h).mono fun _ _ ⟨he, hw⟩ => ⟨by rw [he, e1]; try rfl, hw⟩
theorem rrev_any (a : Au) (n : Int) (w : World) (hs1 : a.id.size ≤ maxLen) (hs2 : a.cur.size ≤ maxLen) :
    Calls Try.prog 34 #[a.v, .int .i64 n] w fun e w' => e = .returned (v3 (revR a n)) ∧ Below w.heap.size w w' := by
  obtain ⟨id, cur, ap, rv, cl, ex, st, tt, un, pa⟩ := a
  by_cases h : cko id cur ap rv cl ex st tt un pa = 0
  · by_cases h1 : n < 0
    · have e1 : revR ⟨id, cur, ap, rv, cl, ex, st, tt, un, pa⟩ n = (Au.zero, 0, 4) := by simp [revR, h, h1]
      exact (rrev_e1a id cur ap rv cl ex st tt un pa n w hs1 hs2 h h1).mono fun _ _ ⟨he, hw⟩ => ⟨by rw [he, e1]; try rfl, hw⟩
    · by_cases h2 : ap - rv - cl - ex < n
      · have e1 : revR ⟨id, cur, ap, rv, cl, ex, st, tt, un, pa⟩ n = (Au.zero, 0, 4) := by simp [revR, h, h2]
        exact (rrev_e1b id cur ap rv cl ex st tt un pa n w hs1 hs2 h (by omega) h2).mono fun _ _ ⟨he, hw⟩ => ⟨by rw [he, e1]; try rfl, hw⟩
      · by_cases h3 : n = 0
        · subst h3
          have e1 : revR ⟨id, cur, ap, rv, cl, ex, st, tt, un, pa⟩ 0 = (Au.re ⟨id, cur, ap, rv + (ap - rv - cl - ex), cl, ex, st, tt, un, pa⟩, ap - rv - cl - ex, 0) := by
            unfold revR; rw [if_neg (by simp [h]), if_neg (by show ¬ ((0 : Int) < 0 ∨ ap - rv - cl - ex < 0); omega), if_pos rfl]
          exact (rrev_ok0 id cur ap rv cl ex st tt un pa w hs1 hs2 h).mono fun _ _ ⟨he, hw⟩ => ⟨by rw [he, e1]; try rfl, hw⟩
        · have e1 : revR ⟨id, cur, ap, rv, cl, ex, st, tt, un, pa⟩ n = (Au.re ⟨id, cur, ap, rv + n, cl, ex, st, tt, un, pa⟩, n, 0) := by
            unfold revR; rw [if_neg (by simp [h]), if_neg (by show ¬ (n < 0 ∨ ap - rv - cl - ex < n); omega), if_neg h3]
          exact (rrev_ok1 id cur ap rv cl ex st tt un pa n w hs1 hs2 h (by omega) (by omega)).mono fun _ _ ⟨he, hw⟩ => ⟨by rw [he, e1]; try rfl, hw⟩
  · have e1 : revR ⟨id, cur, ap, rv, cl, ex, st, tt, un, pa⟩ n = (Au.zero, 0, cko id cur ap rv cl ex st tt un pa) := by simp [revR, h]
    exact (rrev_e0 id cur ap rv cl ex st tt un pa n w hs1 hs2 h).mono fun _ _ ⟨he, hw⟩ => ⟨by rw [he, e1]; try rfl, hw⟩
theorem rexp_any (a : Au) (n : Int) (w : World) (hs1 : a.id.size ≤ maxLen) (hs2 : a.cur.size ≤ maxLen) :
    Calls Try.prog 35 #[a.v, .int .i64 n] w fun e w' => e = .returned (v3 (expR a n)) ∧ Below w.heap.size w w' := by
  obtain ⟨id, cur, ap, rv, cl, ex, st, tt, un, pa⟩ := a
  by_cases h : cko id cur ap rv cl ex st tt un pa = 0
  · by_cases h1 : n < un
    · have e1 : expR ⟨id, cur, ap, rv, cl, ex, st, tt, un, pa⟩ n = (Au.zero, 0, 14) := by simp [expR, h, h1]
      exact (rexp_e1 id cur ap rv cl ex st tt un pa n w hs1 hs2 h h1).mono fun _ _ ⟨he, hw⟩ => ⟨by rw [he, e1]; try rfl, hw⟩
    · have e1 : expR ⟨id, cur, ap, rv, cl, ex, st, tt, un, pa⟩ n = (Au.re ⟨id, cur, ap, rv, cl, ex + (ap - rv - cl - ex), st, tt, un, pa⟩, ap - rv - cl - ex, 0) := by
        unfold expR; rw [if_neg (by simp [h]), if_neg h1]
      exact (rexp_ok id cur ap rv cl ex st tt un pa n w hs1 hs2 h (by omega)).mono fun _ _ ⟨he, hw⟩ => ⟨by rw [he, e1]; try rfl, hw⟩
  · have e1 : expR ⟨id, cur, ap, rv, cl, ex, st, tt, un, pa⟩ n = (Au.zero, 0, cko id cur ap rv cl ex st tt un pa) := by simp [expR, h]
    exact (rexp_e0 id cur ap rv cl ex st tt un pa n w hs1 hs2 h).mono fun _ _ ⟨he, hw⟩ => ⟨by rw [he, e1]; try rfl, hw⟩
theorem rclear_any (a : Au) (n : Int) (f : Bool) (w : World) (hs1 : a.id.size ≤ maxLen) (hs2 : a.cur.size ≤ maxLen) :
    Calls Try.prog 36 #[a.v, .int .i64 n, .bool f] w fun e w' => e = .returned (v4 (clearR a n f)) ∧ Below w.heap.size w w' := by
  obtain ⟨id, cur, ap, rv, cl, ex, st, tt, un, pa⟩ := a
  by_cases h : cko id cur ap rv cl ex st tt un pa = 0
  · cases h1 : amtB n 1
    · have e1 : clearR ⟨id, cur, ap, rv, cl, ex, st, tt, un, pa⟩ n f = (Au.zero, 0, 0, 4) := by simp [clearR, h, h1]
      exact (rclear_e1 id cur ap rv cl ex st tt un pa n f w hs1 hs2 h h1).mono fun _ _ ⟨he, hw⟩ => ⟨by rw [he, e1]; try rfl, hw⟩
    · by_cases h2 : 8 ≤ pa
      · have e1 : clearR ⟨id, cur, ap, rv, cl, ex, st, tt, un, pa⟩ n f = (Au.zero, 0, 0, 10) := by simp [clearR, h, h1, h2]
        exact (rclear_e2 id cur ap rv cl ex st tt un pa n f w hs1 hs2 h h1 h2).mono fun _ _ ⟨he, hw⟩ => ⟨by rw [he, e1]; try rfl, hw⟩
      · by_cases h3 : n ≤ ap - rv - cl - ex
        · cases f
          · have e1 : clearR ⟨id, cur, ap, rv, cl, ex, st, tt, un, pa⟩ n false = (Au.re ⟨id, cur, ap, rv, cl + n, ex, st, tt, un, pa + 1⟩, n, 0, 0) := by
              unfold clearR; rw [if_neg (by simp [h]), if_neg (by simp [h1]), if_neg h2, if_pos h3]; rfl
            exact (rclear_f1 id cur ap rv cl ex st tt un pa n w hs1 hs2 h h1 (by omega) h3).mono fun _ _ ⟨he, hw⟩ => ⟨by rw [he, e1]; try rfl, hw⟩
          · have e1 : clearR ⟨id, cur, ap, rv, cl, ex, st, tt, un, pa⟩ n true = (Au.re ⟨id, cur, ap, rv + (ap - rv - (cl + n) - ex), cl + n, ex, st, tt, un, pa + 1⟩, n, (ap - rv - (cl + n) - ex), 0) := by
              unfold clearR; rw [if_neg (by simp [h]), if_neg (by simp [h1]), if_neg h2, if_pos h3]; rfl
            exact (rclear_t1 id cur ap rv cl ex st tt un pa n w hs1 hs2 h h1 (by omega) h3).mono fun _ _ ⟨he, hw⟩ => ⟨by rw [he, e1]; try rfl, hw⟩
        · cases f
          · have e1 : clearR ⟨id, cur, ap, rv, cl, ex, st, tt, un, pa⟩ n false = (Au.re ⟨id, cur, ap, rv, cl + (ap - rv - cl - ex), ex, st, tt, un, pa + 1⟩, (ap - rv - cl - ex), 0, 0) := by
              unfold clearR; rw [if_neg (by simp [h]), if_neg (by simp [h1]), if_neg h2, if_neg h3]; rfl
            exact (rclear_f2 id cur ap rv cl ex st tt un pa n w hs1 hs2 h h1 (by omega) h3).mono fun _ _ ⟨he, hw⟩ => ⟨by rw [he, e1]; try rfl, hw⟩
          · have e1 : clearR ⟨id, cur, ap, rv, cl, ex, st, tt, un, pa⟩ n true = (Au.re ⟨id, cur, ap, rv + (ap - rv - (cl + (ap - rv - cl - ex)) - ex), cl + (ap - rv - cl - ex), ex, st, tt, un, pa + 1⟩, (ap - rv - cl - ex), (ap - rv - (cl + (ap - rv - cl - ex)) - ex), 0) := by
              unfold clearR; rw [if_neg (by simp [h]), if_neg (by simp [h1]), if_neg h2, if_neg h3]; rfl
            exact (rclear_t2 id cur ap rv cl ex st tt un pa n w hs1 hs2 h h1 (by omega) h3).mono fun _ _ ⟨he, hw⟩ => ⟨by rw [he, e1]; try rfl, hw⟩
  · have e1 : clearR ⟨id, cur, ap, rv, cl, ex, st, tt, un, pa⟩ n f = (Au.zero, 0, 0, cko id cur ap rv cl ex st tt un pa) := by simp [clearR, h]
    exact (rclear_e0 id cur ap rv cl ex st tt un pa n f w hs1 hs2 h).mono fun _ _ ⟨he, hw⟩ => ⟨by rw [he, e1]; try rfl, hw⟩
end Go.Proofs.Ytlkbghdeingimaa
