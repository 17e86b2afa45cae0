import Derived.Test.YtlkbghdeingimaaX
set_option linter.unusedVariables false
set_option linter.unusedSimpArgs false
namespace Go.Proofs.Ytlkbghdeingimaa
open Go.Sort Go.ChangeShapes Go.WideShapes Go.ChangeAt Go.RowKit

/-- a valid authorization, in words of numbers -/
theorem chk_mk {id cur : ByteArray} {ap rv cl ex st tt un pa : Int} (h1 : idL id.data.toList = true) (h2 : curL cur.data.toList = true) (h3 : 1 ≤ ap ∧ ap ≤ 999999999999) (h4 : 0 ≤ rv ∧ rv ≤ 999999999999) (h5 : 0 ≤ cl ∧ cl ≤ 999999999999) (h6 : 0 ≤ ex ∧ ex ≤ 999999999999)
    (h7 : 0 ≤ ap - rv - cl - ex) (h8 : 0 ≤ tt ∧ tt < un ∧ un ≤ 1099511627776) (h9 : 0 ≤ pa ∧ pa ≤ 8 ∧ pa ≤ cl ∧ (pa = 0 ↔ cl = 0)) (h10 : st = sttI ap rv cl ex) (h11 : st = 1 → ex = 0) : chk id cur ap rv cl ex st tt un pa = 0 := by
  unfold chk
  rw [if_neg (by rw [h1]; simp), if_neg (by rw [h2]; simp), if_neg (by simp [amtB]; omega), if_neg (by omega), if_neg (by simp [timeB]; omega), if_neg (by omega), if_neg]
  intro h
  rcases h with h | ⟨h, h'⟩
  · exact h h10
  · exact h' (h11 h)
theorem chk_ids {id cur : ByteArray} {ap rv cl ex st tt un pa : Int} (h : chk id cur ap rv cl ex st tt un pa = 0) : idL id.data.toList = true ∧ curL cur.data.toList = true := by
  unfold chk at h
  split at h
  · simp at h
  · rename_i h1
    split at h
    · simp at h
    · rename_i h2; exact ⟨by simpa using h1, by simpa using h2⟩
theorem sttI_1 {ap rv cl ex : Int} (h : sttI ap rv cl ex = 1) : 0 < ap - rv - cl - ex := stt_1 h.symm
theorem sttI_pos {ap rv cl ex : Int} (h : 0 < ap - rv - cl - ex) : sttI ap rv cl ex = 1 := by unfold sttI; rw [if_pos h]

/-- what a step that is accepted does -/
structure StepOk (a b : Au) (k m q : Int) : Prop where
  op : 0 < a.op
  ch : b.ch = 0
  m0 : 0 ≤ m
  q0 : 0 ≤ q
  m1 : m ≤ 999999999999
  q1 : q ≤ 999999999999
  up : 0 ≤ b.ap - a.ap
  kind : b.ap - a.ap = 0 ∨ k % 4 = 1
  opn : b.op = a.op + (b.ap - a.ap) - m - q
  rv : a.rv ≤ b.rv
  cl : b.cl = a.cl + m
  ex : a.ex ≤ b.ex
  id : b.id = a.id
  cur : b.cur = a.cur

theorem step_facts (a : Au) (k n u : Int) (f : Bool) (h : a.ch = 0) :
    (¬ (stepR a k n u f).2.2.2 = 0 ∧ stepR a k n u f = (Au.zero, 0, 0, (stepR a k n u f).2.2.2)) ∨
    ((stepR a k n u f).2.2.2 = 0 ∧ StepOk a (stepR a k n u f).1 k (stepR a k n u f).2.1 (stepR a k n u f).2.2.1) := by
  obtain ⟨id, cur, ap, rv, cl, ex, st, tt, un, pa⟩ := a
  have hc : chk id cur ap rv cl ex st tt un pa = 0 := h
  obtain ⟨i1, i2⟩ := chk_ids hc
  obtain ⟨⟨a1, a2⟩, ⟨b1, b2⟩, ⟨c1, c2⟩, ⟨d1, d2⟩, e1, ⟨t1, t2, t3⟩, ⟨f1, f2, f3, f4⟩, g1, g2⟩ := chk_0 hc
  by_cases hs : st = 1
  · have hex : ex = 0 := g2 hs
    have hop : 0 < ap - rv - cl - ex := sttI_1 (g1.symm.trans hs)
    have hck : cko id cur ap rv cl ex st tt un pa = 0 := by unfold cko; rw [if_pos hc, if_pos hs]
    subst hex
    unfold stepR
    split
    · -- Raise
      unfold raiseR
      rw [if_neg (by show ¬ ¬ cko id cur ap rv cl 0 st tt un pa = 0; simp [hck])]
      split
      · left; simp
      · rename_i h1
        split
        · left; simp
        · rename_i h2
          right
          simp only at h1 h2
          refine ⟨rfl, ⟨hop, ?_, by simp, by simp, by simp, by simp, by simp <;> omega, Or.inr (by assumption), by simp [Au.op] <;> omega, by simp, by simp, by simp, rfl, rfl⟩⟩
          show chk id cur (ap + n) rv cl 0 st tt u pa = 0
          exact chk_mk i1 i2 ⟨by omega, by omega⟩ ⟨b1, b2⟩ ⟨c1, c2⟩ ⟨d1, d2⟩ (by omega) ⟨t1, by omega, by omega⟩ ⟨f1, f2, f3, f4⟩ (by rw [sttI_pos (by omega)]; exact hs) (fun _ => rfl)
    · split
      · -- Reverse
        unfold revR
        rw [if_neg (by show ¬ ¬ cko id cur ap rv cl 0 st tt un pa = 0; simp [hck])]
        split
        · left; simp
        · rename_i h1
          simp only [Au.op] at h1
          split
          · right
            refine ⟨rfl, ⟨hop, ?_, by simp, by simp [Au.op] <;> omega, by simp, by simp [Au.op] <;> omega, by simp [Au.re], Or.inl (by simp [Au.re]), by simp [Au.op, Au.re] <;> omega, by simp [Au.op, Au.re] <;> omega, by simp [Au.re], by simp [Au.re], rfl, rfl⟩⟩
            show chk id cur ap (rv + (ap - rv - cl - 0)) cl 0 (sttI ap (rv + (ap - rv - cl - 0)) cl 0) tt un pa = 0
            exact chk_mk i1 i2 ⟨a1, a2⟩ ⟨by omega, by omega⟩ ⟨c1, c2⟩ ⟨d1, d2⟩ (by omega) ⟨t1, t2, t3⟩ ⟨f1, f2, f3, f4⟩ rfl (fun _ => rfl)
          · rename_i h2
            right
            refine ⟨rfl, ⟨hop, ?_, by simp, by simp <;> omega, by simp, by simp <;> omega, by simp [Au.re], Or.inl (by simp [Au.re]), by simp [Au.op, Au.re] <;> omega, by simp [Au.re] <;> omega, by simp [Au.re], by simp [Au.re], rfl, rfl⟩⟩
            show chk id cur ap (rv + n) cl 0 (sttI ap (rv + n) cl 0) tt un pa = 0
            exact chk_mk i1 i2 ⟨a1, a2⟩ ⟨by omega, by omega⟩ ⟨c1, c2⟩ ⟨d1, d2⟩ (by omega) ⟨t1, t2, t3⟩ ⟨f1, f2, f3, f4⟩ rfl (fun _ => rfl)
      · split
        · -- Expire
          unfold expR
          rw [if_neg (by show ¬ ¬ cko id cur ap rv cl 0 st tt un pa = 0; simp [hck])]
          split
          · left; simp
          · right
            refine ⟨rfl, ⟨hop, ?_, by simp, by simp [Au.op] <;> omega, by simp, by simp [Au.op] <;> omega, by simp [Au.re], Or.inl (by simp [Au.re]), by simp [Au.op, Au.re] <;> omega, by simp [Au.re], by simp [Au.re], by simp [Au.re, Au.op] <;> omega, rfl, rfl⟩⟩
            show chk id cur ap rv cl (0 + (ap - rv - cl - 0)) (sttI ap rv cl (0 + (ap - rv - cl - 0))) tt un pa = 0
            refine chk_mk i1 i2 ⟨a1, a2⟩ ⟨b1, b2⟩ ⟨c1, c2⟩ ⟨by omega, by omega⟩ (by omega) ⟨t1, t2, t3⟩ ⟨f1, f2, f3, f4⟩ rfl (fun h => ?_)
            have := sttI_1 h
            simp [Au.op] at this
        · -- Clear
          unfold clearR
          rw [if_neg (by show ¬ ¬ cko id cur ap rv cl 0 st tt un pa = 0; simp [hck])]
          split
          · left; simp
          · rename_i h1
            split
            · left; simp
            · rename_i h2
              obtain ⟨n1, n2⟩ := amtB_le (by simpa using h1)
              simp only at h2
              split
              · rename_i h3
                simp only [Au.op] at h3
                cases f
                · right
                  refine ⟨rfl, ⟨hop, ?_, by simp <;> omega, by simp, by simp <;> omega, by simp, by simp [Au.re], Or.inl (by simp [Au.re]), by simp [Au.op, Au.re] <;> omega, by simp [Au.re], by simp [Au.re], by simp [Au.re], rfl, rfl⟩⟩
                  show chk id cur ap rv (cl + n) 0 (sttI ap rv (cl + n) 0) tt un (pa + 1) = 0
                  exact chk_mk i1 i2 ⟨a1, a2⟩ ⟨b1, b2⟩ ⟨by omega, by omega⟩ ⟨d1, d2⟩ (by omega) ⟨t1, t2, t3⟩ ⟨by omega, by omega, by omega, by omega⟩ rfl (fun _ => rfl)
                · right
                  refine ⟨rfl, ⟨hop, ?_, by simp <;> omega, by simp <;> omega, by simp <;> omega, by simp <;> omega, by simp [Au.re], Or.inl (by simp [Au.re]), by simp [Au.op, Au.re] <;> omega, by simp [Au.re] <;> omega, by simp [Au.re], by simp [Au.re], rfl, rfl⟩⟩
                  show chk id cur ap (rv + (ap - rv - (cl + n) - 0)) (cl + n) 0 (sttI ap (rv + (ap - rv - (cl + n) - 0)) (cl + n) 0) tt un (pa + 1) = 0
                  exact chk_mk i1 i2 ⟨a1, a2⟩ ⟨by omega, by omega⟩ ⟨by omega, by omega⟩ ⟨d1, d2⟩ (by omega) ⟨t1, t2, t3⟩ ⟨by omega, by omega, by omega, by omega⟩ rfl (fun _ => rfl)
              · rename_i h3
                simp only [Au.op] at h3
                cases f
                · right
                  refine ⟨rfl, ⟨hop, ?_, by simp [Au.op] <;> omega, by simp, by simp [Au.op] <;> omega, by simp, by simp [Au.re], Or.inl (by simp [Au.re]), by simp [Au.op, Au.re] <;> omega, by simp [Au.re], by simp [Au.re, Au.op], by simp [Au.re], rfl, rfl⟩⟩
                  show chk id cur ap rv (cl + (ap - rv - cl - 0)) 0 (sttI ap rv (cl + (ap - rv - cl - 0)) 0) tt un (pa + 1) = 0
                  exact chk_mk i1 i2 ⟨a1, a2⟩ ⟨b1, b2⟩ ⟨by omega, by omega⟩ ⟨d1, d2⟩ (by omega) ⟨t1, t2, t3⟩ ⟨by omega, by omega, by omega, by omega⟩ rfl (fun _ => rfl)
                · right
                  refine ⟨rfl, ⟨hop, ?_, by simp [Au.op] <;> omega, by simp [Au.op] <;> omega, by simp [Au.op] <;> omega, by simp [Au.op] <;> omega, by simp [Au.re], Or.inl (by simp [Au.re]), by simp [Au.op, Au.re] <;> omega, by simp [Au.re, Au.op] <;> omega, by simp [Au.re, Au.op], by simp [Au.re], rfl, rfl⟩⟩
                  show chk id cur ap (rv + (ap - rv - (cl + (ap - rv - cl - 0)) - 0)) (cl + (ap - rv - cl - 0)) 0 (sttI ap (rv + (ap - rv - (cl + (ap - rv - cl - 0)) - 0)) (cl + (ap - rv - cl - 0)) 0) tt un (pa + 1) = 0
                  exact chk_mk i1 i2 ⟨a1, a2⟩ ⟨by omega, by omega⟩ ⟨by omega, by omega⟩ ⟨d1, d2⟩ (by omega) ⟨t1, t2, t3⟩ ⟨by omega, by omega, by omega, by omega⟩ rfl (fun _ => rfl)
  · left
    rw [step_8 _ k n u f (ck_8 hc hs)]
    simp
end Go.Proofs.Ytlkbghdeingimaa
