/- Spaces at the end of a source; the places of lexemes. -/
import Derived.Test.YtikmaljhfckbgaaDoorY
set_option linter.unusedVariables false
set_option linter.unusedSimpArgs false
namespace Go.Proofs.YtikmaljhfckbgaaDoor
open Go.Sort Go.ChangeShapes Go.WideShapes Go.ChangeAt Go.RowKit
abbrev sps (b : Nat) : List UInt8 := List.replicate b 32
theorem sps_s (b : Nat) : sps (b + 1) = 32 :: sps b := rfl
theorem word_sp (l : List UInt8) (b : Nat) : wordL (l ++ sps b) = wordL l := by
  unfold wordL
  induction l with
  | nil =>
    cases b with
    | zero => rfl
    | succ b => rw [List.nil_append, sps_s, List.takeWhile_cons, if_neg (by decide)]; rfl
  | cons a l ih =>
    rw [List.cons_append, List.takeWhile_cons, List.takeWhile_cons]
    split
    · rw [ih]
    · rfl
theorem upq_sp (r : List UInt8) (b : Nat) : ((upq r).length = r.length ∧ upq (r ++ sps b) = r ++ sps b) ∨ ((upq r).length < r.length ∧ upq (r ++ sps b) = upq r) := by
  induction r with
  | nil =>
    refine .inl ⟨rfl, ?_⟩
    rw [List.nil_append]
    induction b with
    | zero => rfl
    | succ b ih => rw [sps_s, upq_c (by decide), ih]
  | cons a r ih =>
    by_cases h : a = 34
    · subst h
      rw [List.cons_append, upq_q, upq_q]
      exact .inr ⟨by simp, rfl⟩
    · rw [List.cons_append, upq_c h, upq_c h, List.length_cons, List.length_cons]
      rcases ih with ⟨h1, h2⟩ | ⟨h1, h2⟩
      · exact .inl ⟨by omega, by rw [h2]⟩
      · exact .inr ⟨by omega, by rw [h2]⟩
theorem lit_sp (r : List UInt8) (b : Nat) : litS (r ++ sps b) = litS r := by
  rcases upq_sp r b with ⟨h1, h2⟩ | ⟨h1, h2⟩
  · unfold litS; rw [if_pos (.inl (by rw [h2])), if_pos (.inl h1)]
  · unfold litS
    rw [h2]
    have e : ((upq r).length = (r ++ sps b).length) ↔ ((upq r).length = r.length) := by
      rw [List.length_append]; omega
    have c1 := or_congr e (Iff.refl (prn (upq r) = false))
    by_cases h : (upq r).length = r.length ∨ prn (upq r) = false
    · rw [if_pos (c1.2 h), if_pos h]
    · rw [if_neg (mt c1.1 h), if_neg h]
theorem mark_sp (c : UInt8) (r : List UInt8) (b : Nat) : mrkS c (r ++ sps b) = mrkS c r := by
  have e : (r ++ sps b).head? = some 61 ↔ r.head? = some 61 := by
    cases r with
    | nil =>
      cases b with
      | zero => exact Iff.rfl
      | succ b => rw [List.nil_append, sps_s]; simp
    | cons d r => exact Iff.rfl
  have c1 := and_congr (Iff.refl (c = 33 ∨ c = 60)) e
  unfold mrkS
  by_cases h : (c = 33 ∨ c = 60) ∧ r.head? = some 61
  · rw [if_pos (c1.2 h), if_pos h]
  · rw [if_neg (mt c1.1 h), if_neg h]
theorem stp_sp (c : UInt8) (r : List UInt8) (b : Nat) (h : cls c.toNat ≠ 2) : stp (c :: r ++ sps b) = stp (c :: r) := by
  rw [List.cons_append]
  rcases cls_cases (c.toNat : Int) with e | e | e | e | e | e | e
  · rw [stp_blank e, stp_blank e]
  · exact absurd e h
  · rw [stp_name e, stp_name e, ← List.cons_append, word_sp]
  · rw [stp_num e, stp_num e, ← List.cons_append, word_sp]
  · rw [stp_lit e, stp_lit e, lit_sp]
  · rw [stp_mark e, stp_mark e, mark_sp]
  · rw [stp_zero e, stp_zero e]
theorem tw_sp (l : List UInt8) (b : Nat) : ((l.takeWhile (fun x => x != 10)).length = l.length ∧ ((l ++ sps b).takeWhile (fun x => x != 10)).length = l.length + b) ∨ ((l.takeWhile (fun x => x != 10)).length < l.length ∧ ((l ++ sps b).takeWhile (fun x => x != 10)).length = (l.takeWhile (fun x => x != 10)).length) := by
  induction l with
  | nil =>
    refine .inl ⟨rfl, ?_⟩
    rw [List.nil_append, List.length_nil, Nat.zero_add]
    induction b with
    | zero => rfl
    | succ b ih => rw [sps_s, List.takeWhile_cons, if_pos (by decide), List.length_cons, ih]
  | cons a l ih =>
    rw [List.cons_append, List.takeWhile_cons, List.takeWhile_cons]
    by_cases h : (a != 10) = true
    · rw [if_pos h, if_pos h, List.length_cons, List.length_cons, List.length_cons]
      rcases ih with ⟨h1, h2⟩ | ⟨h1, h2⟩
      · exact .inl ⟨by omega, by omega⟩
      · exact .inr ⟨by omega, by omega⟩
    · rw [if_neg h, if_neg h]
      exact .inr ⟨by simp, rfl⟩
theorem scn_sps (b : Nat) : ∀ (f p : Nat) (acc : List Lx), b ≤ f → scn f (sps b) p acc = ⟨acc ++ [⟨0, ⟨#[]⟩, 0, ((p + b : Nat) : Int)⟩], 0, 0⟩ := by
  induction b with
  | zero => intro f p acc _; exact scn_nil
  | succ b ih =>
    intro f p acc hf
    obtain ⟨f, rfl⟩ : ∃ g, f = g + 1 := ⟨f - 1, by omega⟩
    show scn (f + 1) (32 :: sps b) p acc = _
    rw [scn_skip (stp_blank (by decide))]
    show scn f (sps b) (p + 1) acc = _
    rw [ih f (p + 1) acc (by omega), show p + 1 + b = p + (b + 1) by omega]
/-- the places of lexemes from p on, below q, in a source S -/
def Pl (S : List UInt8) : Nat → List Lx → Nat → Prop
  | p, [], q => p ≤ q
  | p, x :: ts, q => ∃ a : Nat, x.p = a ∧ p ≤ a ∧ a < q ∧ 1 ≤ x.k ∧ x.k ≤ 4 ∧ ((x.k = 1 ∨ x.k = 4) → ls x.t <+: S.drop a) ∧ Pl S (a + 1) ts q
theorem Pl.low {S : List UInt8} {p p2 q : Nat} {ts : List Lx} (h : Pl S p2 ts q) (hp : p ≤ p2) : Pl S p ts q := by
  cases ts with
  | nil => exact Nat.le_trans hp h
  | cons x ts =>
    obtain ⟨a, h1, h2, h3⟩ := h
    exact ⟨a, h1, Nat.le_trans hp h2, h3⟩
theorem tok_pre (c : UInt8) (r : List UInt8) {n : Nat} {k v : Int} {t : List UInt8} (h : stp (c :: r) = .tok n k t v) : (k = 1 ∨ k = 4) → t <+: (c :: r) := by
  rcases cls_cases (c.toNat : Int) with e | e | e | e | e | e | e
  · rw [stp_blank e] at h; cases h
  · rw [stp_rem (by rw [e]; decide) e] at h; cases h
  · rw [stp_name e] at h
    unfold nameS at h
    split at h
    · cases h
    · injection h with h1 h2 h3 h4
      subst h3
      exact fun _ => List.takeWhile_prefix _
  · rw [stp_num e] at h
    unfold numB at h
    repeat' split at h
    all_goals first | (cases h; done) | (cases h; rintro (h | h) <;> exact absurd h (by decide))
  · rw [stp_lit e] at h
    unfold litS at h
    repeat' split at h
    all_goals first | (cases h; done) | (cases h; rintro (h | h) <;> exact absurd h (by decide))
  · rw [stp_mark e] at h
    unfold mrkS at h
    split at h
    · rename_i hm
      injection h with h1 h2 h3 h4
      subst h3
      intro _
      cases r with
      | nil => exact absurd hm.2 (by simp)
      | cons d r =>
        have hd : d = 61 := by simpa using hm.2
        subst hd
        exact ⟨r, rfl⟩
    · split at h
      · cases h
      · injection h with h1 h2 h3 h4
        subst h3
        exact fun _ => ⟨r, rfl⟩
  · rw [stp_zero e] at h; cases h
theorem scn_pl (S : List UInt8) (b : Nat) (n : Nat) : ∀ (l : List UInt8), l.length ≤ n → ∀ (f g p : Nat) (acc : List Lx), l.length ≤ f → l.length + b ≤ g → S.drop p = l → p + l.length = S.length →
    ((scn f l p acc).e = (scn g (l ++ sps b) p acc).e ∧ (scn f l p acc).p = (scn g (l ++ sps b) p acc).p) ∧
    (((scn f l p acc).e = 0 ∧ ∃ ts, (scn f l p acc).l = acc ++ ts ++ [⟨0, ⟨#[]⟩, 0, (S.length : Int)⟩] ∧ (scn g (l ++ sps b) p acc).l = acc ++ ts ++ [⟨0, ⟨#[]⟩, 0, ((S.length + b : Nat) : Int)⟩] ∧ Pl S p ts S.length) ∨
      ((scn f l p acc).e ≠ 0 ∧ (scn f l p acc).l = [] ∧ (scn g (l ++ sps b) p acc).l = [] ∧ ∃ z : Nat, (scn f l p acc).p = z ∧ z < S.length)) := by
  induction n with
  | zero =>
    intro l hl f g p acc hf hg hd hp
    have : l = [] := List.eq_nil_of_length_eq_zero (by omega)
    subst this
    rw [List.nil_append, scn_nil, scn_sps b g p acc (by simpa using hg)]
    rw [List.length_nil, Nat.add_zero] at hp
    exact ⟨⟨rfl, rfl⟩, .inl ⟨rfl, [], by rw [List.append_nil, hp], by rw [List.append_nil, hp], by show p ≤ S.length; omega⟩⟩
  | succ n ih =>
    intro l hl f g p acc hf hg hd hp
    cases l with
    | nil =>
      rw [List.nil_append, scn_nil, scn_sps b g p acc (by simpa using hg)]
      rw [List.length_nil, Nat.add_zero] at hp
      exact ⟨⟨rfl, rfl⟩, .inl ⟨rfl, [], by rw [List.append_nil, hp], by rw [List.append_nil, hp], by show p ≤ S.length; omega⟩⟩
    | cons c r =>
      rw [List.length_cons] at hl hf hg hp
      obtain ⟨f, rfl⟩ : ∃ z, f = z + 1 := ⟨f - 1, by omega⟩
      obtain ⟨g, rfl⟩ : ∃ z, g = z + 1 := ⟨g - 1, by omega⟩
      have hgd := stp_good c r
      by_cases h2 : cls c.toNat = 2
      · have s1 := stp_rem (c := c) (r := r) (by rw [h2]; decide) h2
        have s2 := stp_rem (c := c) (r := r ++ sps b) (by rw [h2]; decide) h2
        rw [← List.cons_append] at s2
        rw [scn_skip s1, List.cons_append, scn_skip (by rw [← List.cons_append]; exact s2), ← List.cons_append]
        rw [s1] at hgd
        obtain ⟨m1, m2⟩ : 1 ≤ ((c :: r).takeWhile (fun x => x != 10)).length ∧ ((c :: r).takeWhile (fun x => x != 10)).length ≤ r.length + 1 := hgd
        rcases tw_sp (c :: r) b with ⟨q1, q2⟩ | ⟨q1, q2⟩
        · rw [q2, q1, List.drop_length, scn_nil, show (c :: r).length + b = (c :: r ++ sps b).length by rw [List.length_append, List.length_replicate], List.drop_length, scn_nil, List.length_append, List.length_replicate]
          rw [List.length_cons]
          refine ⟨⟨rfl, rfl⟩, .inl ⟨rfl, [], by rw [List.append_nil, hp], ?_, by show p ≤ S.length; omega⟩⟩
          rw [List.append_nil, show p + (r.length + 1 + b) = S.length + b by omega]
        · rw [q2, List.drop_append_of_le_length (by omega)]
          rw [List.length_cons] at q1
          have := ih ((c :: r).drop ((c :: r).takeWhile (fun x => x != 10)).length) (by rw [List.length_drop, List.length_cons]; omega) f g (p + ((c :: r).takeWhile (fun x => x != 10)).length) acc (by rw [List.length_drop, List.length_cons]; omega) (by rw [List.length_drop, List.length_cons]; omega) (by rw [← List.drop_drop, hd]) (by rw [List.length_drop, List.length_cons]; omega)
          rcases this with ⟨a1, ⟨a2, ts, a3, a4, a5⟩ | a2⟩
          · exact ⟨a1, .inl ⟨a2, ts, a3, a4, a5.low (by omega)⟩⟩
          · exact ⟨a1, .inr a2⟩
      · have s2 := stp_sp c r b h2
        cases h : stp (c :: r) with
        | bad e =>
          rw [h] at s2 hgd
          rw [scn_bad h, List.cons_append, scn_bad (by rw [← List.cons_append]; exact s2)]
          exact ⟨⟨rfl, rfl⟩, .inr ⟨by show e ≠ 0; rcases hgd with h | h | h <;> omega, rfl, rfl, p, rfl, by omega⟩⟩
        | skip m =>
          rw [h] at s2 hgd
          obtain ⟨m1, m2⟩ : 1 ≤ m ∧ m ≤ r.length + 1 := hgd
          rw [scn_skip h, List.cons_append, scn_skip (by rw [← List.cons_append]; exact s2), ← List.cons_append, List.drop_append_of_le_length (by rw [List.length_cons]; omega)]
          have := ih ((c :: r).drop m) (by rw [List.length_drop, List.length_cons]; omega) f g (p + m) acc (by rw [List.length_drop, List.length_cons]; omega) (by rw [List.length_drop, List.length_cons]; omega) (by rw [← List.drop_drop, hd]) (by rw [List.length_drop, List.length_cons]; omega)
          rcases this with ⟨a1, ⟨a2, ts, a3, a4, a5⟩ | a2⟩
          · exact ⟨a1, .inl ⟨a2, ts, a3, a4, a5.low (by omega)⟩⟩
          · exact ⟨a1, .inr a2⟩
        | tok m k t v =>
          rw [h] at s2 hgd
          obtain ⟨m1, m2, m3, m4⟩ : 1 ≤ m ∧ m ≤ r.length + 1 ∧ 1 ≤ k ∧ k ≤ 4 := hgd
          rw [scn_tok h, List.cons_append, scn_tok (by rw [← List.cons_append]; exact s2), ← List.cons_append, List.drop_append_of_le_length (by rw [List.length_cons]; omega)]
          have := ih ((c :: r).drop m) (by rw [List.length_drop, List.length_cons]; omega) f g (p + m) (acc ++ [⟨k, bst t, v, p⟩]) (by rw [List.length_drop, List.length_cons]; omega) (by rw [List.length_drop, List.length_cons]; omega) (by rw [← List.drop_drop, hd]) (by rw [List.length_drop, List.length_cons]; omega)
          rcases this with ⟨a1, ⟨a2, ts, a3, a4, a5⟩ | a2⟩
          · refine ⟨a1, .inl ⟨a2, ⟨k, bst t, v, p⟩ :: ts, by rw [a3]; simp, by rw [a4]; simp, p, rfl, Nat.le_refl _, by omega, m3, m4, ?_, a5.low (by omega)⟩⟩
            show (k = 1 ∨ k = 4) → ls (bst t) <+: S.drop p
            rw [ls_bst, hd]
            exact tok_pre c r h
          · exact ⟨a1, .inr a2⟩
theorem Pl.at {S : List UInt8} {q : Nat} : ∀ {ts : List Lx} {p : Nat}, Pl S p ts q → ∀ (i : Nat) (h : i < ts.length), ∃ a : Nat, ts[i].p = a ∧ p + i ≤ a ∧ a < q ∧ 1 ≤ ts[i].k ∧ ts[i].k ≤ 4 ∧ ((ts[i].k = 1 ∨ ts[i].k = 4) → ls ts[i].t <+: S.drop a) ∧ (∀ (h2 : i + 1 < ts.length), ts[i].p < ts[i + 1].p) := by
  intro ts
  induction ts with
  | nil => intro p _ i h; exact absurd h (Nat.not_lt_zero _)
  | cons x ts ih =>
    intro p hP i h
    obtain ⟨a, h1, h2, h3, h4, h5, h6, h7⟩ := hP
    cases i with
    | zero =>
      refine ⟨a, h1, by omega, h3, h4, h5, h6, fun h8 => ?_⟩
      rw [List.length_cons] at h8
      obtain ⟨b, g1, g2, _⟩ := ih h7 0 (by omega)
      show x.p < ts[0].p
      rw [h1, g1]; omega
    | succ i =>
      rw [List.length_cons] at h
      obtain ⟨b, g1, g2, g3, g4, g5, g6, g7⟩ := ih h7 i (by omega)
      exact ⟨b, g1, by omega, g3, g4, g5, g6, fun h8 => g7 (by rw [List.length_cons] at h8; omega)⟩
end Go.Proofs.YtikmaljhfckbgaaDoor
