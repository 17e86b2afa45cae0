/- Printed lexemes are scanned back: numbers and lists. -/
import Derived.Test.YtikmaljhfckbgaaDoorX
set_option linter.unusedVariables false
set_option linter.unusedSimpArgs false
namespace Go.Proofs.YtikmaljhfckbgaaDoor
open Go.Sort Go.ChangeShapes Go.WideShapes Go.ChangeAt Go.RowKit
/-- the bytes of a lexeme as it is printed -/
def pb (x : Lx) : List UInt8 := if x.k = 2 then Lib.itoa x.v else if x.k = 3 then 34 :: (ls x.t ++ [34]) else ls x.t
theorem pb_t {x : Lx} (h2 : x.k ≠ 2) (h3 : x.k ≠ 3) : pb x = ls x.t := by unfold pb; rw [if_neg h2, if_neg h3]
theorem pb_3 {x : Lx} (h2 : x.k ≠ 2) (h3 : x.k = 3) : pb x = 34 :: (ls x.t ++ [34]) := by unfold pb; rw [if_neg h2, if_pos h3]
theorem stp_blank {c : UInt8} {r : List UInt8} (h : cls c.toNat = 1) : stp (c :: r) = .skip 1 := if_pos h
def sep (r : List UInt8) : Prop := r = [] ∨ r.head? = some 32
def key (x : Lx) : Int × ByteArray × Int := (x.k, x.t, x.v)
/-- a lexeme that is scanned back -/
def Good (x : Lx) : Prop := (∀ r, sep r → stp (pb x ++ r) = .tok (pb x).length x.k (ls x.t) x.v) ∧ wrd x = [bst (pb x)] ∧ x.t.size ≤ 4000 ∧ 0 ≤ x.v ∧ x.v ≤ 9007199254740992
theorem sep_w {r : List UInt8} (h : sep r) {x : List UInt8} (hx : x.all isW = true) : wordL (x ++ r) = x := by
  unfold wordL
  induction x with
  | nil =>
    rcases h with rfl | h
    · rfl
    · cases r with
      | nil => cases h
      | cons d r =>
        have hd : d = 32 := by simpa using h
        subst hd
        rw [List.nil_append, List.takeWhile_cons, if_neg (by decide)]
  | cons a x ih =>
    rw [List.all_cons, Bool.and_eq_true] at hx
    rw [List.cons_append, List.takeWhile_cons, if_pos hx.1, ih hx.2]
theorem word_all_w (l : List UInt8) : (wordL l).all isW = true := by
  unfold wordL
  rw [List.all_eq_true]
  intro x hx
  have : ∀ l : List UInt8, x ∈ l.takeWhile isW → isW x = true := by
    intro l
    induction l with
    | nil => intro h; cases h
    | cons a l ih =>
      rw [List.takeWhile_cons]
      cases ha : isW a
      · intro h; cases h
      · rw [if_pos rfl, List.mem_cons]
        rintro (rfl | h)
        · exact ha
        · exact ih h
  exact this l hx
theorem stp_name {c : UInt8} {r : List UInt8} (h : cls c.toNat = 3) : stp (c :: r) = nameS (wordL (c :: r)) := by
  have un : stp (c :: r) = if cls c.toNat = 1 then .skip 1 else if cls c.toNat = 2 then .skip ((c :: r).takeWhile (fun x => x != 10)).length else if cls c.toNat = 3 then nameS (wordL (c :: r)) else if cls c.toNat = 4 then numB (wordL (c :: r)) else if cls c.toNat = 5 then litS r else if cls c.toNat = 6 then mrkS c r else .bad 2 := rfl
  rw [un, h, if_neg (by decide), if_neg (by decide), if_pos rfl]
theorem stp_num {c : UInt8} {r : List UInt8} (h : cls c.toNat = 4) : stp (c :: r) = numB (wordL (c :: r)) := by
  have un : stp (c :: r) = if cls c.toNat = 1 then .skip 1 else if cls c.toNat = 2 then .skip ((c :: r).takeWhile (fun x => x != 10)).length else if cls c.toNat = 3 then nameS (wordL (c :: r)) else if cls c.toNat = 4 then numB (wordL (c :: r)) else if cls c.toNat = 5 then litS r else if cls c.toNat = 6 then mrkS c r else .bad 2 := rfl
  rw [un, h, if_neg (by decide), if_neg (by decide), if_neg (by decide), if_pos rfl]
theorem stp_lit {c : UInt8} {r : List UInt8} (h : cls c.toNat = 5) : stp (c :: r) = litS r := by
  have un : stp (c :: r) = if cls c.toNat = 1 then .skip 1 else if cls c.toNat = 2 then .skip ((c :: r).takeWhile (fun x => x != 10)).length else if cls c.toNat = 3 then nameS (wordL (c :: r)) else if cls c.toNat = 4 then numB (wordL (c :: r)) else if cls c.toNat = 5 then litS r else if cls c.toNat = 6 then mrkS c r else .bad 2 := rfl
  rw [un, h, if_neg (by decide), if_neg (by decide), if_neg (by decide), if_neg (by decide), if_pos rfl]
theorem stp_mark {c : UInt8} {r : List UInt8} (h : cls c.toNat = 6) : stp (c :: r) = mrkS c r := by
  have un : stp (c :: r) = if cls c.toNat = 1 then .skip 1 else if cls c.toNat = 2 then .skip ((c :: r).takeWhile (fun x => x != 10)).length else if cls c.toNat = 3 then nameS (wordL (c :: r)) else if cls c.toNat = 4 then numB (wordL (c :: r)) else if cls c.toNat = 5 then litS r else if cls c.toNat = 6 then mrkS c r else .bad 2 := rfl
  rw [un, h, if_neg (by decide), if_neg (by decide), if_neg (by decide), if_neg (by decide), if_neg (by decide), if_pos rfl]
theorem stp_zero {c : UInt8} {r : List UInt8} (h : cls c.toNat = 0) : stp (c :: r) = .bad 2 := by
  have un : stp (c :: r) = if cls c.toNat = 1 then .skip 1 else if cls c.toNat = 2 then .skip ((c :: r).takeWhile (fun x => x != 10)).length else if cls c.toNat = 3 then nameS (wordL (c :: r)) else if cls c.toNat = 4 then numB (wordL (c :: r)) else if cls c.toNat = 5 then litS r else if cls c.toNat = 6 then mrkS c r else .bad 2 := rfl
  rw [un, h]; rfl
theorem word_cons {c : UInt8} {r : List UInt8} (h : isW c = true) : wordL (c :: r) = c :: wordL r := by
  unfold wordL; rw [List.takeWhile_cons, if_pos h]
theorem itoa_n (n : Nat) : Lib.itoa (n : Int) = Lib.decDigits n := itoa_nat n
theorem upq_back {t r : List UInt8} (h : (34 : UInt8) ∉ t) : upq (t ++ 34 :: r) = t := by
  induction t with
  | nil => exact upq_q
  | cons a t ih =>
    have ha : a ≠ 34 := fun e => h (by rw [e]; exact List.mem_cons_self)
    rw [List.cons_append, upq_c ha, ih (fun hm => h (List.mem_cons_of_mem _ hm))]
theorem tok_good (c : UInt8) (r : List UInt8) {n : Nat} {k v p : Int} {t : List UInt8} (h : stp (c :: r) = .tok n k t v) (hlen : (c :: r).length ≤ 4000) : Good ⟨k, bst t, v, p⟩ ∧ (pb ⟨k, bst t, v, p⟩).length ≤ n := by
  have hwl := word_len (c :: r)
  rcases cls_cases (c.toNat : Int) with e | e | e | e | e | e | e
  · rw [show stp (c :: r) = .skip 1 from if_pos e] at h; cases h
  · rw [stp_rem (by rw [e]; decide) e] at h; cases h
  · rw [stp_name e] at h
    unfold nameS at h
    split at h
    · cases h
    rename_i hl
    injection h with h1 h2 h3 h4
    subst h1 h2 h3 h4
    have hcw : isW c = true := isW_l (cls_3 e)
    have hpb : pb ⟨1, bst (wordL (c :: r)), 0, p⟩ = wordL (c :: r) := (pb_t (show (1 : Int) ≠ 2 by decide) (show (1 : Int) ≠ 3 by decide)).trans (ls_bst _)
    refine ⟨⟨fun q hq => ?_, ?_, ?_, by show (0 : Int) ≤ 0; omega, by show (0 : Int) ≤ _; omega⟩, by rw [hpb]; exact Nat.le_refl _⟩
    · rw [hpb]
      show _ = St.tok _ 1 (ls (bst (wordL (c :: r)))) 0
      rw [ls_bst]
      have hw := sep_w hq (word_all_w (c :: r))
      rw [word_cons hcw] at hw ⊢
      rw [List.cons_append, stp_name e]
      rw [List.cons_append] at hw
      rw [hw]
      unfold nameS
      rw [← word_cons hcw, if_neg hl]
    · unfold wrd; rw [if_pos (.inl rfl), hpb]
    · show (bst (wordL (c :: r))).size ≤ 4000; rw [bst_size]; omega
  · rw [stp_num e] at h
    unfold numB at h
    split at h
    · cases h
    rename_i hz
    split at h
    · cases h
    rename_i hv
    injection h with h1 h2 h3 h4
    subst h1 h2 h3 h4
    have hcw : isW c = true := (isW_iff c).2 (.inr (.inl (cls_4 e)))
    have hA : allD (wordL (c :: r)) = true ∧ wordL (c :: r) ≠ [] ∧ ¬ ((wordL (c :: r)).getD 0 0 = 48 ∧ 1 < (wordL (c :: r)).length) := by
      refine ⟨?_, ?_, fun hh => hz (.inr hh)⟩
      · cases hh : allD (wordL (c :: r))
        · exact absurd (.inl (by rw [hh]; rfl)) hz
        · rfl
      · rw [word_cons hcw]; simp
    have hpb : pb ⟨2, bst [], ((valF 0 (wordL (c :: r)) : Nat) : Int), p⟩ = wordL (c :: r) := by
      unfold pb; rw [if_pos rfl]
      show Lib.itoa ((valF 0 (wordL (c :: r)) : Nat) : Int) = _
      rw [itoa_n, dec_back _ hA.1 hA.2.1 hA.2.2]
    refine ⟨⟨fun q hq => ?_, ?_, by show (bst []).size ≤ 4000; rw [bst_size]; simp, by show (0 : Int) ≤ ((valF 0 (wordL (c :: r)) : Nat) : Int); omega, by show ((valF 0 (wordL (c :: r)) : Nat) : Int) ≤ _; omega⟩, by rw [hpb]; exact Nat.le_refl _⟩
    · rw [hpb]
      show _ = St.tok _ 2 (ls (bst [])) _
      rw [ls_bst]
      have hw := sep_w hq (word_all_w (c :: r))
      generalize hX : wordL (c :: r) = X at *
      have hXc : X = c :: wordL r := by rw [← hX]; exact word_cons hcw
      have h2 : stp (X ++ q) = numB (wordL (X ++ q)) := by rw [hXc, List.cons_append]; exact stp_num e
      rw [h2, hw]
      unfold numB
      rw [if_neg hz, if_neg hv]
    · unfold wrd; rw [if_neg (by rintro (h | h) <;> cases h), if_pos rfl]
      rfl
  · rw [stp_lit e] at h
    unfold litS at h
    split at h
    · cases h
    rename_i hn
    split at h
    · cases h
    rename_i hl
    injection h with h1 h2 h3 h4
    subst h1 h2 h3 h4
    have hpb : pb ⟨3, bst (upq r), 0, p⟩ = 34 :: (upq r ++ [34]) := (pb_3 (show (3 : Int) ≠ 2 by decide) rfl).trans (by rw [ls_bst])
    have hul : (upq r).length ≤ r.length := (List.takeWhile_prefix _).length_le
    refine ⟨⟨fun q hq => ?_, ?_, ?_, by show (0 : Int) ≤ 0; omega, by show (0 : Int) ≤ _; omega⟩, by rw [hpb]; simp⟩
    · rw [hpb]
      show _ = St.tok _ 3 (ls (bst (upq r))) 0
      rw [ls_bst, List.cons_append, stp_lit (by decide), List.append_assoc]
      have hb : upq (upq r ++ ([34] ++ q)) = upq r := upq_back (upq_no r)
      unfold litS
      rw [hb, if_neg (by rintro (h | h); · rw [List.length_append] at h; simp at h
                         · exact hn (.inr h)), if_neg hl]
      congr 1
      simp
    · unfold wrd; rw [if_neg (by rintro (h | h) <;> cases h), if_neg (by intro h; cases h), if_pos rfl, hpb]
      exact congrArg (fun z => [z]) (ls_ext (by rw [ls_app, ls_app, ls_bst, ls_bst]; rfl))
    · show (bst (upq r)).size ≤ 4000; rw [bst_size]; rw [List.length_cons] at hlen; omega
  · rw [stp_mark e] at h
    unfold mrkS at h
    split at h
    · rename_i hm
      injection h with h1 h2 h3 h4
      subst h1 h2 h3 h4
      have hpb : pb ⟨4, bst [c, 61], 0, p⟩ = [c, 61] := (pb_t (show (4 : Int) ≠ 2 by decide) (show (4 : Int) ≠ 3 by decide)).trans (ls_bst _)
      refine ⟨⟨fun q hq => ?_, ?_, by show (bst [c, 61]).size ≤ 4000; rw [bst_size]; simp, by show (0 : Int) ≤ 0; omega, by show (0 : Int) ≤ _; omega⟩, by rw [hpb]; exact Nat.le_refl _⟩
      · rw [hpb]
        show _ = St.tok 2 4 (ls (bst [c, 61])) 0
        rw [ls_bst, List.cons_append, stp_mark e]
        unfold mrkS
        rw [if_pos ⟨hm.1, rfl⟩]
      · unfold wrd; rw [if_pos (.inr rfl), hpb]
    · rename_i hm
      split at h
      · cases h
      rename_i h33
      injection h with h1 h2 h3 h4
      subst h1 h2 h3 h4
      have hpb : pb ⟨4, bst [c], 0, p⟩ = [c] := (pb_t (show (4 : Int) ≠ 2 by decide) (show (4 : Int) ≠ 3 by decide)).trans (ls_bst _)
      refine ⟨⟨fun q hq => ?_, ?_, by show (bst [c]).size ≤ 4000; rw [bst_size]; simp, by show (0 : Int) ≤ 0; omega, by show (0 : Int) ≤ _; omega⟩, by rw [hpb]; exact Nat.le_refl _⟩
      · rw [hpb]
        show _ = St.tok 1 4 (ls (bst [c])) 0
        rw [ls_bst, List.cons_append, List.nil_append, stp_mark e]
        unfold mrkS
        rw [if_neg (by rintro ⟨_, h2⟩; rcases hq with rfl | hq; · cases h2
                       · rw [hq] at h2; exact absurd h2 (by decide)), if_neg h33]
      · unfold wrd; rw [if_pos (.inr rfl), hpb]
  · rw [stp_zero e] at h; cases h
def pbs (l : List Lx) : Nat := (l.map (fun x => (pb x).length)).sum
/-- what a scan without an error gives: good lexemes, and the end -/
theorem scn_good (f : Nat) : ∀ (l : List UInt8) (p : Nat) (acc : List Lx), l.length ≤ 4000 → (scn f l p acc).e = 0 → (scn f l p acc).p = 0 ∧ ∃ ts q, (scn f l p acc).l = acc ++ ts ++ [⟨0, ⟨#[]⟩, 0, q⟩] ∧ (∀ x ∈ ts, Good x) ∧ pbs ts ≤ l.length ∧ ts.length ≤ l.length := by
  induction f with
  | zero =>
    intro l p acc hl he
    cases l with
    | nil => exact ⟨rfl, [], p, by rw [scn_nil, List.append_nil], (fun x hx => by cases hx), Nat.le_refl _, Nat.le_refl _⟩
    | cons c r => exact absurd he (by show ¬ (2 : Int) = 0; decide)
  | succ f ih =>
    intro l p acc hl he
    cases l with
    | nil => rw [scn_nil]; exact ⟨rfl, [], p, by rw [List.append_nil], (fun x hx => by cases hx), Nat.le_refl _, Nat.le_refl _⟩
    | cons c r =>
      have hg := stp_good c r
      cases h : stp (c :: r) with
      | bad e =>
        rw [scn_bad h] at he
        rw [h] at hg
        exact absurd he (by show ¬ e = 0; rcases hg with h | h | h <;> omega)
      | skip n =>
        rw [scn_skip h] at he ⊢
        rw [h] at hg
        obtain ⟨g1, g2⟩ : 1 ≤ n ∧ n ≤ r.length + 1 := hg
        obtain ⟨a, ts, q, b1, b2, b3, b4⟩ := ih ((c :: r).drop n) (p + n) acc (by rw [List.length_drop]; omega) he
        rw [List.length_drop] at b3 b4
        exact ⟨a, ts, q, b1, b2, by omega, by omega⟩
      | tok n k t v =>
        rw [scn_tok h] at he ⊢
        rw [h] at hg
        obtain ⟨g1, g2, g3, g4⟩ : 1 ≤ n ∧ n ≤ r.length + 1 ∧ 1 ≤ k ∧ k ≤ 4 := hg
        obtain ⟨a, ts, q, b1, b2, b3, b4⟩ := ih ((c :: r).drop n) (p + n) (acc ++ [⟨k, bst t, v, p⟩]) (by rw [List.length_drop]; omega) he
        rw [List.length_drop, List.length_cons] at b3 b4
        obtain ⟨t1, t2⟩ := tok_good c r (p := p) h hl
        refine ⟨a, ⟨k, bst t, v, p⟩ :: ts, q, ?_, ?_, ?_, ?_⟩
        · rw [b1]; simp
        · intro x hx
          rcases List.mem_cons.1 hx with rfl | hx
          · exact t1
          · exact b2 x hx
        · show (pb ⟨k, bst t, v, p⟩).length + pbs ts ≤ _
          rw [List.length_cons]; omega
        · rw [List.length_cons, List.length_cons]; omega
theorem join_cons (x y : List UInt8) (ys : List (List UInt8)) : Lib.join (x :: y :: ys) [32] = x ++ 32 :: Lib.join (y :: ys) [32] := by
  unfold Lib.join; simp [List.intercalate, List.intersperse]
/-- printed lexemes are scanned back -/
theorem scn_back (ts : List Lx) : ∀ (f p : Nat) (acc : List Lx), (∀ x ∈ ts, Good x) → (Lib.join (ts.map pb) [32]).length ≤ f → ∃ us q, scn f (Lib.join (ts.map pb) [32]) p acc = ⟨acc ++ us ++ [⟨0, ⟨#[]⟩, 0, q⟩], 0, 0⟩ ∧ us.map key = ts.map key := by
  induction ts with
  | nil => intro f p acc _ _; exact ⟨[], p, by rw [List.append_nil]; exact scn_nil, rfl⟩
  | cons x ts ih =>
    intro f p acc hG hf
    have gx := (hG x List.mem_cons_self)
    have hne : ∃ c r, pb x = c :: r := by
      cases h : pb x with
      | nil =>
        have := gx.1 [] (.inl rfl)
        rw [h] at this; cases this
      | cons c r => exact ⟨c, r, rfl⟩
    obtain ⟨c, r, hc⟩ := hne
    have hx : x = ⟨x.k, bst (ls x.t), x.v, x.p⟩ := by rw [bst_ls]
    cases ts with
    | nil =>
      have h1 : Lib.join ([x].map pb) [32] = pb x := Lib.join_one _ _
      rw [h1] at hf ⊢
      have hst := gx.1 [] (.inl rfl)
      rw [List.append_nil] at hst
      rw [hc] at hf hst ⊢
      obtain ⟨f, rfl⟩ : ∃ g, f = g + 1 := ⟨f - 1, by rw [List.length_cons] at hf; omega⟩
      rw [scn_tok hst, List.drop_length, scn_nil]
      exact ⟨[⟨x.k, bst (ls x.t), x.v, p⟩], _, rfl, by show [key ⟨x.k, bst (ls x.t), x.v, p⟩] = [key x]; unfold key; rw [bst_ls]⟩
    | cons y ys =>
      have h1 : Lib.join ((x :: y :: ys).map pb) [32] = pb x ++ 32 :: Lib.join ((y :: ys).map pb) [32] := join_cons _ _ _
      rw [h1] at hf ⊢
      have hst := gx.1 (32 :: Lib.join ((y :: ys).map pb) [32]) (.inr rfl)
      rw [List.length_append, List.length_cons] at hf
      have hpl : 1 ≤ (pb x).length := by rw [hc]; simp
      obtain ⟨f, rfl⟩ : ∃ g, f = g + 1 + 1 := ⟨f - 2, by omega⟩
      have hst2 := hst
      rw [hc, List.cons_append] at hst2 ⊢
      rw [scn_tok hst2, ← List.cons_append, ← hc, List.drop_left]
      have hsk : stp (32 :: Lib.join ((y :: ys).map pb) [32]) = .skip 1 := stp_blank (by decide)
      rw [scn_skip hsk]
      show ∃ us q, scn f (Lib.join ((y :: ys).map pb) [32]) _ _ = _ ∧ _
      obtain ⟨us, q, e1, e2⟩ := ih f (p + (pb x).length + 1) (acc ++ [⟨x.k, bst (ls x.t), x.v, p⟩]) (fun z hz => hG z (List.mem_cons_of_mem _ hz)) (by omega)
      refine ⟨⟨x.k, bst (ls x.t), x.v, p⟩ :: us, q, by rw [e1]; simp, ?_⟩
      show key ⟨x.k, bst (ls x.t), x.v, p⟩ :: us.map key = key x :: (y :: ys).map key
      rw [e2]
      unfold key; rw [bst_ls]
theorem wds_good (ts : List Lx) (q : Int) (h : ∀ x ∈ ts, Good x) : wds (ts ++ [⟨0, ⟨#[]⟩, 0, q⟩]) = ts.map (fun x => bst (pb x)) := by
  unfold wds
  rw [List.flatMap_append]
  have h0 : List.flatMap wrd [(⟨0, ⟨#[]⟩, 0, q⟩ : Lx)] = [] := rfl
  rw [h0, List.append_nil]
  induction ts with
  | nil => rfl
  | cons x ts ih => rw [List.flatMap_cons, (h x List.mem_cons_self).2.1, ih (fun y hy => h y (List.mem_cons_of_mem _ hy))]; rfl
theorem prt_good (ts : List Lx) (q : Int) (h : ∀ x ∈ ts, Good x) : prt (ts ++ [⟨0, ⟨#[]⟩, 0, q⟩]) = bst (Lib.join (ts.map pb) [32]) := by
  unfold prt
  have e : (ts.map (fun x => bst (pb x))).map (·.data.toList) = ts.map pb := by
    rw [List.map_map]
    exact List.map_congr_left (fun x _ => ls_bst _)
  rw [wds_good ts q h, e]
theorem join_size (ts : List Lx) : (Lib.join (ts.map pb) [32]).length ≤ pbs ts + ts.length := by
  induction ts with
  | nil => exact Nat.le_refl _
  | cons x ts ih =>
    cases ts with
    | nil => rw [show Lib.join ([x].map pb) [32] = pb x from Lib.join_one _ _]; show _ ≤ (pb x).length + 0 + 1; omega
    | cons y ys =>
      rw [show Lib.join ((x :: y :: ys).map pb) [32] = pb x ++ 32 :: Lib.join ((y :: ys).map pb) [32] from join_cons _ _ _, List.length_append, List.length_cons]
      show _ ≤ (pb x).length + pbs (y :: ys) + ((y :: ys).length + 1)
      omega
theorem key_prt (a b : List Lx) (h : a.map key = b.map key) : prt a = prt b := by
  have hw : ∀ a b : List Lx, a.map key = b.map key → wds a = wds b := by
    intro a
    induction a with
    | nil => intro b h; cases b with
      | nil => rfl
      | cons y b => cases h
    | cons x a ih =>
      intro b h
      cases b with
      | nil => cases h
      | cons y b =>
        rw [List.map_cons, List.map_cons] at h
        injection h with h1 h2
        show wrd x ++ wds a = wrd y ++ wds b
        rw [ih b h2]
        congr 1
        unfold key at h1
        injection h1 with k1 h1
        injection h1 with k2 k3
        unfold wrd; rw [k1, k2, k3]
  unfold prt; rw [hw a b h]
/-- the whole: a scan without an error, printed and scanned again -/
theorem round_trip (s : ByteArray) (hs : s.size ≤ 1900) (he : (scan s).e = 0) : okL (scan s).l ∧ (scan s).l ≠ [] ∧ (scan (prt (scan s).l)).e = 0 ∧ okL (scan (prt (scan s).l)).l ∧ (scan (prt (scan s).l)).l.map key = (scan s).l.map key := by
  have hsc : scan s = scn s.size (ls s) 0 [] := by unfold scan; rw [if_neg (by omega)]
  rw [hsc] at he ⊢
  obtain ⟨-, ts, q, hl, hg, hp, hn⟩ := scn_good s.size (ls s) 0 [] (by rw [← ls_size]; omega) he
  rw [List.nil_append] at hl
  rw [← ls_size] at hp hn
  have okG : ∀ (us : List Lx) (q : Int), us.length ≤ 4900 → (∀ x ∈ us, x.t.size ≤ 4000 ∧ 0 ≤ x.v ∧ x.v ≤ 9007199254740992) → okL (us ++ [⟨0, ⟨#[]⟩, 0, q⟩]) := fun us q h1 h2 => by
    refine ⟨by rw [List.length_append]; show us.length + 1 ≤ 5000; omega, fun i hi => ?_⟩
    have hm : (us ++ [(⟨0, ⟨#[]⟩, 0, q⟩ : Lx)])[i] ∈ us ++ [(⟨0, ⟨#[]⟩, 0, q⟩ : Lx)] := List.getElem_mem _
    rcases List.mem_append.1 hm with h | h
    · obtain ⟨a, b, c⟩ := h2 _ h; exact ⟨by omega, by omega, by omega⟩
    · rw [List.mem_singleton] at h; rw [h]; exact ⟨by show (0 : Nat) ≤ 5000; omega, by show (-9223372036854775808 : Int) ≤ 0; omega, by show (0 : Int) ≤ _; omega⟩
  have hprt := prt_good ts q hg
  have hj := join_size ts
  rw [hl, hprt]
  have hsz : (bst (Lib.join (ts.map pb) [32])).size ≤ 3800 := by rw [bst_size]; omega
  have hsc2 : scan (bst (Lib.join (ts.map pb) [32])) = scn (bst (Lib.join (ts.map pb) [32])).size (ls (bst (Lib.join (ts.map pb) [32]))) 0 [] := by unfold scan; rw [if_neg (by omega)]
  obtain ⟨us, q2, e1, e2⟩ := scn_back ts (bst (Lib.join (ts.map pb) [32])).size 0 [] hg (by rw [bst_size]; exact Nat.le_refl _)
  rw [hsc2, ls_bst, e1, List.nil_append]
  have hul : us.length = ts.length := by have := congrArg List.length e2; rwa [List.length_map, List.length_map] at this
  have hug : ∀ x ∈ us, x.t.size ≤ 4000 ∧ 0 ≤ x.v ∧ x.v ≤ 9007199254740992 := fun x hx => by
    have hk : key x ∈ ts.map key := by rw [← e2]; exact List.mem_map_of_mem hx
    obtain ⟨y, hy, hk2⟩ := List.mem_map.1 hk
    have g := hg y hy
    unfold key at hk2
    injection hk2 with k1 h1
    injection h1 with k2 k3
    rw [← k2, ← k3]
    exact ⟨g.2.2.1, g.2.2.2.1, g.2.2.2.2⟩
  refine ⟨okG ts q (by omega) (fun x hx => ⟨(hg x hx).2.2.1, (hg x hx).2.2.2.1, (hg x hx).2.2.2.2⟩), by simp, rfl, okG us q2 (by omega) hug, ?_⟩
  show (us ++ [_]).map key = _
  rw [List.map_append, List.map_append, e2]; rfl
theorem scan_bad (s : ByteArray) (h : ((scan s).e == 0) = false) : (scan s).l = [] := by
  have key : ∀ (f : Nat) (l : List UInt8) (p : Nat) (acc : List Lx), (scn f l p acc).e ≠ 0 → (scn f l p acc).l = [] := by
    intro f
    induction f with
    | zero =>
      intro l p acc he
      cases l with
      | nil => exact absurd rfl he
      | cons c r => rfl
    | succ f ih =>
      intro l p acc he
      cases l with
      | nil => rw [scn_nil] at he; exact absurd rfl he
      | cons c r =>
        cases h : stp (c :: r) with
        | bad e => rw [scn_bad h]
        | skip n => rw [scn_skip h] at he ⊢; exact ih _ _ _ he
        | tok n k t v => rw [scn_tok h] at he ⊢; exact ih _ _ _ he
  rw [beq_eq_false_iff_ne] at h
  unfold scan at h ⊢
  split
  · rfl
  · rename_i hn
    rw [if_neg hn] at h
    exact key _ _ _ _ h
end Go.Proofs.YtikmaljhfckbgaaDoor
