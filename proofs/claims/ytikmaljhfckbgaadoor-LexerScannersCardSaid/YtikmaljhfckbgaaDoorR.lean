/- The reference's lexeme and Scan. -/
import Derived.Test.YtikmaljhfckbgaaDoorQ
set_option linter.unusedVariables false
set_option linter.unusedSimpArgs false
namespace Go.Proofs.YtikmaljhfckbgaaDoor
open Go.Sort Go.ChangeShapes Go.WideShapes Go.ChangeAt Go.RowKit
def rlR (X : St) (i : Nat) : Value := match X with
  | .tok n k t v => .tuple #[lx k (bst t) v i, .int .i64 ((i : Int) + n), .int .i64 0]
  | x => .tuple #[lx 0 ⟨#[]⟩ 0 0, .int .i64 0, .int .i64 x.e]
def m15 : ByteArray := ⟨#[40, 41, 123, 125, 44, 59, 58, 61, 60, 62, 43, 45, 42, 37, 46]⟩
theorem marks_all : ∀ n : Fin 256, let c := UInt8.ofNat n.1; (cls c.toNat = 6 → c = 33 ∨ 0 ≤ Lib.indexByte m15.data.toList c) ∧ (cls c.toNat = 0 → Lib.indexByte m15.data.toList c = -1 ∧ c ≠ 33 ∧ c ≠ 60) ∧ (c = 33 → Lib.indexByte m15.data.toList c = -1) := by decide +kernel
theorem marks_c (c : UInt8) : (cls c.toNat = 6 → c = 33 ∨ 0 ≤ Lib.indexByte m15.data.toList c) ∧ (cls c.toNat = 0 → Lib.indexByte m15.data.toList c = -1 ∧ c ≠ 33 ∧ c ≠ 60) ∧ (c = 33 → Lib.indexByte m15.data.toList c = -1) := by
  have h := marks_all ⟨c.toNat, c.toNat_lt⟩
  simp only [show UInt8.ofNat c.toNat = c from by simp] at h
  exact h
theorem cls_of_l {c : Int} (h : cls c = 3) : isL c = true := cls_3 h
theorem cls_no_l {c : Int} (h : cls c ≠ 3) : isL c = false := by
  cases hh : isL c
  · rfl
  · exact absurd (cls_l hh) h
theorem cls_no_g {c : Int} (h3 : cls c ≠ 3) (h : cls c ≠ 4) : isG c = false := by
  cases hh : isG c
  · rfl
  · exact absurd (cls_g (cls_no_l h3) hh) h
theorem cls_5 {c : Int} (h : cls c = 5) : c = 34 := by
  unfold cls at h; repeat' split at h
  all_goals simp_all
theorem cls34 {c : Int} (h : c = 34) : cls c = 5 := by subst h; decide
theorem stp_un (s : ByteArray) (i : Nat) (hi : i < s.size) : stp ((ls s).drop i) = if cls s[i].toNat = 1 then .skip 1 else if cls s[i].toNat = 2 then .skip (((ls s).drop i).takeWhile (fun x => x != 10)).length else if cls s[i].toNat = 3 then nameS (wordL ((ls s).drop i)) else if cls s[i].toNat = 4 then numB (wordL ((ls s).drop i)) else if cls s[i].toNat = 5 then litS ((ls s).drop (i + 1)) else if cls s[i].toNat = 6 then mrkS s[i] ((ls s).drop (i + 1)) else .bad 2 := by
  rw [drop_at s i hi]; rfl
theorem rlexeme_any (s : ByteArray) (i : Nat) (hi : i < s.size) (hs : s.size ≤ 10000) (w : World) (h1 : cls s[i].toNat ≠ 1) (h2 : cls s[i].toNat ≠ 2) : Calls Tryd.prog 31 #[.string s, .int .i64 i] w fun e w' => e = .returned (rlR (stp ((ls s).drop i)) i) ∧ Below w.heap.size w w' := by
  have hun := stp_un s i hi
  rw [if_neg h1, if_neg h2] at hun
  have L := Lib.hid (fun w => letter_any (s[i].toNat : Int) w)
  have G := Lib.hid (fun w => digit_any (s[i].toNat : Int) w)
  have W := Lib.hid (fun w => rword_any s i (by omega) hs w)
  have hwl := word_len ((ls s).drop i)
  rw [List.length_drop, ← ls_size] at hwl
  obtain ⟨K, hK⟩ : ∃ K : Nat, i + (wordL ((ls s).drop i)).length = K := ⟨_, rfl⟩
  have hKi : (i : Int) + ((wordL ((ls s).drop i)).length : Int) = (K : Int) := by omega
  rw [hKi] at W
  have hKK : i ≤ K ∧ K ≤ s.size := by omega
  have hx : ls (s.extract i K) = wordL ((ls s).drop i) := by
    rw [ls_ex, show K - i = (wordL ((ls s).drop i)).length by omega]
    exact (List.prefix_iff_eq_take.1 (List.takeWhile_prefix _)).symm
  have hxb : bst (wordL ((ls s).drop i)) = s.extract i K := by rw [← hx]; exact bst_ls _
  by_cases h3 : cls s[i].toNat = 3
  · rw [if_pos h3] at hun
    rw [cls_3 h3] at L
    rw [hun]
    by_cases hl : 16 < (wordL ((ls s).drop i)).length
    · have e1 : nameS (wordL ((ls s).drop i)) = .bad 3 := by unfold nameS; rw [if_pos hl]
      rw [e1]
      exact rl_long s i hi hs w L K hKK W (decide_eq_true (by omega))
    · have e1 : nameS (wordL ((ls s).drop i)) = .tok (wordL ((ls s).drop i)).length 1 (wordL ((ls s).drop i)) 0 := by unfold nameS; rw [if_neg hl]
      have := rl_name s i hi hs w L K hKK W (decide_eq_false (by omega))
      rw [e1]
      show Calls _ _ _ _ fun e w' => e = .returned (.tuple #[lx 1 (bst (wordL ((ls s).drop i))) 0 i, .int .i64 ((i : Int) + ((wordL ((ls s).drop i)).length : Int)), .int .i64 0]) ∧ _
      rw [hxb, hKi]
      exact this
  rw [if_neg h3] at hun
  rw [cls_no_l h3] at L
  by_cases h4 : cls s[i].toNat = 4
  · rw [if_pos h4] at hun
    rw [cls_4 h4] at G
    have hwp : 1 ≤ (wordL ((ls s).drop i)).length := by rw [drop_at s i hi]; exact word_pos ((isW_iff _).2 (.inr (.inl (cls_4 h4))))
    have hxs : (s.extract i K).size = (wordL ((ls s).drop i)).length := by rw [ls_size, hx]
    have N := Lib.hid (fun w => rnum_any (s.extract i K) (by omega) (by omega) w)
    rw [hx] at N
    have hgood := stp_good s[i] ((ls s).drop (i + 1))
    rw [← drop_at s i hi, hun] at hgood
    rw [hun]
    cases hb : numB (wordL ((ls s).drop i)) with
    | bad E =>
      rw [hb] at N hgood
      have hE : (E == 0) = false := by rw [beq_eq_false_iff_ne]; rcases hgood with h | h | h <;> omega
      exact rl_nbad s i hi hs w L G K hKK W 0 E N hE
    | skip n =>
      exfalso
      unfold numB at hb
      repeat' split at hb
      all_goals cases hb
    | tok n k t v =>
      have hk : k = 2 ∧ t = [] ∧ n = (wordL ((ls s).drop i)).length := by
        unfold numB at hb
        repeat' split at hb
        all_goals first | cases hb; exact ⟨rfl, rfl, rfl⟩ | cases hb
      obtain ⟨rfl, rfl, rfl⟩ := hk
      rw [hb] at N
      have := rl_num s i hi hs w L G K hKK W v 0 N (by rfl)
      show Calls _ _ _ _ fun e w' => e = .returned (.tuple #[lx 2 ⟨#[]⟩ v i, .int .i64 ((i : Int) + ((wordL ((ls s).drop i)).length : Int)), .int .i64 0]) ∧ _
      rw [hKi]
      exact this
  rw [if_neg h4] at hun
  rw [cls_no_g h3 h4] at G
  by_cases h5 : cls s[i].toNat = 5
  · rw [if_pos h5] at hun
    have h34 : ((s[i].toNat : Int) == 34) = true := by rw [beq_iff_eq]; exact cls_5 h5
    have T := Lib.hid (fun w => rtext_any s i hi hs w)
    rw [hun]
    have hre : rlR (litS ((ls s).drop (i + 1))) i = rtR ((ls s).drop (i + 1)) i := by
      unfold rlR rtR
      cases litS ((ls s).drop (i + 1)) <;> rfl
    rw [hre]
    have hform : ∃ k v a n E t, rtR ((ls s).drop (i + 1)) i = .tuple #[lx k t v a, .int .i64 n, .int .i64 E] := by
      unfold rtR
      cases litS ((ls s).drop (i + 1)) <;> exact ⟨_, _, _, _, _, _, rfl⟩
    obtain ⟨k, v, a, n, E, t, hf⟩ := hform
    rw [hf] at T ⊢
    exact rl_text s i hi hs w L G h34 k v a n E t T
  rw [if_neg h5] at hun
  have h34 : ((s[i].toNat : Int) == 34) = false := by rw [beq_eq_false_iff_ne]; exact fun h => h5 (cls34 h)
  obtain ⟨m6, m0, m33⟩ := marks_c s[i]
  have hdr := drop_at s i hi
  have hes : ls (s.extract i s.size) = s[i] :: (ls s).drop (i + 1) := by rw [← hdr, ls_ex, List.take_of_length_le (by rw [List.length_drop, ← ls_size]; exact Nat.le_refl _)]
  have P := Lib.hid (Tryd.strings_HasPrefix (s.extract i s.size) ⟨#[33, 61]⟩)
  have Q := Lib.hid (Tryd.strings_HasPrefix (s.extract i s.size) ⟨#[60, 61]⟩)
  have p1 : Lib.hasPrefix (s.extract i s.size).data.toList (⟨#[33, 61]⟩ : ByteArray).data.toList = decide (33 = s[i] ∧ ((ls s).drop (i + 1)).head? = some 61) := by rw [← hp_iff, ← hes]
  have p2 : Lib.hasPrefix (s.extract i s.size).data.toList (⟨#[60, 61]⟩ : ByteArray).data.toList = decide (60 = s[i] ∧ ((ls s).drop (i + 1)).head? = some 61) := by rw [← hp_iff, ← hes]
  rw [p1] at P
  rw [p2] at Q
  have I := Lib.hid (fun w => Tryd.strings_IndexByte m15 (s[i].toNat : Int) w)
  have e2 : ((s[i].toNat : Int).toNat.toUInt8) = s[i] := by simp
  rw [e2] at I
  have two : ((ls s).drop (i + 1)).head? = some 61 → i + 2 ≤ s.size ∧ s.extract i (i + 2) = bst [s[i], 61] := fun h => by
    cases hr : (ls s).drop (i + 1) with
    | nil => rw [hr] at h; cases h
    | cons d r =>
      rw [hr] at h
      have hd : d = 61 := by simpa using h
      subst hd
      refine ⟨?_, ls_ext ?_⟩
      · have := congrArg List.length hr; rw [List.length_drop, ← ls_size, List.length_cons] at this; omega
      · rw [ls_ex, hdr, hr, ls_bst, show i + 2 - i = 2 by omega]; rfl
  have one : s.extract i (i + 1) = bst [s[i]] := ls_ext (by rw [ls_ex, hdr, ls_bst, show i + 1 - i = 1 by omega]; rfl)
  rw [hun]
  by_cases h6 : cls s[i].toNat = 6
  · rw [if_pos h6]
    by_cases a : 33 = s[i] ∧ ((ls s).drop (i + 1)).head? = some 61
    · obtain ⟨b2, eb⟩ := two a.2
      have e1 : mrkS s[i] ((ls s).drop (i + 1)) = .tok 2 4 [s[i], 61] 0 := by unfold mrkS; rw [if_pos ⟨.inl a.1.symm, a.2⟩]
      rw [decide_eq_true a] at P
      have := rl_m2a s i hi hs w L G h34 P b2
      rw [eb] at this
      rw [e1]
      exact this
    rw [decide_eq_false a] at P
    by_cases b : 60 = s[i] ∧ ((ls s).drop (i + 1)).head? = some 61
    · obtain ⟨b2, eb⟩ := two b.2
      have e1 : mrkS s[i] ((ls s).drop (i + 1)) = .tok 2 4 [s[i], 61] 0 := by unfold mrkS; rw [if_pos ⟨.inr b.1.symm, b.2⟩]
      rw [decide_eq_true b] at Q
      have := rl_m2b s i hi hs w L G h34 P Q b2
      rw [eb] at this
      rw [e1]
      exact this
    rw [decide_eq_false b] at Q
    have hno : ¬ ((s[i] = 33 ∨ s[i] = 60) ∧ ((ls s).drop (i + 1)).head? = some 61) := by
      rintro ⟨h | h, h2⟩
      · exact a ⟨h.symm, h2⟩
      · exact b ⟨h.symm, h2⟩
    by_cases d : s[i] = 33
    · have e1 : mrkS s[i] ((ls s).drop (i + 1)) = .bad 2 := by unfold mrkS; rw [if_neg hno, if_pos d]
      rw [e1]
      rw [m33 d] at I
      exact rl_no s i hi hs w L G h34 P Q _ I (by decide)
    · have e1 : mrkS s[i] ((ls s).drop (i + 1)) = .tok 1 4 [s[i]] 0 := by unfold mrkS; rw [if_neg hno, if_neg d]
      rw [e1]
      have := rl_m1 s i hi hs w L G h34 P Q _ I (decide_eq_true ((m6 h6).resolve_left d))
      rw [one] at this
      exact this
  · rw [if_neg h6]
    have h0 : cls s[i].toNat = 0 := by rcases cls_cases (s[i].toNat : Int) with h | h | h | h | h | h | h <;> first | exact h | exact absurd h (by assumption)
    obtain ⟨n1, n33, n60⟩ := m0 h0
    rw [decide_eq_false (fun h => n33 h.1.symm)] at P
    rw [decide_eq_false (fun h => n60 h.1.symm)] at Q
    rw [n1] at I
    exact rl_no s i hi hs w L G h34 P Q _ I (by decide)
/- what is skipped -/
theorem stp_rem {c : UInt8} {r : List UInt8} (h1 : cls c.toNat ≠ 1) (h2 : cls c.toNat = 2) : stp (c :: r) = .skip ((c :: r).takeWhile (fun x => x != 10)).length := by
  have un : stp (c :: r) = if cls c.toNat = 1 then .skip 1 else if cls c.toNat = 2 then .skip ((c :: r).takeWhile (fun x => x != 10)).length else if cls c.toNat = 3 then nameS (wordL (c :: r)) else if cls c.toNat = 4 then numB (wordL (c :: r)) else if cls c.toNat = 5 then litS r else if cls c.toNat = 6 then mrkS c r else .bad 2 := rfl
  rw [un, if_neg h1, if_pos h2]
theorem cls_blank {c : UInt8} (h : c = 32 ∨ c = 9 ∨ c = 10) : cls c.toNat = 1 := by
  rcases h with rfl | rfl | rfl <;> decide
theorem cls_rem {c : UInt8} (h : c = 35) : cls c.toNat = 2 := by subst h; decide
theorem skp_true (l : List UInt8) : skp true l = (l.takeWhile (fun x => x != 10)).length + skp false (l.drop (l.takeWhile (fun x => x != 10)).length) := by
  induction l with
  | nil => rfl
  | cons c r ih =>
    by_cases h : c = 10
    · subst h
      rw [skp_go (m := true) (m2 := false) rfl rfl, List.takeWhile_cons, if_neg (by decide)]
      show 1 + skp false r = 0 + skp false (10 :: r)
      rw [skp_go (m := false) (m2 := false) rfl rfl]; omega
    · have hb : (c != 10) = true := bne_iff_ne.2 h
      rw [skp_go (m := true) (m2 := true) rfl (by rw [decide_eq_false h]; rfl), ih, List.takeWhile_cons, if_pos hb, List.length_cons, List.drop_succ_cons]; omega
theorem skp_rem (r : List UInt8) : skp false (35 :: r) = ((35 :: r).takeWhile (fun x => x != 10)).length + skp false ((35 :: r).drop ((35 :: r).takeWhile (fun x => x != 10)).length) := by
  rw [skp_go (m := false) (m2 := true) rfl rfl, skp_true, List.takeWhile_cons, if_pos (by decide), List.length_cons, List.drop_succ_cons]; omega
theorem scn_skp (n : Nat) : ∀ (l : List UInt8), l.length ≤ n → ∀ (f p : Nat) (acc : List Lx), l.length ≤ f → ∃ f2, (l.drop (skp false l)).length ≤ f2 ∧ scn f l p acc = scn f2 (l.drop (skp false l)) (p + skp false l) acc := by
  induction n with
  | zero =>
    intro l hl f p acc hf
    have : l = [] := List.eq_nil_of_length_eq_zero (by omega)
    subst this
    exact ⟨f, hf, rfl⟩
  | succ n ih =>
    intro l hl f p acc hf
    cases l with
    | nil => exact ⟨f, hf, rfl⟩
    | cons c r =>
      rw [List.length_cons] at hl hf
      obtain ⟨f, rfl⟩ : ∃ g, f = g + 1 := ⟨f - 1, by omega⟩
      by_cases hb : c = 32 ∨ c = 9 ∨ c = 10
      · have hst : stp (c :: r) = .skip 1 := if_pos (cls_blank hb)
        have hk : skp false (c :: r) = 1 + skp false r := skp_go (m := false) (m2 := false) (by rcases hb with rfl | rfl | rfl <;> rfl) (by rcases hb with rfl | rfl | rfl <;> rfl)
        obtain ⟨f2, h1, h2⟩ := ih r (by omega) f (p + 1) acc (by omega)
        rw [scn_skip hst, hk, show (1 + skp false r) = skp false r + 1 by omega, List.drop_succ_cons]
        refine ⟨f2, h1, ?_⟩
        show scn f r (p + 1) acc = _
        rw [h2, show p + 1 + skp false r = p + (skp false r + 1) by omega]
      · by_cases h35 : c = 35
        · subst h35
          have hst : stp (35 :: r) = .skip ((35 :: r).takeWhile (fun x => x != 10)).length :=
            stp_rem (by decide) (by decide)
          have hge : 1 ≤ ((35 :: r).takeWhile (fun x => x != 10)).length := by rw [List.takeWhile_cons, if_pos (by decide)]; simp
          rw [scn_skip hst, skp_rem]
          obtain ⟨f2, h1, h2⟩ := ih ((35 :: r).drop ((35 :: r).takeWhile (fun x => x != 10)).length) (by rw [List.length_drop, List.length_cons]; omega) f (p + ((35 :: r).takeWhile (fun x => x != 10)).length) acc (by rw [List.length_drop, List.length_cons]; omega)
          rw [List.drop_drop] at h1 h2
          refine ⟨f2, h1, ?_⟩
          rw [h2, Nat.add_assoc]
        · have hk : skp false (c :: r) = 0 := skp_no (m := false) (by
            rw [decide_eq_false (fun h => hb (.inl h)), decide_eq_false (fun h => hb (.inr (.inl h))), decide_eq_false (fun h => hb (.inr (.inr h))), decide_eq_false h35]; rfl)
          rw [hk]
          exact ⟨f + 1, by rw [List.drop_zero, List.length_cons]; omega, rfl⟩
theorem skp_stop (l : List UInt8) : ∀ n, l.length ≤ n → ∀ c r, l.drop (skp false l) = c :: r → cls c.toNat ≠ 1 ∧ cls c.toNat ≠ 2 := by
  intro n
  induction n generalizing l with
  | zero => intro hl c r h; have : l = [] := List.eq_nil_of_length_eq_zero (by omega); subst this; cases h
  | succ n ih =>
    intro hl c r h
    cases l with
    | nil => cases h
    | cons d q =>
      rw [List.length_cons] at hl
      by_cases hb : d = 32 ∨ d = 9 ∨ d = 10
      · have hk : skp false (d :: q) = 1 + skp false q := skp_go (m := false) (m2 := false) (by rcases hb with rfl | rfl | rfl <;> rfl) (by rcases hb with rfl | rfl | rfl <;> rfl)
        rw [hk, show (1 + skp false q) = skp false q + 1 by omega, List.drop_succ_cons] at h
        exact ih q (by omega) c r h
      · by_cases h35 : d = 35
        · subst h35
          have hge : 1 ≤ ((35 :: q).takeWhile (fun x => x != 10)).length := by rw [List.takeWhile_cons, if_pos (by decide)]; simp
          rw [skp_rem, ← List.drop_drop] at h
          exact ih _ (by rw [List.length_drop, List.length_cons]; omega) c r h
        · have hk : skp false (d :: q) = 0 := skp_no (m := false) (by
            rw [decide_eq_false (fun h => hb (.inl h)), decide_eq_false (fun h => hb (.inr (.inl h))), decide_eq_false (fun h => hb (.inr (.inr h))), decide_eq_false h35]; rfl)
          rw [hk, List.drop_zero] at h
          injection h with h1 h2
          subst h1
          unfold cls
          have i1 : ¬ ((d.toNat : Int) = 32 ∨ (d.toNat : Int) = 9 ∨ (d.toNat : Int) = 10) := by
            rintro (h | h | h)
            · exact hb (.inl (UInt8.toNat_inj.1 (by show d.toNat = 32; omega)))
            · exact hb (.inr (.inl (UInt8.toNat_inj.1 (by show d.toNat = 9; omega))))
            · exact hb (.inr (.inr (UInt8.toNat_inj.1 (by show d.toNat = 10; omega))))
          have i2 : ¬ (d.toNat : Int) = 35 := fun h => h35 (UInt8.toNat_inj.1 (by show d.toNat = 35; omega))
          rw [if_neg i1, if_neg i2]
          repeat' split
          all_goals decide
end Go.Proofs.YtikmaljhfckbgaaDoor
