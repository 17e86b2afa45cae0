/- The lexeme at the beginning of a source; what a scan gives. -/
import Derived.Test.YtikmaljhfckbgaaDoorI
set_option linter.unusedVariables false
set_option linter.unusedSimpArgs false
namespace Go.Proofs.YtikmaljhfckbgaaDoor
open Go.Sort Go.ChangeShapes Go.WideShapes Go.ChangeAt Go.RowKit
theorem ct_up (s : ByteArray) : ctF s 34 = decide ((upq (ls s)).length < (ls s).length) ∧ (ctF s 34 = true → ls (ctA s 34) = upq (ls s)) := by
  have h := ib_tw (ls s) 34
  have hp : (upq (ls s)) <+: ls s := List.takeWhile_prefix _
  unfold ctF ctA
  change (decide (0 ≤ Lib.indexByte (ls s) 34) = _) ∧ _
  have h2 : Lib.indexByte s.data.toList 34 = Lib.indexByte (ls s) 34 := rfl
  rw [h2]
  change Lib.indexByte (ls s) 34 = if (upq (ls s)).length < (ls s).length then ((upq (ls s)).length : Int) else -1 at h
  by_cases hlt : (upq (ls s)).length < (ls s).length
  · rw [if_pos hlt] at h
    rw [h]
    refine ⟨by rw [decide_eq_true (by omega), decide_eq_true hlt], fun _ => ?_⟩
    rw [if_pos (by omega), ls_ex, List.drop_zero, Int.toNat_natCast, Nat.sub_zero]
    exact (List.prefix_iff_eq_take.1 hp).symm
  · rw [if_neg hlt] at h
    rw [h]
    refine ⟨by rw [decide_eq_false (by omega), decide_eq_false hlt], fun h => ?_⟩
    simp at h
theorem upq_no (r : List UInt8) : (34 : UInt8) ∉ upq r := by
  induction r with
  | nil => intro h; cases h
  | cons a r ih =>
    unfold upq at ih ⊢
    rw [List.takeWhile_cons]
    by_cases h : (a != 34) = true
    · rw [if_pos h, List.mem_cons]
      rintro (h2 | h2)
      · rw [← h2] at h; exact absurd h (by decide)
      · exact ih h2
    · rw [if_neg h]; intro h2; cases h2
theorem ib_no {l : List UInt8} {c : UInt8} (h : c ∉ l) : Lib.indexByte l c = -1 := by
  have e : l.takeWhile (fun x => x != c) = l := by
    induction l with
    | nil => rfl
    | cons a r ih =>
      have : (a != c) = true := by rw [bne_iff_ne]; rintro rfl; exact h (List.mem_cons_self)
      rw [List.takeWhile_cons, if_pos this, ih (fun hm => h (List.mem_cons_of_mem _ hm))]
  rw [ib_tw, e, if_neg (by omega)]
theorem ex1_ls (s : ByteArray) : ls (s.extract 1 s.size) = (ls s).drop 1 := by
  rw [ls_ex, List.take_of_length_le (by rw [List.length_drop, ← ls_size]; exact Nat.le_refl _)]
theorem ex_sz (s : ByteArray) (i : Nat) : (s.extract i s.size).size = s.size - i := by rw [ls_size, ls_ex, List.length_take, List.length_drop, ← ls_size]; omega
theorem lit_any (s : ByteArray) (h0 : 1 ≤ s.size) (hs : s.size ≤ 10000) (w : World) : Calls Tryd.prog 50 #[.string s] w fun e w' => e = .returned (litS ((ls s).drop 1)).r ∧ Below w.heap.size w w' := by
  obtain ⟨R, hR⟩ : ∃ R, s.extract 1 s.size = R := ⟨_, rfl⟩
  have hRl : ls R = (ls s).drop 1 := by rw [← hR, ex1_ls]
  have hRs : R.size ≤ 10000 := by rw [← hR, ex_sz]; omega
  have K := Lib.hid (fun w => scut1 R 34 (by unfold maxLen; omega) w)
  obtain ⟨c1, c2⟩ := ct_up R
  have hAs : (ctA R 34).size ≤ 10000 := Nat.le_trans (ctA_size R 34) hRs
  have P := Lib.hid (fun w => isprint_any (ctA R 34) (by omega) w)
  have C := Lib.hid (fun w => clone_any (ctA R 34) hAs w)
  rw [← hRl]
  rw [← hR] at K
  cases hf : ctF R 34
  · have e1 : litS (ls R) = .bad 2 := by
      unfold litS
      rw [hf] at c1
      have : ¬ (upq (ls R)).length < (ls R).length := of_decide_eq_false c1.symm
      have hle : (upq (ls R)).length ≤ (ls R).length := (List.takeWhile_prefix _).length_le
      rw [if_pos (.inl (by omega))]
    rw [e1]
    rw [hR] at K; rw [← hR] at K
    rw [← hR] at hf
    exact li_nf s w h0 hs _ _ _ (by rw [hR]; exact hAs) K hf
  have hA := c2 hf
  have hlt : (upq (ls R)).length < (ls R).length := by rw [hf] at c1; exact of_decide_eq_true c1.symm
  have hsz : (ctA R 34).size = (upq (ls R)).length := by rw [ls_size, hA]
  rw [hA] at P
  cases hp : prn (upq (ls R))
  · have e1 : litS (ls R) = .bad 2 := by unfold litS; rw [if_pos (.inr hp)]
    rw [hp] at P
    rw [e1]
    subst hR
    exact li_np s w h0 hs _ _ _ hAs K hf P
  rw [hp] at P
  have hnn : ¬ ((upq (ls R)).length = (ls R).length ∨ prn (upq (ls R)) = false) := by
    rintro (h | h)
    · omega
    · rw [hp] at h; cases h
  by_cases hl : 100 < (upq (ls R)).length
  · have e1 : litS (ls R) = .bad 3 := by unfold litS; rw [if_neg hnn, if_pos hl]
    rw [e1]
    have L := Lib.hid (fun w => isl_long (ctA R 34) (decide_eq_false (by omega)) w)
    subst hR
    exact li_long s w h0 hs _ _ _ hAs K hf P L
  · have e1 : litS (ls R) = .tok ((upq (ls R)).length + 2) 3 (upq (ls R)) 0 := by unfold litS; rw [if_neg hnn, if_neg hl]
    have e2 : (St.tok ((upq (ls R)).length + 2) 3 (upq (ls R)) 0).r = .tuple #[.int .i64 (((ctA R 34).size : Int) + 2), lx 3 (ctA R 34) 0 0, .int .i64 0] := by
      show Value.tuple _ = _
      rw [show (St.tok ((upq (ls R)).length + 2) 3 (upq (ls R)) 0).t = ctA R 34 from by show bst (upq (ls R)) = _; rw [← hA]; exact bst_ls _, hsz]
      rfl
    rw [e1, e2]
    have hC : ∀ w, Calls Tryd.prog 81 #[.string (ctA R 34), .string ⟨#[34]⟩] w fun e w' => e = .returned (.bool false) ∧ w' = w := fun w => by
      have := Tryd.strings_Contains_one (ctA R 34) 34 w
      rw [show (ctA R 34).data.toList = upq (ls R) from hA, ib_no (upq_no _)] at this
      exact this
    have L := Lib.hid (fun w => isl_ok (ctA R 34) (decide_eq_true (by omega)) P (Lib.hid hC) w)
    subst hR
    exact li_ok s w h0 hs _ _ _ hAs K hf P L C
theorem hp_iff (a : UInt8) (c : UInt8) (r : List UInt8) : Lib.hasPrefix (c :: r) [a, 61] = decide (a = c ∧ r.head? = some 61) := by
  unfold Lib.hasPrefix
  rw [Bool.eq_iff_iff, decide_eq_true_iff]
  cases r with
  | nil => simp [List.isPrefixOf]
  | cons d r =>
    show ((a == c) && ((61 == d) && true)) = true ↔ a = c ∧ some d = some 61
    rw [Bool.and_true, Bool.and_eq_true, beq_iff_eq, beq_iff_eq]
    constructor
    · rintro ⟨h, rfl⟩; exact ⟨h, rfl⟩
    · rintro ⟨h, h2⟩; injection h2 with h2; exact ⟨h, h2.symm⟩
theorem mark_any (s : ByteArray) (c : UInt8) (r : List UInt8) (hl : ls s = c :: r) (hs : s.size ≤ 10000) (w : World) : Calls Tryd.prog 51 #[.string s] w fun e w' => e = .returned (mrkS c r).r ∧ Below w.heap.size w w' := by
  have h1 : 1 ≤ s.size := by rw [ls_size, hl]; simp
  have P := Lib.hid (Tryd.strings_HasPrefix s ⟨#[33, 61]⟩)
  have Q := Lib.hid (Tryd.strings_HasPrefix s ⟨#[60, 61]⟩)
  have hc : s[0] = c := by have := getD_at s 0 h1; rw [hl] at this; simpa using this.symm
  have p1 : Lib.hasPrefix s.data.toList (⟨#[33, 61]⟩ : ByteArray).data.toList = decide (33 = c ∧ r.head? = some 61) := by rw [← hp_iff, ← hl]
  have p2 : Lib.hasPrefix s.data.toList (⟨#[60, 61]⟩ : ByteArray).data.toList = decide (60 = c ∧ r.head? = some 61) := by rw [← hp_iff, ← hl]
  rw [p1] at P
  rw [p2] at Q
  have two : r.head? = some 61 → 2 ≤ s.size ∧ s.extract 0 2 = bst [c, 61] := fun h => by
    cases r with
    | nil => cases h
    | cons d r =>
      have hd : d = 61 := by simpa using h
      subst hd
      exact ⟨by rw [ls_size, hl]; simp, ls_ext (by rw [ls_ex, hl, ls_bst]; rfl)⟩
  have one : s.extract 0 1 = bst [c] := ls_ext (by rw [ls_ex, hl, ls_bst]; rfl)
  by_cases a : 33 = c ∧ r.head? = some 61
  · obtain ⟨h2, e2⟩ := two a.2
    have e1 : mrkS c r = .tok 2 4 [c, 61] 0 := by unfold mrkS; rw [if_pos ⟨.inl a.1.symm, a.2⟩]
    rw [decide_eq_true a] at P
    rw [e1]
    have := mk_a s w hs h2 P (Lib.hid (fun w => clone_any (s.extract 0 2) (by rw [e2, bst_size]; simp) w))
    rw [e2] at this
    exact this
  rw [decide_eq_false a] at P
  by_cases b : 60 = c ∧ r.head? = some 61
  · obtain ⟨h2, e2⟩ := two b.2
    have e1 : mrkS c r = .tok 2 4 [c, 61] 0 := by unfold mrkS; rw [if_pos ⟨.inr b.1.symm, b.2⟩]
    rw [decide_eq_true b] at Q
    rw [e1]
    have := mk_b s w hs h2 P Q (Lib.hid (fun w => clone_any (s.extract 0 2) (by rw [e2, bst_size]; simp) w))
    rw [e2] at this
    exact this
  rw [decide_eq_false b] at Q
  have hno : ¬ ((c = 33 ∨ c = 60) ∧ r.head? = some 61) := by
    rintro ⟨h | h, h2⟩
    · exact a ⟨h.symm, h2⟩
    · exact b ⟨h.symm, h2⟩
  by_cases d : c = 33
  · have e1 : mrkS c r = .bad 2 := by unfold mrkS; rw [if_neg hno, if_pos d]
    rw [e1]
    exact mk_c s w hs h1 (by rw [hc, d]; rfl) P Q
  · have e1 : mrkS c r = .tok 1 4 [c] 0 := by unfold mrkS; rw [if_neg hno, if_neg d]
    rw [e1]
    have := mk_d s w hs h1 (by rw [hc, beq_eq_false_iff_ne]; intro h; exact d (UInt8.toNat_inj.1 (by show c.toNat = 33; omega))) P Q (Lib.hid (fun w => clone_any (s.extract 0 1) (by rw [one, bst_size]; simp) w))
    rw [one] at this
    exact this
theorem cls_cases (c : Int) : cls c = 1 ∨ cls c = 2 ∨ cls c = 3 ∨ cls c = 4 ∨ cls c = 5 ∨ cls c = 6 ∨ cls c = 0 := by
  unfold cls
  repeat' split
  all_goals simp
theorem lexeme_any (s : ByteArray) (h0 : 0 < s.size) (hs : s.size ≤ 10000) (w : World) (hT : LT w) : Calls Tryd.prog 29 #[.string s] w fun e w' => e = .returned (stp (ls s)).r ∧ Below w.heap.size w w' := by
  have KC := Lib.hid (fun w => cls_any (s[0].toNat : Int) (by omega) w)
  have HT := Lib.hid hT
  have hl : ls s = s[0] :: (ls s).drop 1 := by have := drop_at s 0 h0; rwa [List.drop_zero] at this
  have W := Lib.hid (fun w => word_any s hs w)
  have hwx : ls (s.extract 0 (wordL (ls s)).length) = wordL (ls s) := by
    rw [ls_ex, List.drop_zero, Nat.sub_zero]
    exact (List.prefix_iff_eq_take.1 (List.takeWhile_prefix _)).symm
  have hws : (s.extract 0 (wordL (ls s)).length).size ≤ 10000 := by rw [ls_size, hwx]; exact Nat.le_trans (word_len _) (by rw [← ls_size]; exact hs)
  have un : stp (ls s) = if cls s[0].toNat = 1 then .skip 1 else if cls s[0].toNat = 2 then .skip ((ls s).takeWhile (fun x => x != 10)).length else if cls s[0].toNat = 3 then nameS (wordL (ls s)) else if cls s[0].toNat = 4 then numB (wordL (ls s)) else if cls s[0].toNat = 5 then litS ((ls s).drop 1) else if cls s[0].toNat = 6 then mrkS s[0] ((ls s).drop 1) else .bad 2 := by
    generalize (ls s).drop 1 = r at *
    rw [hl]; rfl
  rcases cls_cases (s[0].toNat : Int) with h | h | h | h | h | h | h
  all_goals rw [h] at KC
  · rw [un, h, if_pos rfl]
    exact lx_blank s w h0 hs KC
  · rw [un, h, if_neg (by decide), if_pos rfl]
    have I := Lib.hid (fun w => Tryd.strings_IndexByte s 10 w)
    have e10 : (10 : Int).toNat.toUInt8 = 10 := rfl
    rw [e10] at I
    have hib := ib_tw (ls s) 10
    have hle : ((ls s).takeWhile (fun x => x != 10)).length ≤ (ls s).length := (List.takeWhile_prefix _).length_le
    by_cases hlt : ((ls s).takeWhile (fun x => x != 10)).length < (ls s).length
    · rw [if_pos hlt] at hib
      rw [show Lib.indexByte s.data.toList 10 = (((ls s).takeWhile (fun x => x != 10)).length : Int) from hib] at I
      exact lx_rem1 s w h0 hs KC (((ls s).takeWhile (fun x => x != 10)).length : Int) (by omega) I
    · rw [if_neg hlt] at hib
      rw [show Lib.indexByte s.data.toList 10 = -1 from hib] at I
      have := lx_rem2 s w h0 hs KC (-1) (by omega) I
      rw [show ((ls s).takeWhile (fun x => x != 10)).length = s.size by rw [ls_size]; omega]
      exact this
  · rw [un, h, if_neg (by decide), if_neg (by decide), if_pos rfl]
    have R := Lib.hid (fun w (_ : LT w) => name_any (s.extract 0 (wordL (ls s)).length) hws w)
    rw [hwx] at R
    exact lx_name s w h0 hs KC _ W _ _ _ _ _ R HT
  · rw [un, h, if_neg (by decide), if_neg (by decide), if_neg (by decide), if_pos rfl]
    have R := Lib.hid (fun w (hT : LT w) => number_any (s.extract 0 (wordL (ls s)).length) hws w hT)
    rw [hwx] at R
    exact lx_num s w h0 hs KC _ W _ _ _ _ _ R HT
  · rw [un, h, if_neg (by decide), if_neg (by decide), if_neg (by decide), if_neg (by decide), if_pos rfl]
    have R := Lib.hid (fun w (_ : LT w) => lit_any s h0 hs w)
    exact lx_lit s w h0 hs KC _ _ _ _ _ R HT
  · rw [un, h, if_neg (by decide), if_neg (by decide), if_neg (by decide), if_neg (by decide), if_neg (by decide), if_pos rfl]
    have R := Lib.hid (fun w (_ : LT w) => mark_any s s[0] ((ls s).drop 1) hl hs w)
    exact lx_mark s w h0 hs KC _ _ _ _ _ R HT
  · rw [un, h, if_neg (by decide), if_neg (by decide), if_neg (by decide), if_neg (by decide), if_neg (by decide), if_neg (by decide)]
    exact lx_no s w h0 hs KC
/- what a scan gives -/
structure Lx where
  k : Int
  t : ByteArray
  v : Int
  p : Int
def Lx.cells (x : Lx) : List Value := [.int .i64 x.k, .string x.t, .int .i64 x.v, .int .i64 x.p]
def lxs : List Lx → List Value
  | [] => []
  | x :: l => x.cells ++ lxs l
theorem lxs_app (a b : List Lx) : lxs (a ++ b) = lxs a ++ lxs b := by
  induction a with
  | nil => rfl
  | cons x a ih => show x.cells ++ lxs (a ++ b) = _; rw [ih]; exact (List.append_assoc ..).symm
theorem lxs_snoc (a : List Lx) (x : Lx) : lxs (a ++ [x]) = lxs a ++ [.int .i64 x.k, .string x.t, .int .i64 x.v, .int .i64 x.p] := by
  rw [lxs_app]; rfl
theorem lxs_len (a : List Lx) : (lxs a).length = a.length * 4 := by
  induction a with
  | nil => rfl
  | cons x a ih => show (x.cells ++ lxs a).length = _; rw [List.length_append, ih, List.length_cons]; show 4 + _ = _; omega
structure Sc where
  l : List Lx
  e : Int
  p : Int
def scn : Nat → List UInt8 → Nat → List Lx → Sc
  | _, [], p, acc => ⟨acc ++ [⟨0, ⟨#[]⟩, 0, p⟩], 0, 0⟩
  | 0, _ :: _, p, _ => ⟨[], 2, p⟩
  | f + 1, c :: r, p, acc => match stp (c :: r) with
    | .bad e => ⟨[], e, p⟩
    | .skip n => scn f ((c :: r).drop n) (p + n) acc
    | .tok n k t v => scn f ((c :: r).drop n) (p + n) (acc ++ [⟨k, bst t, v, p⟩])
def scan (s : ByteArray) : Sc := if 4000 < s.size then ⟨[], 3, 0⟩ else scn s.size (ls s) 0 []
def St.good (n : Nat) : St → Prop
  | .bad e => e = 2 ∨ e = 3 ∨ e = 4
  | .skip m => 1 ≤ m ∧ m ≤ n
  | .tok m k _ _ => 1 ≤ m ∧ m ≤ n ∧ 1 ≤ k ∧ k ≤ 4
theorem word_pos {c : UInt8} {r : List UInt8} (h : isW c = true) : 1 ≤ (wordL (c :: r)).length := by
  unfold wordL; rw [List.takeWhile_cons, if_pos h]; simp
theorem cls_3 {c : Int} (h : cls c = 3) : isL c = true := by
  cases hh : isL c
  · unfold cls at h; rw [hh] at h; repeat' split at h
    all_goals simp_all
  · rfl
theorem cls_4 {c : Int} (h : cls c = 4) : isG c = true := by
  cases hh : isG c
  · unfold cls at h; rw [hh] at h; repeat' split at h
    all_goals simp_all
  · rfl
theorem stp_good (c : UInt8) (r : List UInt8) : (stp (c :: r)).good (r.length + 1) := by
  have hwl := word_len (c :: r)
  rw [List.length_cons] at hwl
  have un : stp (c :: r) = if cls c.toNat = 1 then .skip 1 else if cls c.toNat = 2 then .skip ((c :: r).takeWhile (fun x => x != 10)).length else if cls c.toNat = 3 then nameS (wordL (c :: r)) else if cls c.toNat = 4 then numB (wordL (c :: r)) else if cls c.toNat = 5 then litS r else if cls c.toNat = 6 then mrkS c r else .bad 2 := rfl
  rw [un]
  split
  · exact ⟨Nat.le_refl _, by omega⟩
  split
  · rename_i h1 h2
    have h35 : (c != 10) = true := by
      rw [bne_iff_ne]; rintro rfl; exact absurd h2 (by decide)
    refine ⟨?_, ?_⟩
    · rw [List.takeWhile_cons, if_pos h35]; simp
    · have := (List.takeWhile_prefix (p := fun x : UInt8 => x != 10) (l := c :: r)).length_le
      rw [List.length_cons] at this; exact this
  split
  · rename_i h
    have hw : isW c = true := isW_l (cls_3 h)
    have := word_pos (r := r) hw
    unfold nameS
    split
    · exact .inr (.inl rfl)
    · exact ⟨this, hwl, by decide, by decide⟩
  split
  · rename_i h
    have hG := cls_4 h
    have hw : isW c = true := (isW_iff c).2 (.inr (.inl hG))
    have := word_pos (r := r) hw
    unfold numB
    split
    · exact .inl rfl
    split
    · exact .inr (.inr rfl)
    · exact ⟨this, hwl, by decide, by decide⟩
  split
  · unfold litS
    have hu : (upq r).length ≤ r.length := (List.takeWhile_prefix _).length_le
    split
    · exact .inl rfl
    split
    · exact .inr (.inl rfl)
    · rename_i h1 h2
      refine ⟨by omega, ?_, by decide, by decide⟩
      have : (upq r).length ≠ r.length := fun h => h1 (.inl h)
      omega
  split
  · unfold mrkS
    split
    · rename_i h
      refine ⟨by decide, ?_, by decide, by decide⟩
      cases r with
      | nil => exact absurd h.2 (by simp)
      | cons d r => simp
    split
    · exact .inl rfl
    · exact ⟨by decide, by omega, by decide, by decide⟩
  · exact .inl rfl
end Go.Proofs.YtikmaljhfckbgaaDoor
