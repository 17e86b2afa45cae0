/- Parse of the program, for any text. -/
import Derived.Test.YtompeealmgdfhaaDoorMc
set_option linter.unusedVariables false
set_option linter.unusedSimpArgs false
namespace Go.Proofs.YtompeealmgdfhaaDoor
open Go.Sort Go.ChangeShapes Go.WideShapes Go.ChangeAt Go.RowKit
open div
abbrev ls (s : ByteArray) : List UInt8 := s.data.toList
theorem ls_ext {a b : ByteArray} (h : ls a = ls b) : a = b := ByteArray.ext (Array.toList_inj.1 h)
theorem ls_size (s : ByteArray) : s.size = (ls s).length := rfl
theorem ls_app (a b : ByteArray) : ls (a ++ b) = ls a ++ ls b := by simp [ls]
theorem ls_ex (s : ByteArray) (i j : Nat) : ls (s.extract i j) = ((ls s).drop i).take (j - i) := by simp [ls, ByteArray.data_extract, Array.toList_extract, List.extract]
theorem ls_tl (s : ByteArray) : s.toList = ls s := ByteArray.toList_eq ..
theorem ctA_size (s : ByteArray) (c : UInt8) : (ctA s c).size ≤ s.size := by
  unfold ctA; split
  · rw [ls_size, ls_ex, ls_size s, List.length_take, List.length_drop]; omega
  · exact Nat.le_refl _
theorem ctB_size (s : ByteArray) (c : UInt8) : (ctB s c).size ≤ s.size := by
  unfold ctB; split
  · rw [ls_size, ls_ex, ls_size s, List.length_take, List.length_drop]; omega
  · exact Nat.zero_le _
theorem cut_spec {s : ByteArray} {c : UInt8} (h : ctF s c = true) : ls s = ls (ctA s c) ++ c :: ls (ctB s c) ∧ c ∉ ls (ctA s c) := by
  have h0 : 0 ≤ Lib.indexByte s.data.toList c := by simpa [ctF] using h
  obtain ⟨k, hk⟩ : ∃ k : Nat, Lib.indexByte s.data.toList c = k := ⟨(Lib.indexByte s.data.toList c).toNat, by omega⟩
  obtain ⟨g1, g2⟩ := Lib.indexByte_some hk
  have hlt : k < (ls s).length := by
    rcases Nat.lt_or_ge k (ls s).length with h | h
    · exact h
    · rw [show s.data.toList[k]? = none from List.getElem?_eq_none h] at g1; cases g1
  have ea : ls (ctA s c) = (ls s).take k := by unfold ctA; rw [if_pos h0, ls_ex, hk]; simp
  have eb : ls (ctB s c) = (ls s).drop (k + 1) := by
    unfold ctB; rw [if_pos h0, ls_ex, hk, ls_size]
    exact List.take_of_length_le (by rw [List.length_drop, Int.toNat_natCast]; omega)
  have hc : (ls s)[k] = c := by
    have : (ls s)[k]? = some c := g1
    rw [List.getElem?_eq_getElem hlt] at this
    exact Option.some.inj this
  constructor
  · rw [ea, eb]
    conv => lhs; rw [← List.take_append_drop k (ls s), List.drop_eq_getElem_cons hlt, hc]
  · rw [ea]
    intro hm
    obtain ⟨j, hj, he⟩ := List.mem_iff_getElem.1 hm
    rw [List.length_take] at hj
    rw [List.getElem_take] at he
    refine g2 j (by omega) ?_
    show (ls s)[j]? = some c
    rw [List.getElem?_eq_getElem (by omega), he]
theorem cut_of {s : ByteArray} {c : UInt8} {x y : List UInt8} (hx : c ∉ x) (h : ls s = x ++ c :: y) : ls (ctA s c) = x ∧ ls (ctB s c) = y ∧ ctF s c = true := by
  have hi := idx_in s.data.toList c
  have hlt : x.length < (ls s).length := by rw [h, List.length_append, List.length_cons]; omega
  have hat : (ls s)[x.length]? = some c := by rw [h, List.getElem?_append_right (Nat.le_refl _), Nat.sub_self]; rfl
  have hk : Lib.indexByte s.data.toList c = x.length := by
    by_cases hneg : Lib.indexByte s.data.toList c = -1
    · exact absurd hat (Lib.indexByte_none hneg x.length)
    · obtain ⟨k, hk⟩ : ∃ k : Nat, Lib.indexByte s.data.toList c = k := ⟨(Lib.indexByte s.data.toList c).toNat, by omega⟩
      obtain ⟨g1, g2⟩ := Lib.indexByte_some hk
      rw [hk]
      rcases Nat.lt_trichotomy k x.length with h1 | h1 | h1
      · exfalso
        have g3 : (ls s)[k]? = some c := g1
        rw [h, List.getElem?_append_left h1, List.getElem?_eq_getElem h1] at g3
        exact hx (Option.some.inj g3 ▸ List.getElem_mem h1)
      · rw [h1]
      · exact absurd hat (g2 x.length h1)
  have h0 : 0 ≤ Lib.indexByte s.data.toList c := by omega
  refine ⟨?_, ?_, ?_⟩
  · unfold ctA; rw [if_pos h0, ls_ex, hk, h]; simp
  · unfold ctB; rw [if_pos h0, ls_ex, hk, ls_size, h]
    rw [Int.toNat_natCast, show x ++ c :: y = (x ++ [c]) ++ y by simp, show x.length + 1 = (x ++ [c]).length by simp, List.drop_left]
    exact List.take_of_length_le (by simp; omega)
  · unfold ctF; exact decide_eq_true h0
structure Ps where
  a : Int
  c : ByteArray
  e : Int
def negB (N : ByteArray) : Bool := Lib.hasPrefix N.data.toList [45]
def stripB (N : ByteArray) : ByteArray := ⟨(Lib.trimPrefix N.data.toList [45]).toArray⟩
theorem strip_ls (N : ByteArray) : ls (stripB N) = if negB N = true then (ls N).drop 1 else ls N := by
  unfold stripB negB Lib.trimPrefix; split
  · rfl
  · rfl
theorem neg_ls {N : ByteArray} (h : negB N = true) : ls N = 45 :: ls (stripB N) := by
  rw [strip_ls, if_pos h]
  unfold negB Lib.hasPrefix at h
  obtain ⟨t, ht⟩ := List.isPrefixOf_iff_prefix.1 h
  show N.data.toList = _
  rw [← ht]
  show 45 :: t = 45 :: List.drop 1 (N.data.toList)
  rw [← ht]
  rfl
theorem strip_size (N : ByteArray) : (stripB N).size ≤ N.size := by
  rw [ls_size, strip_ls, ls_size N]
  split
  · rw [List.length_drop]; omega
  · exact Nat.le_refl _
def fmB (N : ByteArray) (p : Int) : Bool := ctF N 46 && (!(((ctB N 46).size : Int) != p) && (isD (ctB N 46) && isW (ctA N 46)))
def tailP (g : Bool) (D C : ByteArray) : Ps := if valF 0 (ls D) ≤ 4503599627370496 then (if g = true then (if valF 0 (ls D) = 0 then ⟨0, ⟨#[]⟩, 2⟩ else ⟨-((valF 0 (ls D) : Nat) : Int), C, 0⟩) else ⟨((valF 0 (ls D) : Nat) : Int), C, 0⟩) else ⟨0, ⟨#[]⟩, 4⟩
def prs (s : ByteArray) : Ps :=
  if (s.toList == []) = true then ⟨0, ⟨#[]⟩, 1⟩
  else if curL (ctB s 32).data.toList = false then ⟨0, ⟨#[]⟩, 2⟩
  else if decide (0 < exV (ctB s 32)) = true then
    (if fmB (stripB (ctA s 32)) (exV (ctB s 32)) = true then tailP (negB (ctA s 32)) (ctA (stripB (ctA s 32)) 46 ++ ctB (stripB (ctA s 32)) 46) (ctB s 32) else ⟨0, ⟨#[]⟩, 2⟩)
  else (if isW (stripB (ctA s 32)) = true then tailP (negB (ctA s 32)) (stripB (ctA s 32)) (ctB s 32) else ⟨0, ⟨#[]⟩, 2⟩)
theorem isD_ls {D : ByteArray} (h : isD D = true) : allD (ls D) = true ∧ ls D ≠ [] := by
  have h0 := isD_size h
  unfold isD at h
  rw [Bool.and_eq_true] at h
  exact ⟨h.1, fun e => by rw [ls_size, e] at h0; simp at h0⟩
theorem isD_mk {D : ByteArray} (h : allD (ls D) = true) (h0 : ls D ≠ []) : isD D = true := isD_of D h (by rw [ls_size]; intro e; exact h0 (List.length_eq_zero_iff.1 e))
theorem tail_of (g : Bool) (D C : ByteArray) (hd : isD D = true) (hz : D.size ≤ 300) (Q : Ps → Prop)
    (q1 : ∀ v, RngC D v → Q ⟨0, ⟨#[]⟩, 4⟩)
    (q2 : ∀ v, IntC D v → decide (4503599627370496 < v) = true → Q ⟨0, ⟨#[]⟩, 4⟩)
    (q3 : ∀ v, IntC D v → decide (4503599627370496 < v) = false → g = true → (v == 0) = true → Q ⟨0, ⟨#[]⟩, 2⟩)
    (q4 : ∀ v, IntC D v → decide (4503599627370496 < v) = false → g = true → (v == 0) = false → IntKind.i64.wrap (-v) = -v → Q ⟨-v, C, 0⟩)
    (q5 : ∀ v, IntC D v → decide (4503599627370496 < v) = false → g = false → Q ⟨v, C, 0⟩) : Q (tailP g D C) := by
  obtain ⟨h1, h2⟩ := isD_ls hd
  have hp := pib (ls D) h1 h2
  unfold tailP
  generalize valF 0 (ls D) = V at *
  by_cases hV : V < 9223372036854775808
  · rw [if_pos hV] at hp
    have I : IntC D V := fun w => pint D V (by omega) hp w
    by_cases hm : V ≤ 4503599627370496
    · rw [if_pos hm]
      have hb : decide (4503599627370496 < (V : Int)) = false := decide_eq_false (by omega)
      cases g
      · rw [if_neg (by simp)]; exact q5 V I hb rfl
      · rw [if_pos rfl]
        by_cases h0 : V = 0
        · rw [if_pos h0]; exact q3 V I hb rfl (by rw [h0]; rfl)
        · rw [if_neg h0]; exact q4 V I hb rfl (by rw [beq_eq_false_iff_ne]; omega) (by rw [IntKind.wrap_i64]; omega)
    · rw [if_neg hm]; exact q2 V I (decide_eq_true (by omega))
  · rw [if_neg hV] at hp
    rw [if_neg (by omega)]
    exact q1 (Lib.intSat 64 D.data.toList) (fun w ⟨ev, hv, hev⟩ => (Tryd.strconv_ParseInt_10_at64_range D (by omega) hp ev w hv hev).mono fun e w' ⟨N, he, _, _, hb⟩ => ⟨N, he, hb⟩)
theorem parse_any (s : ByteArray) (hs : s.size ≤ 100) (w : World) (hX : XT w) (hR : RT w) :
    Calls Tryd.prog 28 #[.string s] w fun e w' => e = .returned (.tuple #[.agg #[.int .i64 (prs s).a, .string (prs s).c], .int .i64 (prs s).e]) ∧ Below w.heap.size w w' := by
  have hA := ctA_size s 32
  have hB := ctB_size s 32
  have hS := strip_size (ctA s 32)
  have hWh := ctA_size (stripB (ctA s 32)) 46
  have hFr := ctB_size (stripB (ctA s 32)) 46
  have hm : ∀ t : ByteArray, t.size ≤ 100 → t.size ≤ maxLen := fun t h => by unfold maxLen; omega
  have C1 : CutC s 32 (ctA s 32) (ctB s 32) (ctF s 32) := fun w => scut1 s 32 (hm _ hs) w
  have P1 : PreC (ctA s 32) (stripB (ctA s 32)) (negB (ctA s 32)) := fun w => Tryd.strings_CutPrefix (ctA s 32) ⟨#[45]⟩ w
  unfold prs
  cases h0 : (s.toList == [])
  · rw [if_neg (by simp)]
    cases h1 : curL (ctB s 32).data.toList
    · rw [if_pos rfl]
      exact pw_cur s _ _ _ w h0 hX hR C1 (fun w => expo_no (ctB s 32) (hm _ (by omega)) h1 w)
    · rw [if_neg (by simp)]
      have X1 : ExpC (ctB s 32) (exV (ctB s 32)) := fun w h => expo_yes (ctB s 32) (hm _ (by omega)) h1 w h
      cases h2 : decide (0 < exV (ctB s 32))
      · rw [if_neg (by simp)]
        cases h3 : isW (stripB (ctA s 32))
        · rw [if_neg (by simp)]
          exact pz_nw s _ _ _ w h0 hX hR C1 _ X1 _ _ P1 h2 (fun w => h3 ▸ whole_any _ (hm _ (by omega)) w)
        · rw [if_pos rfl]
          have W1 : WhoC (stripB (ctA s 32)) true := fun w => h3 ▸ whole_any _ (hm _ (by omega)) w
          have hd : isD (stripB (ctA s 32)) = true := by unfold isW at h3; rw [Bool.and_eq_true] at h3; exact h3.1
          exact tail_of (negB (ctA s 32)) _ (ctB s 32) hd (by omega) (fun r => Calls Tryd.prog 28 #[.string s] w fun e w' => e = .returned (.tuple #[.agg #[.int .i64 r.a, .string r.c], .int .i64 r.e]) ∧ Below w.heap.size w w')
            (fun v I => pz_rng s _ _ _ w h0 hX hR C1 _ X1 _ _ P1 h2 W1 v I)
            (fun v I hb => pz_big s _ _ _ w h0 hX hR C1 _ X1 _ _ P1 h2 W1 v I hb)
            (fun v I hb hg hv => pz_nz s _ _ _ w h0 hX hR C1 _ X1 _ _ P1 h2 W1 v I hb hg hv)
            (fun v I hb hg hv hw => pz_neg s _ _ _ w h0 hX hR C1 _ X1 _ _ P1 h2 W1 v I hb hg hv hw)
            (fun v I hb hg => pz_pos s _ _ _ w h0 hX hR C1 _ X1 _ _ P1 h2 W1 v I hb hg)
      · rw [if_pos rfl]
        have C2 : CutC (stripB (ctA s 32)) 46 (ctA (stripB (ctA s 32)) 46) (ctB (stripB (ctA s 32)) 46) (ctF (stripB (ctA s 32)) 46) := fun w => scut1 _ 46 (hm _ (by omega)) w
        unfold fmB
        cases f1 : ctF (stripB (ctA s 32)) 46
        · rw [if_neg (by simp)]
          exact pf_nf s _ _ _ w h0 hX hR C1 _ X1 _ _ P1 h2 _ _ _ C2 f1
        · cases f2 : (((ctB (stripB (ctA s 32)) 46).size : Int) != exV (ctB s 32))
          · cases f3 : isD (ctB (stripB (ctA s 32)) 46)
            · rw [if_neg (by simp)]
              exact pf_nd s _ _ _ w h0 hX hR C1 _ X1 _ _ P1 h2 _ _ _ C2 f1 f2 (fun w => f3 ▸ isdigits_any _ w (hm _ (by omega)))
            · have D1 : DigC (ctB (stripB (ctA s 32)) 46) true := fun w => f3 ▸ isdigits_any _ w (hm _ (by omega))
              cases f4 : isW (ctA (stripB (ctA s 32)) 46)
              · rw [if_neg (by simp)]
                exact pf_nw s _ _ _ w h0 hX hR C1 _ X1 _ _ P1 h2 _ _ _ C2 f1 f2 D1 (fun w => f4 ▸ whole_any _ (hm _ (by omega)) w)
              · rw [if_pos (show (true && (!false && (true && true))) = true from rfl)]
                have W1 : WhoC (ctA (stripB (ctA s 32)) 46) true := fun w => f4 ▸ whole_any _ (hm _ (by omega)) w
                have hd : isD (ctA (stripB (ctA s 32)) 46 ++ ctB (stripB (ctA s 32)) 46) = true := by
                  have e4 : isD (ctA (stripB (ctA s 32)) 46) = true := by unfold isW at f4; rw [Bool.and_eq_true] at f4; exact f4.1
                  obtain ⟨a1, a2⟩ := isD_ls e4
                  obtain ⟨b1, b2⟩ := isD_ls f3
                  refine isD_mk ?_ ?_
                  · rw [ls_app]; simp only [allD, List.all_append] at a1 b1 ⊢; rw [a1, b1]; rfl
                  · rw [ls_app]; intro e; exact a2 (List.append_eq_nil_iff.1 e).1
                exact tail_of (negB (ctA s 32)) _ (ctB s 32) hd (by rw [ByteArray.size_append]; omega) (fun r => Calls Tryd.prog 28 #[.string s] w fun e w' => e = .returned (.tuple #[.agg #[.int .i64 r.a, .string r.c], .int .i64 r.e]) ∧ Below w.heap.size w w')
                  (fun v I => pf_rng s _ _ _ w h0 hX hR C1 _ X1 _ _ P1 h2 _ _ _ C2 f1 f2 D1 W1 (by omega) (by omega) v I)
                  (fun v I hb => pf_big s _ _ _ w h0 hX hR C1 _ X1 _ _ P1 h2 _ _ _ C2 f1 f2 D1 W1 (by omega) (by omega) v I hb)
                  (fun v I hb hg hv => pf_nz s _ _ _ w h0 hX hR C1 _ X1 _ _ P1 h2 _ _ _ C2 f1 f2 D1 W1 (by omega) (by omega) v I hb hg hv)
                  (fun v I hb hg hv hw => pf_neg s _ _ _ w h0 hX hR C1 _ X1 _ _ P1 h2 _ _ _ C2 f1 f2 D1 W1 (by omega) (by omega) v I hb hg hv hw)
                  (fun v I hb hg => pf_pos s _ _ _ w h0 hX hR C1 _ X1 _ _ P1 h2 _ _ _ C2 f1 f2 D1 W1 (by omega) (by omega) v I hb hg)
          · rw [if_neg (by simp)]
            exact pf_nl s _ _ _ w h0 hX hR C1 _ X1 _ _ P1 h2 _ _ _ C2 f1 f2
  · rw [if_pos rfl]
    exact pw_empty s w h0
end Go.Proofs.YtompeealmgdfhaaDoor
