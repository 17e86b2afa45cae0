/- An amount and its text: there and back. -/
import Derived.Test.YtompeealmgdfhaaDoorMd
set_option linter.unusedVariables false
set_option linter.unusedSimpArgs false
namespace Go.Proofs.YtompeealmgdfhaaDoor
open Go.Sort Go.ChangeShapes Go.WideShapes Go.ChangeAt Go.RowKit
open div
def Nul (r : Ps) : Prop := (r.e == 0) = false → r.a = 0 ∧ r.c = ⟨#[]⟩
theorem prs_err (s : ByteArray) : Nul (prs s) := by
  unfold prs tailP
  repeat' split
  all_goals
    intro h
    first
      | exact ⟨rfl, rfl⟩
      | cases h
def pre (g : Bool) : List UInt8 := if g = true then [45] else []
def mid (p : Nat) (x y : List UInt8) : List UInt8 := if 0 < p then x ++ 46 :: y else x
theorem dig_ls (a : Int) (p : Nat) : ls (digS a p) = padL (p + 1) (Lib.decDigits a.natAbs) := by unfold digS bst; rw [itoa_nat]
theorem fmt_ls (a : Int) (c : ByteArray) (p : Nat) (x y : List UInt8) (h : padL (p + 1) (Lib.decDigits a.natAbs) = x ++ y) (hy : y.length = p) : ls (fmtS a c p) = pre (decide (a < 0)) ++ (mid p x y ++ 32 :: ls c) := by
  have hl : ls (digS a p) = x ++ y := (dig_ls a p).trans h
  have hm : ls (fm1 (digS a p) p) = mid p x y := by
    unfold fm1 mid
    by_cases hp : 0 < p
    · rw [if_pos hp, if_pos hp, ls_app, ls_app, ls_ex, ls_ex, ls_size, hl, List.length_append, hy]
      show List.take _ _ ++ [46] ++ _ = _
      rw [List.drop_zero, show x.length + p - p - 0 = x.length by omega, List.take_left, show x.length + p - p = x.length by omega, List.drop_left, List.take_of_length_le (by omega)]
      simp
    · rw [if_neg hp, if_neg hp, hl, List.length_eq_zero_iff.1 (show y.length = 0 by omega), List.append_nil]
  unfold fmtS fm2 pre
  rw [ls_app, ls_app]
  by_cases ha : a < 0
  · rw [if_pos ha, if_pos (decide_eq_true ha), ls_app, hm]
    show (([45] ++ _) ++ [32]) ++ _ = _
    simp
  · rw [if_neg ha, if_neg (by rw [decide_eq_false ha]; simp), hm]
    show (_ ++ [32]) ++ _ = _
    simp
theorem isW_ls {s : ByteArray} (h : isW s = true) : allD (ls s) = true ∧ ls s ≠ [] ∧ (ls s = [48] ∨ (ls s).head? ≠ some 48) := by
  unfold isW at h
  rw [Bool.and_eq_true, Bool.or_eq_true] at h
  obtain ⟨h1, h2⟩ := h
  refine ⟨(isD_ls h1).1, (isD_ls h1).2, ?_⟩
  rcases h2 with h2 | h2
  · left; rw [← ls_tl]; exact eq_of_beq h2
  · right; intro e; rw [show s.data.toList.head? = some 48 from e] at h2; simp at h2
theorem isW_mk {s : ByteArray} (h : allD (ls s) = true) (h0 : ls s ≠ []) (h2 : ls s = [48] ∨ (ls s).head? ≠ some 48) : isW s = true := by
  unfold isW
  rw [Bool.and_eq_true, Bool.or_eq_true]
  refine ⟨isD_mk h h0, ?_⟩
  rcases h2 with h2 | h2
  · left; rw [ls_tl, h2]; rfl
  · right
    rw [Bool.not_eq_true', beq_eq_false_iff_ne]
    exact h2
theorem tail_ok {g : Bool} {D C : ByteArray} (h : ((tailP g D C).e == 0) = true) : valF 0 (ls D) ≤ 4503599627370496 ∧ (tailP g D C).c = C ∧ (tailP g D C).a = (if g = true then -((valF 0 (ls D) : Nat) : Int) else ((valF 0 (ls D) : Nat) : Int)) ∧ (g = true → valF 0 (ls D) ≠ 0) := by
  revert h
  unfold tailP
  intro h
  by_cases h1 : valF 0 (ls D) ≤ 4503599627370496
  · rw [if_pos h1] at h ⊢
    cases g
    · exact ⟨h1, rfl, rfl, fun e => by cases e⟩
    · rw [if_pos rfl] at h ⊢
      by_cases h2 : valF 0 (ls D) = 0
      · rw [if_pos h2] at h; cases h
      · rw [if_neg h2]; exact ⟨h1, rfl, rfl, fun _ => h2⟩
  · rw [if_neg h1] at h; cases h
theorem back_of (s C : ByteArray) (x y : List UInt8) (p : Nat) (g : Bool) (hs : ls s = pre g ++ (mid p x y ++ 32 :: ls C)) (hy : y.length = p) (ax : allD x = true) (ay : allD y = true) (x0 : x ≠ []) (hx : x = [48] ∨ x.head? ≠ some 48) (hz : g = true → valF 0 (x ++ y) ≠ 0) :
    fmtS (if g = true then -((valF 0 (x ++ y) : Nat) : Int) else ((valF 0 (x ++ y) : Nat) : Int)) C p = s := by
  apply ls_ext
  have hn : (if g = true then -((valF 0 (x ++ y) : Nat) : Int) else ((valF 0 (x ++ y) : Nat) : Int)).natAbs = valF 0 (x ++ y) := by split <;> omega
  rw [fmt_ls _ C p x y (by rw [hn]; exact core_fmt x y p hy ax ay x0 hx) hy, hs]
  cases g
  · rw [if_neg (by simp), decide_eq_false (by omega)]
  · have := hz rfl
    rw [if_pos rfl, decide_eq_true (by omega)]
theorem exV_in (s : ByteArray) : exV s = 0 ∨ exV s = 2 ∨ exV s = 3 := exF_in s 10 0
theorem prs_back (s : ByteArray) (h : ((prs s).e == 0) = true) : mchk (prs s).a (prs s).c = 0 ∧ fmtS (prs s).a (prs s).c (exV (prs s).c).toNat = s ∧ (prs s).c.size ≤ 3 := by
  have key : ∀ (D : ByteArray) (x y : List UInt8), curL (ctB s 32).data.toList = true → ls s = ls (ctA s 32) ++ 32 :: ls (ctB s 32) → ls (stripB (ctA s 32)) = mid (exV (ctB s 32)).toNat x y → y.length = (exV (ctB s 32)).toNat → ls D = x ++ y → allD x = true → allD y = true → x ≠ [] → (x = [48] ∨ x.head? ≠ some 48) → ((tailP (negB (ctA s 32)) D (ctB s 32)).e == 0) = true →
      mchk (tailP (negB (ctA s 32)) D (ctB s 32)).a (tailP (negB (ctA s 32)) D (ctB s 32)).c = 0 ∧ fmtS (tailP (negB (ctA s 32)) D (ctB s 32)).a (tailP (negB (ctA s 32)) D (ctB s 32)).c (exV (tailP (negB (ctA s 32)) D (ctB s 32)).c).toNat = s ∧ (tailP (negB (ctA s 32)) D (ctB s 32)).c.size ≤ 3 := by
    intro D x y hc hs hN hy hD ax ay x0 hx ht
    obtain ⟨t1, t2, t3, t4⟩ := tail_ok ht
    rw [t2, t3]
    have hsz : (ctB s 32).size ≤ 3 := by
      rcases Nat.lt_or_ge 3 (ctB s 32).size with h3 | h3
      · rw [curL_no (ctB s 32) (by omega)] at hc; cases hc
      · exact h3
    refine ⟨?_, ?_, hsz⟩
    · rw [mchk_of hc, if_pos (by split <;> omega)]
    · rw [hD] at t1 t4 ⊢
      refine back_of s (ctB s 32) x y _ (negB (ctA s 32)) ?_ hy ax ay x0 hx t4
      rw [hs, ← hN, ← List.append_assoc]
      congr 1
      unfold pre
      cases hg : negB (ctA s 32)
      · rw [strip_ls, hg]; rfl
      · rw [neg_ls hg]; rfl
  revert h
  unfold prs
  cases h0 : (s.toList == [])
  · rw [if_neg (by simp)]
    cases h1 : curL (ctB s 32).data.toList
    · rw [if_pos rfl]; intro h; cases h
    · rw [if_neg (by simp)]
      have hF : ctF s 32 = true := by
        cases hf : ctF s 32
        · have h2 : ¬ 0 ≤ Lib.indexByte s.data.toList 32 := by unfold ctF at hf; exact of_decide_eq_false hf
          have h3 : ctB s 32 = ⟨#[]⟩ := by unfold ctB; rw [if_neg h2]
          rw [h3] at h1; cases h1
        · rfl
      obtain ⟨hs, _⟩ := cut_spec hF
      have hin := exV_in (ctB s 32)
      cases h2 : decide (0 < exV (ctB s 32))
      · rw [if_neg (by simp)]
        have hp : exV (ctB s 32) = 0 := by have := of_decide_eq_false h2; omega
        cases h3 : isW (stripB (ctA s 32))
        · rw [if_neg (by simp)]; intro h; cases h
        · rw [if_pos rfl]
          obtain ⟨a1, a2, a3⟩ := isW_ls h3
          exact key _ (ls (stripB (ctA s 32))) [] h1 hs (by rw [hp]; rfl) (by rw [hp]; rfl) (List.append_nil _).symm a1 rfl a2 a3
      · rw [if_pos rfl]
        have hp := of_decide_eq_true h2
        cases f : fmB (stripB (ctA s 32)) (exV (ctB s 32))
        · rw [if_neg (by simp)]; intro h; cases h
        · rw [if_pos rfl]
          unfold fmB at f
          rw [Bool.and_eq_true, Bool.and_eq_true, Bool.and_eq_true] at f
          obtain ⟨f1, f2, f3, f4⟩ := f
          obtain ⟨e1, _⟩ := cut_spec f1
          obtain ⟨a1, a2, a3⟩ := isW_ls f4
          obtain ⟨b1, b2⟩ := isD_ls f3
          have e2 : ((ctB (stripB (ctA s 32)) 46).size : Int) = exV (ctB s 32) := by simpa using f2
          exact key _ (ls (ctA (stripB (ctA s 32)) 46)) (ls (ctB (stripB (ctA s 32)) 46)) h1 hs (by unfold mid; rw [if_pos (by omega)]; exact e1) (by rw [← ls_size]; omega) (ls_app _ _) a1 b1 a2 a3
  · rw [if_pos rfl]; intro h; cases h
theorem not_dig {l : List UInt8} (h : allD l = true) {c : UInt8} (hc : dgB c.toNat = false) : c ∉ l := by
  intro hm
  rw [allD, List.all_eq_true] at h
  rw [h c hm] at hc
  cases hc
theorem neg_cons {N : ByteArray} {t : List UInt8} (h : ls N = 45 :: t) : negB N = true ∧ ls (stripB N) = t := by
  have h1 : negB N = true := by unfold negB Lib.hasPrefix; rw [show N.data.toList = 45 :: t from h]; rfl
  exact ⟨h1, by rw [strip_ls, if_pos h1, h]; rfl⟩
theorem neg_not {N : ByteArray} {c : UInt8} {t : List UInt8} (h : ls N = c :: t) (hc : c ≠ 45) : negB N = false ∧ stripB N = N := by
  have h1 : negB N = false := by
    unfold negB Lib.hasPrefix
    rw [show N.data.toList = c :: t from h, List.isPrefixOf, beq_eq_false_iff_ne.2 (Ne.symm hc)]
    rfl
  exact ⟨h1, ls_ext (by rw [strip_ls, h1]; rfl)⟩
theorem prs_fmt (a : Int) (c : ByteArray) (hx : mchk a c = 0) : prs (fmtS a c (exV c).toNat) = ⟨a, c, 0⟩ := by
  obtain ⟨hcl, a0, a1⟩ := mchk_zero hx
  have hin := exV_in c
  obtain ⟨x, y, e, hy, ax, ay, x0, hxx, hv⟩ := core_split a.natAbs (exV c).toNat
  have hf := fmt_ls a c (exV c).toNat x y e hy
  generalize fmtS a c (exV c).toNat = s at *
  have d32 : dgB (32 : UInt8).toNat = false := by decide
  have d46 : dgB (46 : UInt8).toNat = false := by decide
  have hm32 : (32 : UInt8) ∉ pre (decide (a < 0)) ++ mid (exV c).toNat x y := by
    rw [List.mem_append]
    rintro (h | h)
    · unfold pre at h; split at h
      · simp at h
      · cases h
    · unfold mid at h; split at h
      · rw [List.mem_append, List.mem_cons] at h
        rcases h with h | h | h
        · exact not_dig ax d32 h
        · cases h
        · exact not_dig ay d32 h
      · exact not_dig ax d32 h
  obtain ⟨g1, g2, g3⟩ := cut_of (s := s) hm32 (by rw [hf, List.append_assoc])
  have hC : ctB s 32 = c := ls_ext g2
  have hN : negB (ctA s 32) = decide (a < 0) ∧ ls (stripB (ctA s 32)) = mid (exV c).toNat x y := by
    cases ha : decide (a < 0)
    · rw [ha] at g1
      have g4 : ls (ctA s 32) = mid (exV c).toNat x y := g1
      obtain ⟨d, r, hdr⟩ : ∃ d r, x = d :: r := by cases x with | nil => exact absurd rfl x0 | cons d r => exact ⟨d, r, rfl⟩
      have hd : d ≠ 45 := by
        intro e; rw [hdr, e] at ax; simp [allD, dgB] at ax
      obtain ⟨t, ht⟩ : ∃ t, mid (exV c).toNat x y = d :: t := by unfold mid; rw [hdr]; split; · exact ⟨_, rfl⟩
                                                                 · exact ⟨_, rfl⟩
      obtain ⟨n1, n2⟩ := neg_not (g4.trans ht) hd
      exact ⟨n1, by rw [n2]; exact g4⟩
    · rw [ha] at g1
      exact neg_cons (N := ctA s 32) g1
  have hne : (s.toList == []) = false := by
    rw [beq_eq_false_iff_ne, ls_tl, hf]
    intro e
    have := (List.append_eq_nil_iff.1 (List.append_eq_nil_iff.1 e).2).2
    cases this
  have tl : ∀ D : ByteArray, ls D = x ++ y → tailP (decide (a < 0)) D c = ⟨a, c, 0⟩ := by
    intro D hD
    unfold tailP
    rw [hD, hv, if_pos (by omega)]
    by_cases ha : a < 0
    · rw [if_pos (decide_eq_true ha), if_neg (by omega), show -((a.natAbs : Nat) : Int) = a by omega]
    · rw [if_neg (by rw [decide_eq_false ha]; simp), show ((a.natAbs : Nat) : Int) = a by omega]
  unfold prs
  rw [hne, if_neg (by simp), hC, show c.data.toList = ls c from rfl, show curL (ls c) = true from hcl, if_neg (by simp), hN.1]
  by_cases hp : 0 < exV c
  · rw [if_pos (decide_eq_true hp)]
    have hmid : ls (stripB (ctA s 32)) = x ++ 46 :: y := by rw [hN.2]; unfold mid; rw [if_pos (by omega)]
    obtain ⟨k1, k2, k3⟩ := cut_of (s := stripB (ctA s 32)) (not_dig ax d46) hmid
    have hy0 : y ≠ [] := by intro e; rw [e] at hy; simp at hy; omega
    have hfm : fmB (stripB (ctA s 32)) (exV c) = true := by
      unfold fmB
      rw [k3, isD_mk (by rw [k2]; exact ay) (by rw [k2]; exact hy0), isW_mk (by rw [k1]; exact ax) (by rw [k1]; exact x0) (by rw [k1]; exact hxx)]
      have : (((ctB (stripB (ctA s 32)) 46).size : Int) != exV c) = false := by rw [bne_eq_false_iff_eq, ls_size, k2]; omega
      rw [this]; rfl
    rw [hfm, if_pos rfl]
    exact tl _ (by rw [ls_app, k1, k2])
  · rw [if_neg (by rw [decide_eq_false hp]; simp)]
    have hmid : ls (stripB (ctA s 32)) = x := by rw [hN.2]; unfold mid; rw [if_neg (by omega)]
    have hy0 : y = [] := List.length_eq_zero_iff.1 (by omega)
    rw [isW_mk (by rw [hmid]; exact ax) (by rw [hmid]; exact x0) (by rw [hmid]; exact hxx), if_pos rfl]
    exact tl _ (by rw [hmid, hy0, List.append_nil])
theorem fmt_size (a : Int) (c : ByteArray) (p : Nat) (h0 : -4503599627370496 ≤ a) (h1 : a ≤ 4503599627370496) (hp : p ≤ 3) (hc : c.size ≤ 3) : (fmtS a c p).size ≤ 100 ∧ 0 < (fmtS a c p).size := by
  obtain ⟨x, y, e, hy, ax, ay, x0, hxx, hv⟩ := core_split a.natAbs p
  have hf := fmt_ls a c p x y e hy
  have hd := dig_size a p h0 h1 hp
  rw [ls_size, dig_ls, e, List.length_append] at hd
  have h2 : (pre (decide (a < 0))).length ≤ 1 := by unfold pre; split; · exact Nat.le_refl _
                                                    · exact Nat.zero_le _
  have h3 : (mid p x y).length ≤ x.length + y.length + 1 := by unfold mid; split; · rw [List.length_append, List.length_cons]; omega
                                                               · omega
  rw [ls_size c] at hc
  rw [ls_size, hf, List.length_append, List.length_append, List.length_cons]
  omega
end Go.Proofs.YtompeealmgdfhaaDoor
