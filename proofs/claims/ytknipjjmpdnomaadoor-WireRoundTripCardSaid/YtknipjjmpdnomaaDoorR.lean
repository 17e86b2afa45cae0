/- What is written stands, and is read again. -/
import Derived.Test.YtknipjjmpdnomaaDoorQ
set_option linter.unusedVariables false
set_option linter.unusedSimpArgs false
namespace Go.Proofs.YtknipjjmpdnomaaDoor
open Go.Sort Go.ChangeShapes Go.WideShapes Go.ChangeAt Go.RowKit
def cat (xs : Nat → Fd) : Nat → ByteArray
  | 0 => ⟨#[]⟩
  | i + 1 => if wrE (xs i) = 0 then cat xs i ++ wrV (xs i) else cat xs i
theorem cat_add (xs : Nat → Fd) (i : Nat) (h : wrE (xs i) = 0) : cat xs (i + 1) = cat xs i ++ wrV (xs i) := if_pos h
theorem cat_skip (xs : Nat → Fd) (i : Nat) (h : wrE (xs i) ≠ 0) : cat xs (i + 1) = cat xs i := if_neg h
theorem app_as (a b c : ByteArray) : a ++ b ++ c = a ++ (b ++ c) := ls_ext (by rw [ls_app, ls_app, ls_app, ls_app, List.append_assoc])
theorem cat_pre (xs : Nat → Fd) (i : Nat) : ∀ d, ∃ r, cat xs (i + d) = cat xs i ++ r := by
  intro d
  induction d with
  | zero => exact ⟨⟨#[]⟩, ls_ext (by rw [ls_app]; show ls (cat xs i) = ls (cat xs i) ++ []; rw [List.append_nil])⟩
  | succ d ih =>
    obtain ⟨r, hr⟩ := ih
    by_cases h : wrE (xs (i + d)) = 0
    · exact ⟨r ++ wrV (xs (i + d)), by rw [show i + (d + 1) = (i + d) + 1 by omega, cat_add xs _ h, hr, app_as]⟩
    · exact ⟨r, by rw [show i + (d + 1) = (i + d) + 1 by omega, cat_skip xs _ h, hr]⟩
theorem cat_at (xs : Nat → Fd) (i n : Nat) (hi : i < n) (h : wrE (xs i) = 0) : ∃ r, cat xs n = cat xs i ++ (wrV (xs i) ++ r) := by
  obtain ⟨r, hr⟩ := cat_pre xs (i + 1) (n - (i + 1))
  rw [show i + 1 + (n - (i + 1)) = n by omega, cat_add xs i h, app_as] at hr
  exact ⟨r, hr⟩
theorem drop_pre (A B : ByteArray) : (A ++ B).extract A.size (A ++ B).size = B := by
  refine ls_ext ?_
  rw [ls_ex, ls_app, ls_size A, List.drop_left, List.take_of_length_le (by rw [ByteArray.size_append, ls_size A, ls_size B]; omega)]
theorem take_pre (V R : ByteArray) : (V ++ R).extract 0 V.size = V := by
  refine ls_ext ?_
  rw [ls_ex, ls_app, List.drop_zero, Nat.sub_zero, ls_size V, List.take_left]
theorem mid_pre (D t R : ByteArray) : (D ++ t ++ R).extract D.size (D.size + t.size) = t := by
  refine ls_ext ?_
  rw [ls_ex, ls_app, ls_app, List.append_assoc, ls_size D, List.drop_left, Nat.add_sub_cancel_left, ls_size t, List.take_left]
theorem nu0 {n wd : Int} (h : nuE n wd = 0) : nuBad n wd = false := by
  cases hb : nuBad n wd
  · rfl
  · rw [(nu_bad hb).1] at h; cases h
theorem wr_num (f : Fd) (hE : wrE f = 0) (h : f.d % 3 = 0) : ∃ W N : Nat, f.w = W ∧ f.n = N ∧ 1 ≤ W ∧ W ≤ 15 ∧ N < 10 ^ W ∧ wrV f = bst (dgw W N) := by
  unfold wrE at hE
  rw [if_pos h] at hE
  have hb := nu0 hE
  obtain ⟨a, b, c, d⟩ := nu_in hb
  refine ⟨f.w.toNat, f.n.toNat, by omega, by omega, by omega, by omega, d, ?_⟩
  unfold wrV
  rw [if_pos h]
  exact (nu_ok hb).2
theorem al0 {t : ByteArray} {wd : Int} (h : alE t wd = 0) : ∃ W : Nat, wd = W ∧ 1 ≤ W ∧ W ≤ 255 ∧ t.size ≤ W ∧ prn (ls t) = true ∧ Lib.hasSuffix (ls t) [32] = false ∧ alV t wd = spc t (W - t.size) := by
  have hV : alV t wd = t ++ bst (List.replicate (wd.toNat - t.size) 32) := by unfold alV; rw [if_pos h]
  unfold alE at h
  split at h
  · cases h
  · rename_i h1
    split at h
    · cases h
    · rename_i h2
      split at h
      · cases h
      · rename_i h3
        refine ⟨wd.toNat, by omega, by omega, by omega, by omega, ?_, ?_, hV⟩
        · cases hp : prn (ls t)
          · exact absurd (.inl hp) h3
          · rfl
        · cases hp : Lib.hasSuffix (ls t) [32]
          · rfl
          · exact absurd (.inr hp) h3
theorem wr_alpha (f : Fd) (hE : wrE f = 0) (h : f.d % 3 = 1) : ∃ W : Nat, f.w = W ∧ 1 ≤ W ∧ W ≤ 255 ∧ f.t.size ≤ W ∧ prn (ls f.t) = true ∧ Lib.hasSuffix (ls f.t) [32] = false ∧ wrV f = spc f.t (W - f.t.size) := by
  unfold wrE at hE
  rw [if_neg (by omega), if_pos h] at hE
  unfold wrV
  rw [if_neg (by omega), if_pos h]
  exact al0 hE
theorem va0 {t : ByteArray} {wd : Int} (h : vaE t wd = 0) : (wd = 2 ∧ t.size ≤ 99 ∧ vaV t wd = bst (dgw 2 t.size) ++ t) ∨ (wd = 3 ∧ t.size ≤ 255 ∧ vaV t wd = bst (dgw 3 t.size) ++ t) := by
  have hV : vaV t wd = bst (dgw wd.toNat t.size) ++ t := by unfold vaV; rw [if_pos h]
  unfold vaE at h
  split at h
  · cases h
  · split at h
    · cases h
    · by_cases h2 : wd = 2
      · subst h2; exact .inl ⟨rfl, by omega, hV⟩
      · obtain rfl : wd = 3 := by omega
        exact .inr ⟨rfl, by omega, hV⟩
theorem wr_var (f : Fd) (hE : wrE f = 0) (h : f.d % 3 = 2) : (f.w = 2 ∧ f.t.size ≤ 99 ∧ wrV f = bst (dgw 2 f.t.size) ++ f.t) ∨ (f.w = 3 ∧ f.t.size ≤ 255 ∧ wrV f = bst (dgw 3 f.t.size) ++ f.t) := by
  unfold wrE at hE
  rw [if_neg (by omega), if_neg (by omega)] at hE
  unfold wrV
  rw [if_neg (by omega), if_neg (by omega)]
  exact va0 hE
theorem wr_size (f : Fd) (hE : wrE f = 0) : (wrV f).size ≤ 258 := by
  have h3 : f.d % 3 = 0 ∨ f.d % 3 = 1 ∨ f.d % 3 = 2 := by omega
  rcases h3 with h | h | h
  · obtain ⟨W, N, _, _, _, h15, _, hv⟩ := wr_num f hE h
    rw [hv, bst_size, dgw_len]; omega
  · obtain ⟨W, _, _, h255, hs, _, _, hv⟩ := wr_alpha f hE h
    rw [hv, spc_size]; omega
  · rcases wr_var f hE h with ⟨_, hs, hv⟩ | ⟨_, hs, hv⟩
    · rw [hv, ByteArray.size_append, bst_size, dgw_len]; omega
    · rw [hv, ByteArray.size_append, bst_size, dgw_len]; omega
theorem cat_size (xs : Nat → Fd) (i : Nat) : (cat xs i).size ≤ 258 * i := by
  induction i with
  | zero => exact Nat.le_refl _
  | succ i ih =>
    by_cases h : wrE (xs i) = 0
    · rw [cat_add xs i h, ByteArray.size_append]
      have := wr_size (xs i) h
      omega
    · rw [cat_skip xs i h]; omega
theorem at_facts (xs : Nat → Fd) (i n : Nat) (hi : i < n) (h : wrE (xs i) = 0) : ∃ r, (cat xs n).extract (cat xs i).size (cat xs n).size = wrV (xs i) ++ r ∧ (cat xs i).size + (wrV (xs i)).size ≤ (cat xs n).size ∧ (cat xs (i + 1)).size = (cat xs i).size + (wrV (xs i)).size := by
  obtain ⟨r, hr⟩ := cat_at xs i n hi h
  refine ⟨r, by rw [hr, drop_pre], by rw [hr, ByteArray.size_append, ByteArray.size_append]; omega, by rw [cat_add xs i h, ByteArray.size_append]⟩
theorem rd_num (xs : Nat → Fd) (i n : Nat) (hi : i < n) (hn : n ≤ 30) (h : wrE (xs i) = 0) (hd : (xs i).d % 3 = 0) (g : Nat) (w : World) (hk : Blk w g 59 (rd (cat xs n) (cat xs i).size 0)) :
    Calls Tryd.prog 19 #[.pointer (some ⟨g, 0, none⟩), .int .i64 (xs i).w] w fun e w' => e = .returned (.int .i64 (xs i).n) ∧ Blk w' g 59 (rd (cat xs n) (cat xs (i + 1)).size 0) ∧ Below g w w' ∧ Keeps g w w' := by
  obtain ⟨r, h1, h2, h3⟩ := at_facts xs i n hi h
  obtain ⟨W, N, ew, en, hW1, hW2, hlt, hv⟩ := wr_num (xs i) h hd
  have hz : (wrV (xs i)).size = W := by rw [hv, bst_size, dgw_len]
  have hcs := cat_size xs n
  have := rnum_ok2 g (cat xs i).size W N (cat xs n) hW1 hW2 (by omega) (by omega) (by rw [h1, ← hz, take_pre, hv, ls_bst, bst_size, dgw_len]) hlt w hk
  rw [ew, en, h3, hz]
  exact this
theorem rd_alpha (xs : Nat → Fd) (i n : Nat) (hi : i < n) (hn : n ≤ 30) (h : wrE (xs i) = 0) (hd : (xs i).d % 3 = 1) (g : Nat) (w : World) (hk : Blk w g 59 (rd (cat xs n) (cat xs i).size 0)) :
    Calls Tryd.prog 20 #[.pointer (some ⟨g, 0, none⟩), .int .i64 (xs i).w] w fun e w' => e = .returned (.string (xs i).t) ∧ Blk w' g 59 (rd (cat xs n) (cat xs (i + 1)).size 0) ∧ Below g w w' ∧ Keeps g w w' := by
  obtain ⟨r, h1, h2, h3⟩ := at_facts xs i n hi h
  obtain ⟨W, ew, hW1, hW2, hts, hp, hx, hv⟩ := wr_alpha (xs i) h hd
  have hz : (wrV (xs i)).size = W := by rw [hv, spc_size]; omega
  have hcs := cat_size xs n
  have := ralpha_ok g (cat xs i).size W (cat xs n) (xs i).t hW1 hW2 (by omega) (by omega) hts hp hx (by rw [h1, ← hz, take_pre, hz]; exact hv) w hk
  rw [ew, h3, hz]
  exact this
theorem rd_var (xs : Nat → Fd) (i n : Nat) (hi : i < n) (hn : n ≤ 30) (h : wrE (xs i) = 0) (hd : (xs i).d % 3 = 2) (g : Nat) (w : World) (hk : Blk w g 59 (rd (cat xs n) (cat xs i).size 0)) :
    Calls Tryd.prog 21 #[.pointer (some ⟨g, 0, none⟩), .int .i64 (xs i).w, .int .i64 255] w fun e w' => e = .returned (.string (xs i).t) ∧ Blk w' g 59 (rd (cat xs n) (cat xs (i + 1)).size 0) ∧ Below g w w' ∧ Keeps g w w' := by
  obtain ⟨r, h1, h2, h3⟩ := at_facts xs i n hi h
  have hcs := cat_size xs n
  rcases wr_var (xs i) h hd with ⟨ew, hts, hv⟩ | ⟨ew, hts, hv⟩
  · have hz : (wrV (xs i)).size = 2 + (xs i).t.size := by rw [hv, ByteArray.size_append, bst_size, dgw_len]
    have hd2 : (bst (dgw 2 (xs i).t.size)).size = 2 := by rw [bst_size, dgw_len]
    have e1 := take_pre (bst (dgw 2 (xs i).t.size)) ((xs i).t ++ r)
    have e2 := mid_pre (bst (dgw 2 (xs i).t.size)) (xs i).t r
    rw [hd2] at e1 e2
    have := rvar2_ok g (cat xs i).size (xs i).t.size (2 + (xs i).t.size) 255 (cat xs n) (xs i).t rfl (by omega) (by omega) (by omega) (by omega) (by rw [h1, hv, app_as, e1, ls_bst]) (by omega) (by rw [h1, hv]; exact e2) w hk
    rw [ew, h3, hz]
    exact this
  · have hz : (wrV (xs i)).size = 3 + (xs i).t.size := by rw [hv, ByteArray.size_append, bst_size, dgw_len]
    have hd2 : (bst (dgw 3 (xs i).t.size)).size = 3 := by rw [bst_size, dgw_len]
    have e1 := take_pre (bst (dgw 3 (xs i).t.size)) ((xs i).t ++ r)
    have e2 := mid_pre (bst (dgw 3 (xs i).t.size)) (xs i).t r
    rw [hd2] at e1 e2
    have := rvar3_ok g (cat xs i).size (xs i).t.size (3 + (xs i).t.size) 255 (cat xs n) (xs i).t rfl (by omega) (by omega) (by omega) (by omega) (by rw [h1, hv, app_as, e1, ls_bst]) (by omega) (by rw [h1, hv]; exact e2) w hk
    rw [ew, h3, hz]
    exact this
/- any text: Var (2, 99) -/
theorem vdich (l : ByteArray) : (∃ n, n < 100 ∧ 2 + n ≤ l.size ∧ ls (l.extract 0 2) = dgw 2 n) ∨ ∃ E, vbad l E := by
  by_cases h2 : l.size < 2
  · exact .inr ⟨1, .inl ⟨h2, rfl⟩⟩
  have hz : (l.extract 0 2).size = 2 := by rw [ByteArray.size_extract]; omega
  cases hI : isD (l.extract 0 2)
  · exact .inr ⟨2, .inr (.inl ⟨by omega, hI, rfl⟩)⟩
  have hD : allD (ls (l.extract 0 2)) = true := by
    unfold isD at hI
    rw [Bool.and_eq_true] at hI
    exact hI.1
  have hu := dgw_uniq _ hD
  have hv := valF_lt _ hD
  rw [← ls_size, hz] at hu hv
  by_cases h3 : 2 + valF 0 (ls (l.extract 0 2)) ≤ l.size
  · exact .inl ⟨_, by omega, h3, hu⟩
  · exact .inr ⟨1, .inr (.inr ⟨_, by omega, hu, by omega, by omega, rfl⟩)⟩
theorem v_ok (l : ByteArray) (n : Nat) (hn : n < 100) (h : 2 + n ≤ l.size) (hd : ls (l.extract 0 2) = dgw 2 n) : vaE (l.extract 2 (2 + n)) 2 = 0 ∧ vaV (l.extract 2 (2 + n)) 2 = l.extract 0 (2 + n) ∧ (l.extract 0 (2 + n)).size = 2 + n := by
  have hz : (l.extract 2 (2 + n)).size = n := by rw [ByteArray.size_extract]; omega
  have hE : vaE (l.extract 2 (2 + n)) 2 = 0 := by unfold vaE; rw [hz, if_neg (by omega), if_neg (by omega)]
  refine ⟨hE, ?_, by rw [ByteArray.size_extract]; omega⟩
  unfold vaV
  rw [if_pos hE, hz, show (2 : Int).toNat = 2 from rfl]
  refine ls_ext ?_
  rw [ls_app, ls_bst, ← hd, ls_ex, ls_ex, ls_ex, List.drop_zero, Nat.sub_zero, Nat.sub_zero, show 2 + n - 2 = n by omega, List.take_add]
end Go.Proofs.YtknipjjmpdnomaaDoor
