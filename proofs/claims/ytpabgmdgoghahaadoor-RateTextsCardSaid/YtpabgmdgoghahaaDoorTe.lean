/- Parse of the program, for any text, and back. -/
import Derived.Test.YtpabgmdgoghahaaDoorTd
set_option linter.unusedVariables false
set_option linter.unusedSimpArgs false
namespace Go.Proofs.YtpabgmdgoghahaaDoor
open Go.Sort Go.ChangeShapes Go.WideShapes Go.ChangeAt Go.RowKit
structure Rs where
  f : ByteArray
  t : ByteArray
  n : Int
  d : Int
  e : Int
def R0 (e : Int) : Rs := ⟨⟨#[]⟩, ⟨#[]⟩, 0, 0, e⟩
def rsA (s : ByteArray) : ByteArray := ctA (s.extract 8 s.size) 47
def rsB (s : ByteArray) : ByteArray := ctB (s.extract 8 s.size) 47
def prs (s : ByteArray) : Rs :=
  if (s.toList == []) = true then R0 1
  else if s.size < 8 then R0 2
  else if (ls s)[3]? = some 47 then
    (if (ls s)[7]? = some 32 then
      (if (nO (rsA s) && nO (rsB s)) = true then
        (if chkR (s.extract 0 3) (s.extract 4 7) (nV (rsA s)) (nV (rsB s)) = 0 then ⟨s.extract 0 3, s.extract 4 7, nV (rsA s), nV (rsB s), 0⟩ else R0 (chkR (s.extract 0 3) (s.extract 4 7) (nV (rsA s)) (nV (rsB s))))
      else R0 2)
    else R0 2)
  else R0 2
theorem at_is (s : ByteArray) (i : Nat) (h : i < s.size) (c : UInt8) (k : Int) (hk : (c.toNat : Int) = k) : (((s[i]'h).toNat : Int) != k) = !decide ((ls s)[i]? = some c) := by
  have e : (ls s)[i]? = some (s[i]'h) := by
    have hl : i < (ls s).length := h
    rw [List.getElem?_eq_getElem hl]
    simp [ls, ByteArray.getElem_eq_getElem_data]
  rw [e, Bool.eq_iff_iff]
  simp only [bne_iff_ne, ne_eq, Option.some.injEq, Bool.not_eq_true', decide_eq_false_iff_not]
  constructor
  · intro h1 h2; rw [h2] at h1; exact h1 hk
  · intro h1 h2; exact h1 (UInt8.toNat_inj.1 (by omega))
theorem ex_size (s : ByteArray) (i j : Nat) : (s.extract i j).size = min j s.size - i := by rw [ls_size, ls_ex, List.length_take, List.length_drop, ls_size s]; omega
theorem parse_any (s : ByteArray) (hs : s.size ≤ 200) (w : World) (hT : Tab w) (h4 : EC 4 w) (h5 : EC 5 w) :
    Calls Tryd.prog 28 #[.string s] w fun e w' => e = .returned (.tuple #[.agg #[.string (prs s).f, .string (prs s).t, .int .i64 (prs s).n, .int .i64 (prs s).d], .int .i64 (prs s).e]) ∧ Below w.heap.size w w' := by
  have hm : ∀ t : ByteArray, t.size ≤ 300 → t.size ≤ maxLen := fun t h => by unfold maxLen; omega
  unfold prs
  cases h0 : (s.toList == [])
  · rw [if_neg (by simp)]
    by_cases h8 : s.size < 8
    · rw [if_pos h8]; exact pw_short s w h0 (decide_eq_true (by omega))
    · rw [if_neg h8]
      have h8d : decide ((s.size : Int) < 8) = false := decide_eq_false (by omega)
      have h8n : 8 ≤ s.size := by omega
      have hx := ex_size s 8 s.size
      have hA := ctA_size (s.extract 8 s.size) 47
      have hB := ctB_size (s.extract 8 s.size) 47
      by_cases k3 : (ls s)[3]? = some 47
      · have k3' : (((s[3]'(by omega)).toNat : Int) != 47) = false := by rw [at_is s 3 (by omega) 47 47 rfl, decide_eq_true k3]; rfl
        rw [if_pos k3]
        by_cases k7 : (ls s)[7]? = some 32
        · have k7' : (((s[7]'(by omega)).toNat : Int) != 32) = false := by rw [at_is s 7 (by omega) 32 32 rfl, decide_eq_true k7]; rfl
          rw [if_pos k7]
          have C1 : CutC (s.extract 8 s.size) 47 (rsA s) (rsB s) (ctF (s.extract 8 s.size) 47) := fun w => scut1 _ 47 (hm _ (by omega)) w
          have N1 : NumC (rsA s) (nV (rsA s)) (nO (rsA s)) := fun w a b c => number_any _ (by unfold rsA; omega) w a b c
          have N2 : NumC (rsB s) (nV (rsB s)) (nO (rsB s)) := fun w a b c => number_any _ (by unfold rsB; omega) w a b c
          cases b1 : nO (rsA s)
          · rw [if_neg (by simp)]
            exact pw_n1 s w h0 h8d h8n hs k3' k7' hT h4 h5 _ _ _ C1 _ _ _ _ N1 N2 b1
          · cases b2 : nO (rsB s)
            · rw [if_neg (by simp)]
              exact pw_n2 s w h0 h8d h8n hs k3' k7' hT h4 h5 _ _ _ C1 _ _ _ _ N1 N2 b1 b2
            · rw [if_pos (show (true && true) = true from rfl)]
              have K1 : ChkC (s.extract 0 3) (s.extract 4 7) (nV (rsA s)) (nV (rsB s)) (chkR (s.extract 0 3) (s.extract 4 7) (nV (rsA s)) (nV (rsB s))) := fun w => check_any _ _ _ _ w (hm _ (by rw [ex_size]; omega)) (hm _ (by rw [ex_size]; omega))
              by_cases e0 : chkR (s.extract 0 3) (s.extract 4 7) (nV (rsA s)) (nV (rsB s)) = 0
              · rw [if_pos e0]
                exact pw_ok s w h0 h8d h8n hs k3' k7' hT h4 h5 _ _ _ C1 _ _ _ _ N1 N2 b1 b2 _ K1 e0 (fun w => clone_any _ (by rw [ex_size]; omega) w) (fun w => clone_any _ (by rw [ex_size]; omega) w)
              · rw [if_neg e0]
                exact pw_chk s w h0 h8d h8n hs k3' k7' hT h4 h5 _ _ _ C1 _ _ _ _ N1 N2 b1 b2 _ K1 (bne_iff_ne.2 e0)
        · have k7' : (((s[7]'(by omega)).toNat : Int) != 32) = true := by rw [at_is s 7 (by omega) 32 32 rfl, decide_eq_false k7]; rfl
          rw [if_neg k7]
          exact pw_c7 s w h0 h8d h8n hs k3' k7'
      · have k3' : (((s[3]'(by omega)).toNat : Int) != 47) = true := by rw [at_is s 3 (by omega) 47 47 rfl, decide_eq_false k3]; rfl
        rw [if_neg k3]
        exact pw_c3 s w h0 h8d h8n hs k3'
  · rw [if_pos rfl]; exact pw_empty s w h0
theorem prs_err (s : ByteArray) (h : ((prs s).e == 0) = false) : prs s = R0 (prs s).e := by
  revert h
  unfold prs
  split
  · intro _; rfl
  · split
    · intro _; rfl
    · split
      · split
        · split
          · split
            · intro h; cases h
            · intro _; rfl
          · intro _; rfl
        · intro _; rfl
      · intro _; rfl
theorem num_back {s : ByteArray} (h : nO s = true) : numS (nV s) = s := by
  unfold nV
  rw [if_pos h]
  unfold nO at h
  cases hp : Lib.parseIntB 64 s.data.toList
  case ok v =>
    rw [hp] at h
    have h1 : ((numS v).toList != s.toList) = false := by
      have h0 : (!((numS v).toList != s.toList)) = true := h
      simpa using h0
    have h2 : (numS v).toList = s.toList := by simpa using h1
    show numS v = s
    rw [ls_tl, ls_tl] at h2
    exact ls_ext h2
  all_goals
    rw [hp] at h
    cases h
theorem parts8 (l : List UInt8) (h : 8 ≤ l.length) {x y : UInt8} (h3 : l[3]? = some x) (h7 : l[7]? = some y) : l = l.take 3 ++ x :: ((l.drop 4).take 3 ++ y :: l.drop 8) := by
  obtain ⟨a0, l, rfl⟩ : ∃ a r, l = a :: r := by cases l with | nil => simp at h | cons a r => exact ⟨a, r, rfl⟩
  obtain ⟨a1, l, rfl⟩ : ∃ a r, l = a :: r := by cases l with | nil => simp at h | cons a r => exact ⟨a, r, rfl⟩
  obtain ⟨a2, l, rfl⟩ : ∃ a r, l = a :: r := by cases l with | nil => simp at h | cons a r => exact ⟨a, r, rfl⟩
  obtain ⟨a3, l, rfl⟩ : ∃ a r, l = a :: r := by cases l with | nil => simp at h | cons a r => exact ⟨a, r, rfl⟩
  obtain ⟨a4, l, rfl⟩ : ∃ a r, l = a :: r := by cases l with | nil => simp at h | cons a r => exact ⟨a, r, rfl⟩
  obtain ⟨a5, l, rfl⟩ : ∃ a r, l = a :: r := by cases l with | nil => simp at h | cons a r => exact ⟨a, r, rfl⟩
  obtain ⟨a6, l, rfl⟩ : ∃ a r, l = a :: r := by cases l with | nil => simp at h | cons a r => exact ⟨a, r, rfl⟩
  obtain ⟨a7, l, rfl⟩ : ∃ a r, l = a :: r := by cases l with | nil => simp at h | cons a r => exact ⟨a, r, rfl⟩
  obtain rfl : a3 = x := by simpa using h3
  obtain rfl : a7 = y := by simpa using h7
  rfl
theorem fmt_ls (f t a b : ByteArray) : ls (fmtS f t a b) = ls f ++ 47 :: (ls t ++ 32 :: (ls a ++ 47 :: ls b)) := by
  unfold fmtS
  simp only [ls_app]
  show ls f ++ [47] ++ ls t ++ [32] ++ ls a ++ [47] ++ ls b = _
  simp
theorem prs_back (s : ByteArray) (h : ((prs s).e == 0) = true) : chkR (prs s).f (prs s).t (prs s).n (prs s).d = 0 ∧ fmtS (prs s).f (prs s).t (numS (prs s).n) (numS (prs s).d) = s ∧ (prs s).f.size ≤ 20 ∧ (prs s).t.size ≤ 20 := by
  revert h
  unfold prs
  split
  · intro h; cases h
  · split
    · intro h; cases h
    · rename_i h0 h8
      split
      · rename_i k3
        split
        · rename_i k7
          split
          · rename_i hb
            split
            · rename_i hc
              intro _
              refine ⟨hc, ?_, by show (s.extract 0 3).size ≤ 20; rw [ex_size]; omega, by show (s.extract 4 7).size ≤ 20; rw [ex_size]; omega⟩
              rw [Bool.and_eq_true] at hb
              show fmtS (s.extract 0 3) (s.extract 4 7) (numS (nV (rsA s))) (numS (nV (rsB s))) = s
              rw [num_back hb.1, num_back hb.2]
              have hF : ctF (s.extract 8 s.size) 47 = true := by
                cases hf : ctF (s.extract 8 s.size) 47
                · exfalso
                  have h2 : ¬ 0 ≤ Lib.indexByte (s.extract 8 s.size).data.toList 47 := by unfold ctF at hf; exact of_decide_eq_false hf
                  have h3 : rsB s = ⟨#[]⟩ := by unfold rsB ctB; rw [if_neg h2]
                  have h4 := hb.2
                  rw [h3] at h4
                  cases h4
                · rfl
              obtain ⟨c1, -⟩ := cut_spec hF
              apply ls_ext
              rw [fmt_ls, show ls (rsA s) ++ 47 :: ls (rsB s) = ls (s.extract 8 s.size) from c1.symm, ls_ex, ls_ex, ls_ex]
              have hp := parts8 (ls s) (by have : s.size = (ls s).length := rfl; omega) k3 k7
              rw [List.drop_zero, List.take_of_length_le (l := (ls s).drop 8) (by rw [List.length_drop]; exact Nat.le_refl _)]
              exact hp.symm
            · rename_i hc
              intro h
              exact absurd (by simpa [R0] using h) hc
          · intro h; cases h
        · intro h; cases h
      · intro h; cases h
theorem num_there (n : Int) (h1 : 1 ≤ n) (h2 : n ≤ 1099511627776) : nO (numS n) = true ∧ nV (numS n) = n ∧ ls (numS n) = Lib.decDigits n.toNat := by
  obtain ⟨k, rfl⟩ : ∃ k : Nat, n = k := ⟨n.toNat, by omega⟩
  have e : ls (numS (k : Int)) = Lib.decDigits k := by
    show (Lib.itoa (k : Int)) = _
    exact itoa_nat k
  have hp : Lib.parseIntB 64 (numS (k : Int)).data.toList = .ok (k : Int) := by
    rw [show (numS (k : Int)).data.toList = Lib.decDigits k from e, pib _ (dec_all k) (dec_ne k), dec_val, if_pos (by omega)]
  have ho : nO (numS (k : Int)) = true := by unfold nO; rw [hp]; show (!((numS (k : Int)).toList != (numS (k : Int)).toList)) = true; simp
  exact ⟨ho, by unfold nV; rw [if_pos ho, hp], e⟩
theorem cur3 {f : ByteArray} (h : curL f.data.toList = true) : (ls f).length = 3 := by unfold curL at h; rw [Bool.and_eq_true] at h; exact of_decide_eq_true h.1
theorem prs_fmt (f t : ByteArray) (n d : Int) (h : chkR f t n d = 0) : prs (fmtS f t (numS n) (numS d)) = ⟨f, t, n, d, 0⟩ ∧ (fmtS f t (numS n) (numS d)).size ≤ 200 := by
  obtain ⟨hs, hn, hd⟩ := chk_zero h
  have hs2 : curL f.data.toList = true ∧ curL t.data.toList = true := by unfold sB at hs; rw [Bool.and_eq_true, Bool.and_eq_true] at hs; exact hs.1
  have hf := cur3 hs2.1
  have ht := cur3 hs2.2
  obtain ⟨n1, n2, n3⟩ := num_there n hn.1 hn.2
  obtain ⟨d1, d2, d3⟩ := num_there d hd.1 hd.2
  have z1 := numS_size n (by omega) (by omega)
  have z2 := numS_size d (by omega) (by omega)
  have e := fmt_ls f t (numS n) (numS d)
  generalize fmtS f t (numS n) (numS d) = s at *
  have hsz : s.size = 9 + (numS n).size + (numS d).size := by
    rw [ls_size s, e, ls_size (numS n), ls_size (numS d)]
    simp only [List.length_append, List.length_cons]
    omega
  refine ⟨?_, by omega⟩
  have d47 : dgB (47 : UInt8).toNat = false := by decide
  have hF : s.extract 0 3 = f := ls_ext (by rw [ls_ex, e, List.drop_zero]; show List.take 3 _ = _; rw [← hf]; exact List.take_left)
  have h4 : (ls s).drop 4 = ls t ++ 32 :: (ls (numS n) ++ 47 :: ls (numS d)) := by
    rw [e, show ls f ++ 47 :: (ls t ++ 32 :: (ls (numS n) ++ 47 :: ls (numS d))) = (ls f ++ [47]) ++ (ls t ++ 32 :: (ls (numS n) ++ 47 :: ls (numS d))) by simp, show 4 = (ls f ++ [47]).length by simp [hf]]
    exact List.drop_left
  have h8 : (ls s).drop 8 = ls (numS n) ++ 47 :: ls (numS d) := by
    rw [show 8 = 4 + 4 from rfl, ← List.drop_drop, h4, show ls t ++ 32 :: (ls (numS n) ++ 47 :: ls (numS d)) = (ls t ++ [32]) ++ (ls (numS n) ++ 47 :: ls (numS d)) by simp, show 4 = (ls t ++ [32]).length by simp [ht]]
    exact List.drop_left
  have hT : s.extract 4 7 = t := ls_ext (by rw [ls_ex, h4]; show List.take 3 _ = _; rw [← ht]; exact List.take_left)
  have k3 : (ls s)[3]? = some 47 := by rw [e, List.getElem?_append_right (by omega), hf]; rfl
  have k7 : (ls s)[7]? = some 32 := by
    have : ((ls s).drop 4)[3]? = some 32 := by rw [h4, List.getElem?_append_right (by omega), ht]; rfl
    rw [List.getElem?_drop] at this
    exact this
  have hr : ls (s.extract 8 s.size) = ls (numS n) ++ 47 :: ls (numS d) := by
    rw [ls_ex, List.take_of_length_le (by rw [List.length_drop]; exact Nat.le_refl _), h8]
  obtain ⟨c1, c2, -⟩ := cut_of (s := s.extract 8 s.size) (c := 47) (x := ls (numS n)) (y := ls (numS d)) (by rw [n3]; exact not_dig (dec_all _) d47) hr
  have ha : rsA s = numS n := ls_ext c1
  have hb : rsB s = numS d := ls_ext c2
  unfold prs
  rw [size_pos_list (by omega), if_neg (by simp), if_neg (by omega), if_pos k3, if_pos k7, ha, hb, n1, d1, if_pos (show (true && true) = true from rfl), hF, hT, n2, d2, if_pos h]
theorem gcd_red (a b : Int) (ha : 1 ≤ a) (hb : 1 ≤ b) : redN (redD b a) (redN b a) = redN a b ∧ redD (redD b a) (redN b a) = redD a b := by
  have ra := red_range b a hb ha
  obtain ⟨x, rfl⟩ : ∃ x : Nat, a = x := ⟨a.toNat, by omega⟩
  obtain ⟨y, rfl⟩ : ∃ y : Nat, b = y := ⟨b.toNat, by omega⟩
  have e1 : redD (y : Int) (x : Int) = ((x / Nat.gcd x y : Nat) : Int) := by unfold redD gcdI; rw [if_neg (by omega), Int.toNat_natCast, Int.toNat_natCast, Nat.gcd_comm]; rfl
  have e2 : redN (y : Int) (x : Int) = ((y / Nat.gcd x y : Nat) : Int) := by unfold redN gcdI; rw [if_neg (by omega), Int.toNat_natCast, Int.toNat_natCast, Nat.gcd_comm]; rfl
  have e3 : redN (x : Int) (y : Int) = ((x / Nat.gcd x y : Nat) : Int) := by unfold redN gcdI; rw [if_neg (by omega), Int.toNat_natCast, Int.toNat_natCast]; rfl
  have e4 : redD (x : Int) (y : Int) = ((y / Nat.gcd x y : Nat) : Int) := by unfold redD gcdI; rw [if_neg (by omega), Int.toNat_natCast, Int.toNat_natCast]; rfl
  rw [e1, e2] at ra
  rw [e1, e2, e3, e4]
  have hg : 0 < Nat.gcd x y := Nat.gcd_pos_of_pos_left _ (by omega)
  have h1 : Nat.gcd (x / Nat.gcd x y) (y / Nat.gcd x y) = 1 := by rw [Nat.gcd_div (Nat.gcd_dvd_left x y) (Nat.gcd_dvd_right x y)]; exact Nat.div_self hg
  constructor
  · unfold redN gcdI; rw [if_neg (by omega), Int.toNat_natCast, Int.toNat_natCast, h1]; simp
  · unfold redD gcdI; rw [if_neg (by omega), Int.toNat_natCast, Int.toNat_natCast, h1]; simp
end Go.Proofs.YtpabgmdgoghahaaDoor
