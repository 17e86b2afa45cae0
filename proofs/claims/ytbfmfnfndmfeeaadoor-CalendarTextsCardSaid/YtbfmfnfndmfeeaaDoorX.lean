/- Parse of both. -/
import Derived.Test.YtbfmfnfndmfeeaaDoorW
import Derived.Test.YtbfmfnfndmfeeaaDoorR1
import Derived.Test.YtbfmfnfndmfeeaaDoorR2
set_option linter.unusedVariables false
set_option linter.unusedSimpArgs false
namespace Go.Proofs.YtbfmfnfndmfeeaaDoor
open Go.Sort Go.ChangeShapes Go.WideShapes Go.ChangeAt Go.RowKit
open cal
theorem rparse_short (s : ByteArray) (h : s.size < 10) (w : World) :
    Calls Tryd.prog 25 #[.string s] w fun e w' => e = .returned (.tuple #[.int .i64 0, .int .i64 1]) ∧ Below w.heap.size w w' := by
  have h2 : (s.size : Int) < 10 := by omega
  go_enter Tryd.func25, Tryd.ntmps25
  go_wp2_with fail
  exact bodyPost_ret (v := .tuple #[.int .i64 0, .int .i64 1]) (by simp [results, Tryd.results25, go_sem]) rfl ⟨rfl, Below.refl _ _⟩
theorem rparse_long (s : ByteArray) (h : 10 < s.size) (hm : s.size ≤ maxLen) (w : World) :
    Calls Tryd.prog 25 #[.string s] w fun e w' => e = .returned (.tuple #[.int .i64 0, .int .i64 3]) ∧ Below w.heap.size w w' := by
  have h2 : 10 < (s.size : Int) := by omega
  go_enter Tryd.func25, Tryd.ntmps25
  go_wp2_with fail
  exact bodyPost_ret (v := .tuple #[.int .i64 0, .int .i64 3]) (by simp [results, Tryd.results25, go_sem]) rfl ⟨rfl, Below.refl _ _⟩
theorem ten_bytes (s : ByteArray) (h : s.size = 10) : ∃ b0 b1 b2 b3 b4 b5 b6 b7 b8 b9 : UInt8, s = ⟨#[b0, b1, b2, b3, b4, b5, b6, b7, b8, b9]⟩ := by
  obtain ⟨⟨l⟩⟩ := s
  have hl : l.length = 10 := h
  rcases l with _ | ⟨b0, _ | ⟨b1, _ | ⟨b2, _ | ⟨b3, _ | ⟨b4, _ | ⟨b5, _ | ⟨b6, _ | ⟨b7, _ | ⟨b8, _ | ⟨b9, _ | ⟨b10, l⟩⟩⟩⟩⟩⟩⟩⟩⟩⟩⟩
  case cons.cons.cons.cons.cons.cons.cons.cons.cons.cons.nil => exact ⟨b0, b1, b2, b3, b4, b5, b6, b7, b8, b9, rfl⟩
  all_goals simp at hl
theorem first_bad (z : Nat → Int) (n : Nat) : (∀ i, i < n → okAt i (z i) = true) ∨ ∃ k, k < n ∧ okAt k (z k) = false ∧ ∀ i, i < k → okAt i (z i) = true := by
  induction n with
  | zero => exact .inl fun i hi => absurd hi (Nat.not_lt_zero _)
  | succ n ih =>
    rcases ih with h | ⟨k, h1, h2, h3⟩
    · cases hb : okAt n (z n) with
      | true =>
        refine .inl fun i hi => ?_
        by_cases e : i = n
        · subst e; exact hb
        · exact h i (by omega)
      | false => exact .inr ⟨n, Nat.lt_succ_self _, hb, h⟩
    · exact .inr ⟨k, by omega, h2, h3⟩
def zOf (s : ByteArray) (i : Nat) : Int := ((s.data.toList.getD i 0).toNat : Int)
theorem zOf_at (s : ByteArray) (i : Nat) (h : i < s.size) : ((s[i]'h).toNat : Int) = zOf s i := by
  unfold zOf
  have h2 : i < s.data.toList.length := h
  rw [List.getD_eq_getElem?_getD, List.getElem?_eq_getElem h2]
  rfl
theorem okAt_dgt {i : Nat} {b : UInt8} (h4 : i ≠ 4) (h7 : i ≠ 7) : okAt i (b.toNat : Int) = dgt b := by
  unfold okAt dgt
  rw [if_neg (by omega)]
  congr 1
  rw [eq_iff_iff]
  omega
theorem ok_split {y m d : Int} (h : ofOk y m d = true) : IsSplit (ys y + cum y m + d - 1) y m d ∧ bD (ys y + cum y m + d - 1) = true := by
  obtain ⟨a, b, c, e, f, g, i⟩ := ofOk_true h
  have h1 := cum_succ y m c
  have h2 := cum_mono (y := y) (show 1 ≤ m + 1 by omega) (show m + 1 ≤ 13 by omega)
  have h3 := cum_year y
  have h4 := ys_succ y
  have h5 := (cum_in (y := y) c (show m ≤ 13 by omega)).1
  have h6 := of_nonneg a c f
  refine ⟨⟨a, b, by omega, by omega, c, e, by omega, by omega, by omega⟩, ?_⟩
  simp [bD]
  omega
theorem c1_back {b : UInt8} (h : dgt b = true) {r : Nat} (hr : (r : Int) = dv b) : c1 r = b := by
  have h1 := of_decide_eq_true h
  unfold dv at hr
  unfold c1
  rw [show 48 + r = b.toNat by omega, UInt8.ofNat_toNat]
set_option maxHeartbeats 2000000 in
theorem parse_both (s : ByteArray) (hl : s.size ≤ maxLen) : ∃ a E : Int, (∀ w, Tab w → Calls Tryd.prog 20 #[.string s] w fun e w' => e = .returned (.tuple #[.int .i64 a, .int .i64 E]) ∧ Below w.heap.size w w') ∧
    (∀ w, Calls Tryd.prog 25 #[.string s] w fun e w' => e = .returned (.tuple #[.int .i64 a, .int .i64 E]) ∧ Below w.heap.size w w') ∧
    (E = 0 → ∀ w, Tab w → TabP w → Calls Tryd.prog 17 #[.int .i64 a] w fun e w' => e = .returned (.string s) ∧ Below w.heap.size w w') := by
  rcases Nat.lt_trichotomy s.size 10 with h | h | h
  · exact ⟨0, 1, fun w _ => parse_short s h w, fun w => rparse_short s h w, fun e => absurd e (by decide)⟩
  · obtain ⟨b0, b1, b2, b3, b4, b5, b6, b7, b8, b9, rfl⟩ := ten_bytes s h
    have hz := zOf_at ⟨#[b0, b1, b2, b3, b4, b5, b6, b7, b8, b9]⟩
    rcases first_bad (zOf ⟨#[b0, b1, b2, b3, b4, b5, b6, b7, b8, b9]⟩) 10 with hg | ⟨k, hk, hbad, hg⟩
    · have g0 : dgt b0 = true := (okAt_dgt (i := 0) (by decide) (by decide)).symm.trans (hg 0 (by decide))
      have g1 : dgt b1 = true := (okAt_dgt (i := 1) (by decide) (by decide)).symm.trans (hg 1 (by decide))
      have g2 : dgt b2 = true := (okAt_dgt (i := 2) (by decide) (by decide)).symm.trans (hg 2 (by decide))
      have g3 : dgt b3 = true := (okAt_dgt (i := 3) (by decide) (by decide)).symm.trans (hg 3 (by decide))
      have g5 : dgt b5 = true := (okAt_dgt (i := 5) (by decide) (by decide)).symm.trans (hg 5 (by decide))
      have g6 : dgt b6 = true := (okAt_dgt (i := 6) (by decide) (by decide)).symm.trans (hg 6 (by decide))
      have g8 : dgt b8 = true := (okAt_dgt (i := 8) (by decide) (by decide)).symm.trans (hg 8 (by decide))
      have g9 : dgt b9 = true := (okAt_dgt (i := 9) (by decide) (by decide)).symm.trans (hg 9 (by decide))
      have h4 : b4 = 45 := by
        have q : ((b4.toNat : Int) == 45) = true := hg 4 (by decide)
        cases hb : decide (b4 = 45) with
        | true => exact of_decide_eq_true hb
        | false => rw [u8_ne (of_decide_eq_false hb)] at q; cases q
      have h7 : b7 = 45 := by
        have q : ((b7.toNat : Int) == 45) = true := hg 7 (by decide)
        cases hb : decide (b7 = 45) with
        | true => exact of_decide_eq_true hb
        | false => rw [u8_ne (of_decide_eq_false hb)] at q; cases q
      have k0 := of_decide_eq_true g0
      have k1 := of_decide_eq_true g1
      have k2 := of_decide_eq_true g2
      have k3 := of_decide_eq_true g3
      have k5 := of_decide_eq_true g5
      have k6 := of_decide_eq_true g6
      have k8 := of_decide_eq_true g8
      have k9 := of_decide_eq_true g9
      have eA : stA (zOf ⟨#[b0, b1, b2, b3, b4, b5, b6, b7, b8, b9]⟩) 10 = dv b0 * 1000 + dv b1 * 100 + dv b2 * 10 + dv b3 := by
        show (((0 * 10 + ((b0.toNat : Int) - 48)) * 10 + ((b1.toNat : Int) - 48)) * 10 + ((b2.toNat : Int) - 48)) * 10 + ((b3.toNat : Int) - 48) = _
        unfold dv; omega
      have eB : stB (zOf ⟨#[b0, b1, b2, b3, b4, b5, b6, b7, b8, b9]⟩) 10 = dv b5 * 10 + dv b6 := by
        show (0 * 10 + ((b5.toNat : Int) - 48)) * 10 + ((b6.toNat : Int) - 48) = _
        unfold dv; omega
      have eC : stC (zOf ⟨#[b0, b1, b2, b3, b4, b5, b6, b7, b8, b9]⟩) 10 = dv b8 * 10 + dv b9 := by
        show (0 * 10 + ((b8.toNat : Int) - 48)) * 10 + ((b9.toNat : Int) - 48) = _
        unfold dv; omega
      refine ⟨_, _, fun w hT => parse_ok _ _ _ _ _ _ _ _ _ _ h4 h7 g0 g1 g2 g3 g5 g6 g8 g9 w hT, fun w => ?_, fun hE w hT hP => ?_⟩
      · have hr := rparse_ok _ _ 10 rfl h hz hg w
        rw [eA, eB, eC] at hr
        exact hr
      · have d0 := dv_in g0
        have d1 := dv_in g1
        have d2' := dv_in g2
        have d3 := dv_in g3
        have d5 := dv_in g5
        have d6 := dv_in g6
        have d8 := dv_in g8
        have d9 := dv_in g9
        obtain ⟨Y, hY⟩ : ∃ Y, dv b0 * 1000 + dv b1 * 100 + dv b2 * 10 + dv b3 = Y := ⟨_, rfl⟩
        obtain ⟨M, hM⟩ : ∃ M, dv b5 * 10 + dv b6 = M := ⟨_, rfl⟩
        obtain ⟨D, hD⟩ : ∃ D, dv b8 * 10 + dv b9 = D := ⟨_, rfl⟩
        rw [hY, hM, hD] at hE ⊢
        have hok : ofOk Y M D = true := by
          cases hb : ofOk Y M D with
          | true => rfl
          | false => unfold ofE at hE; rw [hb] at hE; simp at hE
        obtain ⟨hs, hb⟩ := ok_split hok
        have hv : ofV Y M D = ys Y + cum Y M + D - 1 := by unfold ofV; rw [if_pos hok]
        rw [hv]
        have hf := fmt_ok hs hb w hT hP
        have es : fmt Y M D = ⟨#[b0, b1, b2, b3, b4, b5, b6, b7, b8, b9]⟩ := by
          show (⟨#[c1 (Y.toNat / 1000), c1 (Y.toNat / 100 % 10), c1 (Y.toNat / 10 % 10), c1 (Y.toNat % 10), 45, c1 (M.toNat / 10), c1 (M.toNat % 10), 45, c1 (D.toNat / 10), c1 (D.toNat % 10)]⟩ : ByteArray) = _
          rw [c1_back g0 (by omega), c1_back g1 (by omega), c1_back g2 (by omega), c1_back g3 (by omega), c1_back g5 (by omega), c1_back g6 (by omega), c1_back g8 (by omega), c1_back g9 (by omega), h4, h7]
        rw [es] at hf
        exact hf
    · refine ⟨0, 2, fun w _ => ?_, fun w => rparse_bad _ _ h hz k hk hg hbad w, fun e => absurd e (by decide)⟩
      by_cases h4 : b4 = 45
      · by_cases h7 : b7 = 45
        · cases ha : allD b0 b1 b2 b3 b4 b5 b6 b7 b8 b9 with
          | false => exact parse_bad3 _ _ _ _ _ _ _ _ _ _ h4 h7 ha w
          | true =>
            exfalso
            simp only [allD, Bool.and_eq_true] at ha
            obtain ⟨⟨⟨⟨⟨⟨⟨g0, g1⟩, g2⟩, g3⟩, g5⟩, g6⟩, g8⟩, g9⟩ := ha
            subst h4
            subst h7
            have hk9 : k = 0 ∨ k = 1 ∨ k = 2 ∨ k = 3 ∨ k = 4 ∨ k = 5 ∨ k = 6 ∨ k = 7 ∨ k = 8 ∨ k = 9 := by omega
            rcases hk9 with rfl | rfl | rfl | rfl | rfl | rfl | rfl | rfl | rfl | rfl
            · exact absurd ((okAt_dgt (i := 0) (by decide) (by decide)).trans g0) (by rw [show okAt 0 (b0.toNat : Int) = false from hbad]; decide)
            · exact absurd ((okAt_dgt (i := 1) (by decide) (by decide)).trans g1) (by rw [show okAt 1 (b1.toNat : Int) = false from hbad]; decide)
            · exact absurd ((okAt_dgt (i := 2) (by decide) (by decide)).trans g2) (by rw [show okAt 2 (b2.toNat : Int) = false from hbad]; decide)
            · exact absurd ((okAt_dgt (i := 3) (by decide) (by decide)).trans g3) (by rw [show okAt 3 (b3.toNat : Int) = false from hbad]; decide)
            · cases hbad
            · exact absurd ((okAt_dgt (i := 5) (by decide) (by decide)).trans g5) (by rw [show okAt 5 (b5.toNat : Int) = false from hbad]; decide)
            · exact absurd ((okAt_dgt (i := 6) (by decide) (by decide)).trans g6) (by rw [show okAt 6 (b6.toNat : Int) = false from hbad]; decide)
            · cases hbad
            · exact absurd ((okAt_dgt (i := 8) (by decide) (by decide)).trans g8) (by rw [show okAt 8 (b8.toNat : Int) = false from hbad]; decide)
            · exact absurd ((okAt_dgt (i := 9) (by decide) (by decide)).trans g9) (by rw [show okAt 9 (b9.toNat : Int) = false from hbad]; decide)
        · subst h4
          exact parse_bad2 _ _ _ _ _ _ _ _ _ h7 w
      · exact parse_bad1 _ _ _ _ _ _ _ _ _ _ h4 w
  · exact ⟨0, 3, fun w _ => parse_long s h hl w, fun w => rparse_long s h hl w, fun e => absurd e (by decide)⟩
end Go.Proofs.YtbfmfnfndmfeeaaDoor
