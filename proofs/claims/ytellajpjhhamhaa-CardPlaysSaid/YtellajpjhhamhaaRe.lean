/- Use and Undo of both cards. -/
import Derived.Test.YtellajpjhhamhaaRd
set_option linter.unusedVariables false
set_option linter.unusedSimpArgs false
namespace Go.Proofs.Ytellajpjhhamhaa
open Go.ChangeShapes Go.WideShapes Go.ChangeAt Go.RowKit
theorem ruse_no (nm : ByteArray) (ex st la lc : Int) (k : Bool) (d a c : Int) (g : Nat) (day am : Int) (w : World) (h : Blk w g 60 (rc nm ex st la lc k d a c))
    (ha : 0 ≤ a ∧ a ≤ 999999999999) (hc : 0 ≤ c ∧ c ≤ 1000) (E : Int) (hE : useE st ex la lc k d a c day am = E) (h0 : E ≠ 0) :
    Calls Try.prog 33 #[.pointer (some ⟨g, 0, none⟩), .int .i64 day, .int .i64 am] w fun e w' => e = .returned (.int .i64 E) ∧ Below w.heap.size w w' := by
  subst hE
  unfold useE at h0 ⊢
  by_cases h1 : usE st ex day ≠ 0
  · rw [if_pos h1] at h0 ⊢
    exact ruse_bad nm ex st la lc k d a c g day am _ w h rfl h0
  · rw [if_neg h1] at h0 ⊢
    have h1' : usE st ex day = 0 := by omega
    by_cases h2 : ¬ (0 ≤ am ∧ am ≤ 999999999999)
    · rw [if_pos h2] at h0 ⊢
      exact ruse_range nm ex st la lc k d a c g day am w h h1' h2
    · rw [if_neg h2] at h0 ⊢
      have h2' : 0 ≤ am ∧ am ≤ 999999999999 := by omega
      by_cases h3 : (k && decide (day < d)) = true
      · rw [if_pos h3] at h0 ⊢
        rw [Bool.and_eq_true, decide_eq_true_iff] at h3
        obtain ⟨rfl, h3⟩ := h3
        exact ruse_past nm ex st la lc d a c g day am w h h1' h2' h3
      · rw [if_neg h3] at h0 ⊢
        by_cases h4 : la < dayA k d day a + am ∨ lc < dayA k d day c + 1
        · rw [if_pos h4] at h0 ⊢
          cases k
          · by_cases h5 : la < dayA false d day a + am
            · exact ruse_l1_false nm ex st la lc d a c g day am w h h1' h2' (dayA_in _ _ _ _ _ ha) (dayA_in _ _ _ _ _ hc) h5
            · exact ruse_l2_false nm ex st la lc d a c g day am w h h1' h2' (dayA_in _ _ _ _ _ ha) (dayA_in _ _ _ _ _ hc) (by omega) (by omega)
          · have h6 : d ≤ day := by simpa using h3
            by_cases h5 : la < dayA true d day a + am
            · exact ruse_l1_true nm ex st la lc d a c g day am w h h1' h2' h6 (dayA_in _ _ _ _ _ ha) (dayA_in _ _ _ _ _ hc) h5
            · exact ruse_l2_true nm ex st la lc d a c g day am w h h1' h2' h6 (dayA_in _ _ _ _ _ ha) (dayA_in _ _ _ _ _ hc) (by omega) (by omega)
        · rw [if_neg h4] at h0; exact absurd rfl h0
theorem use_zero_is {st ex la lc : Int} {k : Bool} {d a c day am : Int} (hE : useE st ex la lc k d a c day am = 0) : usE st ex day = 0 ∧ (0 ≤ am ∧ am ≤ 999999999999) ∧ (k && decide (day < d)) = false ∧ dayA k d day a + am ≤ la ∧ dayA k d day c + 1 ≤ lc := by
  unfold useE at hE
  by_cases h1 : usE st ex day ≠ 0
  · rw [if_pos h1] at hE; exact absurd hE h1
  · rw [if_neg h1] at hE
    by_cases h2 : ¬ (0 ≤ am ∧ am ≤ 999999999999)
    · rw [if_pos h2] at hE; exact absurd hE (by decide)
    · rw [if_neg h2] at hE
      by_cases h3 : (k && decide (day < d)) = true
      · rw [if_pos h3] at hE; exact absurd hE (by decide)
      · rw [if_neg h3] at hE
        by_cases h4 : la < dayA k d day a + am ∨ lc < dayA k d day c + 1
        · rw [if_pos h4] at hE; exact absurd hE (by decide)
        · exact ⟨by omega, by omega, by simpa using h3, by omega, by omega⟩
theorem ruse_yes (nm : ByteArray) (ex st la lc : Int) (k : Bool) (d a c : Int) (g : Nat) (day am : Int) (w : World) (h : Blk w g 60 (rc nm ex st la lc k d a c)) (ha : 0 ≤ a ∧ a ≤ 999999999999) (hc : 0 ≤ c ∧ c ≤ 1000) (hE : useE st ex la lc k d a c day am = 0) :
    Calls Try.prog 33 #[.pointer (some ⟨g, 0, none⟩), .int .i64 day, .int .i64 am] w fun e w' => e = .returned (.int .i64 0) ∧ Blk w' g 60 (rc nm ex st la lc true day (dayA k d day a + am) (dayA k d day c + 1)) ∧ (∀ B, B ≤ g → B ≤ w.heap.size → Below B w w') ∧ Kp g w w' := by
  obtain ⟨h1, h2, h3, h4, h5⟩ := use_zero_is hE
  cases k
  · exact ruse_ok_false nm ex st la lc d a c g day am w h h1 h2 (dayA_in _ _ _ _ _ ha) (dayA_in _ _ _ _ _ hc) h4 h5
  · exact ruse_ok_true nm ex st la lc d a c g day am w h h1 h2 (by simpa using h3) (dayA_in _ _ _ _ _ ha) (dayA_in _ _ _ _ _ hc) h4 h5
def undE (k : Bool) (d a c day am : Int) : Int := if ¬ (0 ≤ am ∧ am ≤ 999999999999) then 4 else if (k && decide (day < d)) = true then 14 else if dayA k d day c = 0 ∨ dayA k d day a < am then 6 else 0
theorem stepUse (S : Option Cs) (day am : Int) (hS : okO S) : ∃ (x : Int) (S' : Option Cs), okO S' ∧ (∀ g v w, CAt 57 pc g w v S → Calls Try.prog 21 #[v, .int .i64 day, .int .i64 am] w (CPost 57 pc g v S' w (.int .i64 x))) ∧ (∀ g v w, CAt 60 rcs g w v S → Calls Try.prog 33 #[v, .int .i64 day, .int .i64 am] w (CPost 60 rcs g v S' w (.int .i64 x))) := by
  cases S with
  | none => exact ⟨6, none, trivial, ⟨fun g v w h => by
      obtain rfl : v = .pointer none := h.2
      exact post_same h (nil21 day am w), fun g v w h => by
      obtain rfl : v = .pointer none := h.2
      exact post_same h (nil33 day am w)⟩⟩
  | some s =>
    obtain ⟨ha, hc, hla, hlc⟩ := hS
    by_cases hE : useE s.st s.ex s.la s.lc s.k s.d s.a s.c day am = 0
    · obtain ⟨z1, z2, z3, z4, z5⟩ := use_zero_is hE
      have i1 := dayA_in s.k s.d day _ _ ha
      have i2 := dayA_in s.k s.d day _ _ hc
      refine ⟨0, some { s with k := true, d := day, a := dayA s.k s.d day s.a + am, c := dayA s.k s.d day s.c + 1 }, ⟨⟨by dsimp only; omega, by dsimp only; omega⟩, ⟨by dsimp only; omega, by dsimp only; omega⟩, hla, hlc⟩, fun g v w h => ?_, fun g v w h => ?_⟩
      · obtain ⟨hg, rfl, hB⟩ := h
        exact post_stay (f := pc) hg (use_yes s.nm s.ex s.st s.la s.lc s.k s.d s.a s.c g day am w hB ha hc hE)
      · obtain ⟨hg, rfl, hB⟩ := h
        exact post_stay (f := rcs) hg (ruse_yes s.nm s.ex s.st s.la s.lc s.k s.d s.a s.c g day am w hB ha hc hE)
    · refine ⟨useE s.st s.ex s.la s.lc s.k s.d s.a s.c day am, some s, ⟨ha, hc, hla, hlc⟩, fun g v w h => ?_, fun g v w h => ?_⟩
      · have h' := h
        obtain ⟨hg, rfl, hB⟩ := h
        exact post_below h' (use_no s.nm s.ex s.st s.la s.lc s.k s.d s.a s.c g day am w hB ha hc _ rfl hE)
      · have h' := h
        obtain ⟨hg, rfl, hB⟩ := h
        exact post_below h' (ruse_no s.nm s.ex s.st s.la s.lc s.k s.d s.a s.c g day am w hB ha hc _ rfl hE)
theorem stepUndo (S : Option Cs) (day am : Int) (hS : okO S) : ∃ (x : Int) (S' : Option Cs), okO S' ∧ (∀ g v w, CAt 57 pc g w v S → Calls Try.prog 23 #[v, .int .i64 day, .int .i64 am] w (CPost 57 pc g v S' w (.int .i64 x))) ∧ (∀ g v w, CAt 60 rcs g w v S → Calls Try.prog 34 #[v, .int .i64 day, .int .i64 am] w (CPost 60 rcs g v S' w (.int .i64 x))) := by
  cases S with
  | none => exact ⟨6, none, trivial, ⟨fun g v w h => by
      obtain rfl : v = .pointer none := h.2
      exact post_same h (nil23 day am w), fun g v w h => by
      obtain rfl : v = .pointer none := h.2
      exact post_same h (nil34 day am w)⟩⟩
  | some s =>
    obtain ⟨ha, hc, hla, hlc⟩ := hS
    by_cases h1 : 0 ≤ am ∧ am ≤ 999999999999
    · by_cases h2 : (s.k && decide (day < s.d)) = true
      · refine ⟨14, some s, ⟨ha, hc, hla, hlc⟩, fun g v w h => ?_, fun g v w h => ?_⟩
        · have h' := h
          obtain ⟨hg, rfl, hB⟩ := h
          exact post_below h' ((undo_past s.nm s.ex s.st s.la s.lc s.k s.d s.a s.c g day am w hB h1 h2).mono fun e w' ⟨he, hw⟩ => ⟨he, by subst hw; exact Below.refl _ _⟩)
        · have h' := h
          obtain ⟨hg, rfl, hB⟩ := h
          rw [Bool.and_eq_true, decide_eq_true_iff] at h2
          obtain ⟨hk, h2⟩ := h2
          obtain ⟨nm, ex, st, la, lc, k, d, a, c⟩ := s
          dsimp only at hk h2
          subst hk
          exact post_below h' (rundo_past nm ex st la lc d a c g day am w hB h1 h2)
      · have h2' : (s.k && decide (day < s.d)) = false := by simpa using h2
        by_cases h3 : dayA s.k s.d day s.c = 0 ∨ dayA s.k s.d day s.a < am
        · refine ⟨6, some s, ⟨ha, hc, hla, hlc⟩, fun g v w h => ?_, fun g v w h => ?_⟩
          · have h' := h
            obtain ⟨hg, rfl, hB⟩ := h
            exact post_below h' (undo_none s.nm s.ex s.st s.la s.lc s.k s.d s.a s.c g day am w hB h1 h2' h3)
          · have h' := h
            obtain ⟨hg, rfl, hB⟩ := h
            obtain ⟨nm, ex, st, la, lc, k, d, a, c⟩ := s
            dsimp only at h2' h3
            refine post_below h' ?_
            cases k
            · exact rundo_new nm ex st la lc d a c g day am w hB h1
            · have h4 : d ≤ day := by simpa using h2'
              by_cases h5 : d = day
              · subst h5
                by_cases h6 : c = 0
                · exact rundo_zero nm ex st la lc d a c g d am w hB h1 rfl h6
                · refine rundo_less nm ex st la lc d a c g d am w hB h1 rfl h6 ?_
                  rcases h3 with h3 | h3
                  · exact absurd (by simpa [dayA] using h3) h6
                  · simpa [dayA] using h3
              · exact rundo_later nm ex st la lc d a c g day am w hB h1 (by omega)
        · have h4 : s.k = true ∧ s.d = day := by
            by_cases h5 : s.k = true ∧ s.d = day
            · exact h5
            · exfalso; apply h3; left; unfold dayA; rw [if_neg h5]
          obtain ⟨nm, ex, st, la, lc, k, d, a, c⟩ := s
          dsimp only at h4 h3 ha hc hla hlc
          obtain ⟨rfl, rfl⟩ := h4
          rw [show dayA true d d c = c by simp [dayA], show dayA true d d a = a by simp [dayA]] at h3
          refine ⟨0, some ⟨nm, ex, st, la, lc, true, d, a - am, c - 1⟩, ⟨⟨by dsimp only; omega, by dsimp only; omega⟩, ⟨by dsimp only; omega, by dsimp only; omega⟩, hla, hlc⟩, fun g v w h => ?_, fun g v w h => ?_⟩
          · obtain ⟨hg, rfl, hB⟩ := h
            exact post_stay (f := pc) hg (undo_ok nm ex st la lc d a c g am w hB h1 (by omega) (by omega))
          · obtain ⟨hg, rfl, hB⟩ := h
            exact post_stay (f := rcs) hg (rundo_ok nm ex st la lc d a c g am w hB h1 (by omega) (by omega))
    · refine ⟨4, some s, ⟨ha, hc, hla, hlc⟩, fun g v w h => ?_, fun g v w h => ?_⟩
      · have h' := h
        obtain ⟨hg, rfl, hB⟩ := h
        exact post_below h' ((undo_range s.nm s.ex s.st s.la s.lc s.k s.d s.a s.c g day am w hB h1).mono fun e w' ⟨he, hw⟩ => ⟨he, by subst hw; exact Below.refl _ _⟩)
      · have h' := h
        obtain ⟨hg, rfl, hB⟩ := h
        exact post_below h' (rundo_range s.nm s.ex s.st s.la s.lc s.k s.d s.a s.c g day am w hB h1)
end Go.Proofs.Ytellajpjhhamhaa
