/- One read of both readers. -/
import Derived.Test.YtknipjjmpdnomaaGreatDoorP
import Derived.Test.YtknipjjmpdnomaaGreatDoorQ
set_option linter.unusedVariables false
set_option linter.unusedSimpArgs false
namespace Go.Proofs.YtknipjjmpdnomaaGreatDoor
open Go.Sort Go.ChangeShapes Go.WideShapes Go.ChangeAt Go.RowKit
theorem tail_size (s : ByteArray) (a : Nat) (h : a ≤ s.size) : (s.extract a s.size).size = s.size - a := by rw [ByteArray.size_extract]; omega
theorem tail_tail (s : ByteArray) (a k : Nat) (h : a + k ≤ s.size) : (s.extract a s.size).extract k (s.extract a s.size).size = s.extract (a + k) s.size := by
  refine ls_ext ?_
  rw [tail_size s a (by omega), ls_ex, ls_ex, ls_ex, List.drop_take, List.drop_drop, List.take_take]
  congr 1
  omega
theorem ndich (T : ByteArray) (n : Int) : (∃ E, nBad T n E ∧ E ≠ 0) ∨ ∃ W : Nat, n = W ∧ 1 ≤ W ∧ W ≤ 15 ∧ W ≤ T.size ∧ allD (ls (T.extract 0 W)) = true := by
  by_cases h1 : n < 1 ∨ 15 < n
  · exact .inl ⟨4, .inl ⟨h1, rfl⟩, by decide⟩
  by_cases h2 : (T.size : Int) < n
  · exact .inl ⟨1, .inr (.inl ⟨by omega, by omega, h2, rfl⟩), by decide⟩
  obtain ⟨W, rfl⟩ : ∃ W : Nat, n = W := ⟨n.toNat, by omega⟩
  cases hd : allD (ls (T.extract 0 W))
  · exact .inl ⟨2, .inr (.inr ⟨W, rfl, by omega, by omega, by omega, hd, rfl⟩), by decide⟩
  · exact .inr ⟨W, rfl, by omega, by omega, by omega, hd⟩
theorem adich (T : ByteArray) (n : Int) : (∃ E, aBad T n E ∧ E ≠ 0) ∨ ∃ W : Nat, n = W ∧ 1 ≤ W ∧ W ≤ 255 ∧ W ≤ T.size ∧ prn (ls (T.extract 0 W)) = true := by
  by_cases h1 : n < 1 ∨ 255 < n
  · exact .inl ⟨4, .inl ⟨h1, rfl⟩, by decide⟩
  by_cases h2 : (T.size : Int) < n
  · exact .inl ⟨1, .inr (.inl ⟨by omega, by omega, h2, rfl⟩), by decide⟩
  obtain ⟨W, rfl⟩ : ∃ W : Nat, n = W := ⟨n.toNat, by omega⟩
  cases hd : prn (ls (T.extract 0 W))
  · exact .inl ⟨2, .inr (.inr ⟨W, rfl, by omega, by omega, by omega, hd, rfl⟩), by decide⟩
  · exact .inr ⟨W, rfl, by omega, by omega, by omega, hd⟩
theorem tdich (T : ByteArray) (n : Int) : (∃ E, tBad T n E ∧ E ≠ 0) ∨ ∃ W : Nat, n = W ∧ W ≤ T.size := by
  by_cases h1 : n < 0
  · exact .inl ⟨4, .inl ⟨h1, rfl⟩, by decide⟩
  by_cases h2 : (T.size : Int) < n
  · exact .inl ⟨1, .inr ⟨by omega, h2, rfl⟩, by decide⟩
  exact .inr ⟨n.toNat, by omega, by omega⟩
theorem vBdich (k : Nat) (T : ByteArray) (m : Int) : (∃ E, vB k T m E ∧ E ≠ 0) ∨ (allD (ls (T.extract 0 k)) = true ∧ ∃ v : Nat, v = valF 0 (ls (T.extract 0 k)) ∧ (v : Int) ≤ m ∧ v ≤ 255 ∧ k + v ≤ T.size) := by
  by_cases h1 : T.size < k
  · exact .inl ⟨1, .inl ⟨h1, rfl⟩, by decide⟩
  cases hd : allD (ls (T.extract 0 k))
  · exact .inl ⟨2, .inr (.inl ⟨by omega, hd, rfl⟩), by decide⟩
  obtain ⟨v, hv⟩ : ∃ v, v = valF 0 (ls (T.extract 0 k)) := ⟨_, rfl⟩
  by_cases h2 : m < v
  · exact .inl ⟨3, .inr (.inr ⟨by omega, hd, v, hv, .inl ⟨h2, rfl⟩⟩), by decide⟩
  by_cases h3 : 255 < v
  · exact .inl ⟨3, .inr (.inr ⟨by omega, hd, v, hv, .inr (.inl ⟨by omega, h3, rfl⟩)⟩), by decide⟩
  by_cases h4 : T.size < k + v
  · exact .inl ⟨1, .inr (.inr ⟨by omega, hd, v, hv, .inr (.inr ⟨by omega, by omega, h4, rfl⟩)⟩), by decide⟩
  exact .inr ⟨rfl, v, hv, by omega, by omega, by omega⟩
theorem stepNum (s : ByteArray) (a : Nat) (e n : Int) (hs : s.size ≤ 1000) (ha : a ≤ s.size) : ∃ (x : Int) (a' : Nat) (e' : Int), a' ≤ s.size ∧
    (∀ g w, 3 ≤ g → ErP w → Blk w g 42 (rd s a e) → Calls Tryz.prog 7 #[.pointer (some ⟨g, 0, none⟩), .int .i64 n] w (PP g w (.int .i64 x) s a' e')) ∧
    (∀ h w, Blk w h 44 (rr (s.extract a s.size) e) → Calls Tryz.prog 14 #[.pointer (some ⟨h, 0, none⟩), .int .i64 n] w (RP h w (.int .i64 x) (s.extract a' s.size) e')) := by
  have hz := tail_size s a ha
  by_cases he : e = 0
  · subst he
    rcases ndich (s.extract a s.size) n with ⟨E, hB, hE0⟩ | ⟨W, rfl, h1, h2, h3, hd⟩
    · exact ⟨0, a, E, ha, fun g w h3 hE hk => opNum_bad g a n E s hs ha hB hE0 w hE h3 hk, fun h w hk => rNum_bad h _ n E (by omega) hB w hk⟩
    · refine ⟨_, a + W, 0, by omega, fun g w h3' hE hk => opNum_ok g a W s hs h1 h2 (by omega) hd w hE h3' hk, fun h w hk => ?_⟩
      have := rNum_ok h W (s.extract a s.size) h1 h2 (by omega) h3 hd w hk
      rw [tail_tail s a W (by omega)] at this
      exact this
  · exact ⟨0, a, e, ha, fun g w h3 hE hk => opNum_dead g n a e s he w hE h3 hk, fun h w hk => rNum_dead h _ e n he w hk⟩
theorem stepAlpha (s : ByteArray) (a : Nat) (e n : Int) (hs : s.size ≤ 1000) (ha : a ≤ s.size) : ∃ (x : ByteArray) (a' : Nat) (e' : Int), a' ≤ s.size ∧
    (∀ g w, Blk w g 42 (rd s a e) → Calls Tryz.prog 8 #[.pointer (some ⟨g, 0, none⟩), .int .i64 n] w (PP g w (.string x) s a' e')) ∧
    (∀ h w, Blk w h 44 (rr (s.extract a s.size) e) → Calls Tryz.prog 15 #[.pointer (some ⟨h, 0, none⟩), .int .i64 n] w (RP h w (.string x) (s.extract a' s.size) e')) := by
  have hz := tail_size s a ha
  by_cases he : e = 0
  · subst he
    rcases adich (s.extract a s.size) n with ⟨E, hB, hE0⟩ | ⟨W, rfl, h1, h2, h3, hd⟩
    · exact ⟨⟨#[]⟩, a, E, ha, fun g w hk => opAlpha_bad g a n E s hs ha hB hE0 w hk, fun h w hk => rAlpha_bad h _ n E (by omega) hB w hk⟩
    · obtain ⟨x, m, hx, hxm, hsf⟩ := spc_ex W ((s.extract a s.size).extract 0 W) (by rw [ByteArray.size_extract]; omega)
      refine ⟨x, a + W, 0, by omega, fun g w hk => opAlpha_ok g a W s hs h1 h2 (by omega) x m hd hx hxm hsf w hk, fun h w hk => ?_⟩
      have := rAlpha_ok h W m (s.extract a s.size) x h1 h2 (by omega) h3 hd hx hxm hsf w hk
      rw [tail_tail s a W (by omega)] at this
      exact this
  · exact ⟨⟨#[]⟩, a, e, ha, fun g w hk => opAlpha_dead g n a e s he w hk, fun h w hk => rAlpha_dead h _ e n he w hk⟩
theorem stepTake (s : ByteArray) (a : Nat) (e n : Int) (hs : s.size ≤ 1000) (ha : a ≤ s.size) : ∃ (x : ByteArray) (a' : Nat) (e' : Int), a' ≤ s.size ∧
    (∀ g w, Blk w g 42 (rd s a e) → Calls Tryz.prog 10 #[.pointer (some ⟨g, 0, none⟩), .int .i64 n] w (PP g w (.string x) s a' e')) ∧
    (∀ h w, Blk w h 44 (rr (s.extract a s.size) e) → Calls Tryz.prog 17 #[.pointer (some ⟨h, 0, none⟩), .int .i64 n] w (RP h w (.string x) (s.extract a' s.size) e')) := by
  have hz := tail_size s a ha
  by_cases he : e = 0
  · subst he
    rcases tdich (s.extract a s.size) n with ⟨E, hB, hE0⟩ | ⟨W, rfl, h3⟩
    · exact ⟨⟨#[]⟩, a, E, ha, fun g w hk => opTake_bad g a n E s hs ha hB hE0 w hk, fun h w hk => rTake_bad h _ n E (by omega) hB w hk⟩
    · refine ⟨_, a + W, 0, by omega, fun g w hk => opTake_ok g a W s hs (by omega) w hk, fun h w hk => ?_⟩
      have := rTake_ok h W (s.extract a s.size) (by omega) h3 w hk
      rw [tail_tail s a W (by omega)] at this
      exact this
  · exact ⟨⟨#[]⟩, a, e, ha, fun g w hk => opTake_dead g n a e s he w hk, fun h w hk => rTake_dead h _ e n he w hk⟩
theorem stepVar (s : ByteArray) (a : Nat) (e n m : Int) (hs : s.size ≤ 1000) (ha : a ≤ s.size) : ∃ (x : ByteArray) (a' : Nat) (e' : Int), a' ≤ s.size ∧
    (∀ g w, Blk w g 42 (rd s a e) → Calls Tryz.prog 9 #[.pointer (some ⟨g, 0, none⟩), .int .i64 n, .int .i64 m] w (PP g w (.string x) s a' e')) ∧
    (∀ h w, Blk w h 44 (rr (s.extract a s.size) e) → Calls Tryz.prog 16 #[.pointer (some ⟨h, 0, none⟩), .int .i64 n, .int .i64 m] w (RP h w (.string x) (s.extract a' s.size) e')) := by
  have hz := tail_size s a ha
  by_cases he : e = 0
  · subst he
    have bad : ∀ E, vBad (s.extract a s.size) n m E → E ≠ 0 → ∃ (x : ByteArray) (a' : Nat) (e' : Int), a' ≤ s.size ∧
        (∀ g w, Blk w g 42 (rd s a 0) → Calls Tryz.prog 9 #[.pointer (some ⟨g, 0, none⟩), .int .i64 n, .int .i64 m] w (PP g w (.string x) s a' e')) ∧
        (∀ h w, Blk w h 44 (rr (s.extract a s.size) 0) → Calls Tryz.prog 16 #[.pointer (some ⟨h, 0, none⟩), .int .i64 n, .int .i64 m] w (RP h w (.string x) (s.extract a' s.size) e')) := fun E hB hE0 =>
      ⟨⟨#[]⟩, a, E, ha, fun g w hk => opVar_bad g a n m E s hs ha hB hE0 w hk, fun h w hk => rVar_bad h _ n m E (by omega) hB w hk⟩
    by_cases h23 : n ≠ 2 ∧ n ≠ 3
    · exact bad 4 (.inl ⟨h23, rfl⟩) (by decide)
    by_cases hm : m < 0
    · exact bad 4 (.inr (.inl ⟨by omega, hm, rfl⟩)) (by decide)
    by_cases h2 : n = 2
    · subst h2
      rcases vBdich 2 (s.extract a s.size) m with ⟨E, hB, hE0⟩ | ⟨hd, v, hv, hvm, hv2, hsz⟩
      · exact bad E (.inr (.inr (.inl ⟨by omega, rfl, hB⟩))) hE0
      · refine ⟨_, a + (2 + v), 0, by omega, fun g w hk => opVar2_ok g a v (2 + v) s m hs hvm hd hv rfl hv2 (by omega) w hk, fun h w hk => ?_⟩
        have := rVar2_ok h v (2 + v) (s.extract a s.size) m hvm (by omega) hd hv rfl hv2 hsz w hk
        rw [tail_tail s a (2 + v) (by omega)] at this
        exact this
    · obtain rfl : n = 3 := by omega
      rcases vBdich 3 (s.extract a s.size) m with ⟨E, hB, hE0⟩ | ⟨hd, v, hv, hvm, hv2, hsz⟩
      · exact bad E (.inr (.inr (.inr ⟨by omega, rfl, hB⟩))) hE0
      · refine ⟨_, a + (3 + v), 0, by omega, fun g w hk => opVar3_ok g a v (3 + v) s m hs hvm hd hv rfl hv2 (by omega) w hk, fun h w hk => ?_⟩
        have := rVar3_ok h v (3 + v) (s.extract a s.size) m hvm (by omega) hd hv rfl hv2 hsz w hk
        rw [tail_tail s a (3 + v) (by omega)] at this
        exact this
  · exact ⟨⟨#[]⟩, a, e, ha, fun g w hk => opVar_dead g n m a e s he w hk, fun h w hk => rVar_dead h _ e n m he w hk⟩
end Go.Proofs.YtknipjjmpdnomaaGreatDoor
