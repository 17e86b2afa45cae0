/- Use of a card that lies in a block, every way; Used, State. -/
import Derived.Test.YtellajpjhhamhaaF
set_option linter.unusedVariables false
set_option linter.unusedSimpArgs false
namespace Go.Proofs.Ytellajpjhhamhaa
open Go.ChangeShapes Go.WideShapes Go.ChangeAt Go.RowKit
theorem use_range (nm : ByteArray) (ex st la lc : Int) (k : Bool) (d a c : Int) (g : Nat) (day am : Int) (w : World) (h : Blk w g 57 (cc nm ex st la lc k d a c)) (hE : usE st ex day = 0) (h1 : ¬ (0 ≤ am ∧ am ≤ 999999999999)) :
    Calls Try.prog 21 #[.pointer (some ⟨g, 0, none⟩), .int .i64 day, .int .i64 am] w fun e w' => e = .returned (.int .i64 4) ∧ w = w' := by
  have hu := usable_any nm ex st la lc k d a c g day w h
  rw [hE] at hu
  have HU := Lib.hid hu
  have ha := amount_any am 0 w
  rw [decide_eq_false h1] at ha
  have HA := Lib.hid ha
  clear hu h hE ha h1
  go_enter Try.func21, Try.ntmps21
  go_wp2_with fail
  refine HU.out.mono ?_
  rintro e w1 ⟨rfl, rfl⟩
  go_wp2_with fail
  refine HA.out.mono ?_
  rintro e w1 ⟨rfl, rfl⟩
  go_wp2_with fail
  go_ret
  exact ⟨rfl, rfl⟩
theorem use_past (nm : ByteArray) (ex st la lc : Int) (k : Bool) (d a c : Int) (g : Nat) (day am : Int) (w : World) (h : Blk w g 57 (cc nm ex st la lc k d a c)) (hE : usE st ex day = 0) (h1 : 0 ≤ am ∧ am ≤ 999999999999) (hp : (k && decide (day < d)) = true) :
    Calls Try.prog 21 #[.pointer (some ⟨g, 0, none⟩), .int .i64 day, .int .i64 am] w fun e w' => e = .returned (.int .i64 14) ∧ w = w' := by
  have hu := usable_any nm ex st la lc k d a c g day w h
  rw [hE] at hu
  have HU := Lib.hid hu
  have ha := amount_any am 0 w
  rw [decide_eq_true h1] at ha
  have HA := Lib.hid ha
  have hq := past_any nm ex st la lc k d a c g day w h
  rw [hp] at hq
  have HQ := Lib.hid hq
  clear hu h hE ha h1 hq hp
  go_enter Try.func21, Try.ntmps21
  go_wp2_with fail
  refine HU.out.mono ?_
  rintro e w1 ⟨rfl, rfl⟩
  go_wp2_with fail
  refine HA.out.mono ?_
  rintro e w1 ⟨rfl, rfl⟩
  go_wp2_with fail
  refine HQ.out.mono ?_
  rintro e w1 ⟨rfl, rfl⟩
  go_wp2_with fail
  go_ret
  exact ⟨rfl, rfl⟩
set_option maxHeartbeats 1000000 in
theorem use_limit (nm : ByteArray) (ex st la lc : Int) (k : Bool) (d a c : Int) (g : Nat) (day am : Int) (w : World) (h : Blk w g 57 (cc nm ex st la lc k d a c)) (hE : usE st ex day = 0) (h1 : 0 ≤ am ∧ am ≤ 999999999999) (hp : (k && decide (day < d)) = false)
    (hA : 0 ≤ dayA k d day a ∧ dayA k d day a ≤ 999999999999) (hC : 0 ≤ dayA k d day c ∧ dayA k d day c ≤ 1000) (h2 : la < dayA k d day a + am ∨ lc < dayA k d day c + 1) :
    Calls Try.prog 21 #[.pointer (some ⟨g, 0, none⟩), .int .i64 day, .int .i64 am] w fun e w' => e = .returned (.int .i64 10) ∧ Below w.heap.size w w' := by
  have hu := usable_any nm ex st la lc k d a c g day w h
  rw [hE] at hu
  have HU := Lib.hid hu
  have ha := amount_any am 0 w
  rw [decide_eq_true h1] at ha
  have HA := Lib.hid ha
  have hq := past_any nm ex st la lc k d a c g day w h
  rw [hp] at hq
  have HQ := Lib.hid hq
  have HD := Lib.hid (day_any nm ex st la lc k d a c g day w h)
  have HB := Lib.hid h
  generalize hga : dayA k d day a = A at *
  generalize hgc : dayA k d day c = C at *
  clear hu h hE ha hq hp hga hgc
  go_enter Try.func21, Try.ntmps21
  go_wp2_with fail
  refine HU.out.mono ?_
  rintro e w1 ⟨rfl, rfl⟩
  go_wp2_with fail
  refine HA.out.mono ?_
  rintro e w1 ⟨rfl, rfl⟩
  go_wp2_with fail
  refine HQ.out.mono ?_
  rintro e w1 ⟨rfl, rfl⟩
  go_wp2_with fail
  refine HD.out.mono ?_
  rintro e w1 ⟨rfl, hb⟩
  have HK := HB.out.call hb
  have HW := Lib.hid hb
  obtain ⟨hc, hf, hl⟩ := HK.rules
  have c5 : w1.cell? ⟨g, 5, none⟩ = some (.int .i64 la) := hc 5
  have c6 : w1.cell? ⟨g, 6, none⟩ = some (.int .i64 lc) := hc 6
  clear hc hf HK hb
  by_cases g1 : la < A + am
  · have hg1 : decide (la < A + am) = true := decide_eq_true g1
    clear h2
    go_wp2_with fail
    go_region
    go_wp2_with fail
    go_ret
    exact ⟨rfl, (HW.out.alloc HW.out.size _).drew⟩
  · have hg1 : decide (la < A + am) = false := decide_eq_false g1
    have hg2 : decide (lc < C + 1) = true := decide_eq_true (by omega)
    clear h2
    go_wp2_with fail
    go_region
    go_wp2_with fail
    go_ret
    exact ⟨rfl, (HW.out.alloc HW.out.size _).drew⟩
/-- what Use returns, as far as the card's numbers are in range -/
def useE (st ex la lc : Int) (k : Bool) (d a c day am : Int) : Int :=
  if usE st ex day ≠ 0 then usE st ex day else if ¬ (0 ≤ am ∧ am ≤ 999999999999) then 4 else if (k && decide (day < d)) = true then 14
  else if la < dayA k d day a + am ∨ lc < dayA k d day c + 1 then 10 else 0
theorem dayA_in (k : Bool) (d day x m : Int) (h : 0 ≤ x ∧ x ≤ m) : 0 ≤ dayA k d day x ∧ dayA k d day x ≤ m := by
  unfold dayA; split <;> omega
theorem use_no (nm : ByteArray) (ex st la lc : Int) (k : Bool) (d a c : Int) (g : Nat) (day am : Int) (w : World) (h : Blk w g 57 (cc nm ex st la lc k d a c))
    (ha : 0 ≤ a ∧ a ≤ 999999999999) (hc : 0 ≤ c ∧ c ≤ 1000) (E : Int) (hE : useE st ex la lc k d a c day am = E) (h0 : E ≠ 0) :
    Calls Try.prog 21 #[.pointer (some ⟨g, 0, none⟩), .int .i64 day, .int .i64 am] w fun e w' => e = .returned (.int .i64 E) ∧ Below w.heap.size w w' := by
  subst hE
  unfold useE at h0 ⊢
  by_cases h1 : usE st ex day ≠ 0
  · rw [if_pos h1] at h0 ⊢
    exact (use_bad nm ex st la lc k d a c g day am _ w h rfl h0).mono fun e w' ⟨he, hw⟩ => ⟨he, by subst hw; exact Below.refl _ _⟩
  · rw [if_neg h1] at h0 ⊢
    have h1' : usE st ex day = 0 := by omega
    by_cases h2 : ¬ (0 ≤ am ∧ am ≤ 999999999999)
    · rw [if_pos h2] at h0 ⊢
      exact (use_range nm ex st la lc k d a c g day am w h h1' h2).mono fun e w' ⟨he, hw⟩ => ⟨he, by subst hw; exact Below.refl _ _⟩
    · rw [if_neg h2] at h0 ⊢
      have h2' : 0 ≤ am ∧ am ≤ 999999999999 := by omega
      by_cases h3 : (k && decide (day < d)) = true
      · rw [if_pos h3] at h0 ⊢
        exact (use_past nm ex st la lc k d a c g day am w h h1' h2' h3).mono fun e w' ⟨he, hw⟩ => ⟨he, by subst hw; exact Below.refl _ _⟩
      · rw [if_neg h3] at h0 ⊢
        by_cases h4 : la < dayA k d day a + am ∨ lc < dayA k d day c + 1
        · rw [if_pos h4] at h0 ⊢
          exact use_limit nm ex st la lc k d a c g day am w h h1' h2' (by simpa using h3) (dayA_in _ _ _ _ _ ha) (dayA_in _ _ _ _ _ hc) h4
        · rw [if_neg h4] at h0; exact absurd rfl h0
theorem use_yes (nm : ByteArray) (ex st la lc : Int) (k : Bool) (d a c : Int) (g : Nat) (day am : Int) (w : World) (h : Blk w g 57 (cc nm ex st la lc k d a c))
    (ha : 0 ≤ a ∧ a ≤ 999999999999) (hc : 0 ≤ c ∧ c ≤ 1000) (hE : useE st ex la lc k d a c day am = 0) :
    Calls Try.prog 21 #[.pointer (some ⟨g, 0, none⟩), .int .i64 day, .int .i64 am] w fun e w' => e = .returned (.int .i64 0) ∧ Blk w' g 57 (cc nm ex st la lc true day (dayA k d day a + am) (dayA k d day c + 1)) ∧ (∀ B, B ≤ g → B ≤ w.heap.size → Below B w w') ∧ Kp g w w' := by
  unfold useE at hE
  by_cases h1 : usE st ex day ≠ 0
  · rw [if_pos h1] at hE; exact absurd hE h1
  · rw [if_neg h1] at hE
    by_cases h2 : ¬ (0 ≤ am ∧ am ≤ 999999999999)
    · rw [if_pos h2] at hE; exact absurd hE (by decide)
    · rw [if_neg h2] at hE
      by_cases h3 : (k && decide (day < d)) = true
      · rw [if_pos h3] at hE; exact absurd hE (by decide)
      · rw [if_neg h3] at hE
        by_cases h4 : la < dayA k d day a + am ∨ lc < dayA k d day c + 1
        · rw [if_pos h4] at hE; exact absurd hE (by decide)
        · exact use_ok nm ex st la lc k d a c g day am w h (by omega) (by omega) (by simpa using h3) (dayA_in _ _ _ _ _ ha) (dayA_in _ _ _ _ _ hc) (by omega) (by omega)
theorem state_any (nm : ByteArray) (ex st la lc : Int) (k : Bool) (d a c : Int) (g : Nat) (w : World) (h : Blk w g 57 (cc nm ex st la lc k d a c)) :
    Calls Try.prog 12 #[.pointer (some ⟨g, 0, none⟩)] w fun e w' => e = .returned (.int .i64 st) ∧ w = w' := by
  obtain ⟨hc, hf, hl⟩ := h.rules
  have c2 : w.cell? ⟨g, 2, none⟩ = some (.int .i64 st) := hc 2
  clear hc hf h
  go_enter Try.func12, Try.ntmps12
  go_wp2_with fail
  go_ret
  exact ⟨rfl, rfl⟩
theorem used_any (nm : ByteArray) (ex st la lc : Int) (k : Bool) (d a c : Int) (g : Nat) (day : Int) (w : World) (h : Blk w g 57 (cc nm ex st la lc k d a c)) :
    Calls Try.prog 22 #[.pointer (some ⟨g, 0, none⟩), .int .i64 day] w fun e w' => e = .returned (.tuple #[.int .i64 (dayA k d day a), .int .i64 (dayA k d day c)]) ∧ Below w.heap.size w w' := by
  have HD := Lib.hid (day_any nm ex st la lc k d a c g day w h)
  clear h
  go_enter Try.func22, Try.ntmps22
  go_wp2_with fail
  refine HD.out.mono ?_
  rintro e w1 ⟨rfl, hb⟩
  have HW := Lib.hid hb
  clear hb
  go_wp2_with fail
  go_region
  go_wp2_with fail
  exact bodyPost_ret (v := .tuple #[.int .i64 (dayA k d day a), .int .i64 (dayA k d day c)]) (by simp [results, Try.results22, go_sem]) rfl ⟨rfl, by first | exact (HW.out.alloc HW.out.size _).drew | exact HW.out.alloc HW.out.size _⟩
end Go.Proofs.Ytellajpjhhamhaa
