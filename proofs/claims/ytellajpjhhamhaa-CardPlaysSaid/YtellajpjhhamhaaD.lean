/- Do and Usable of a card that lies in a block. -/
import Derived.Test.YtellajpjhhamhaaC
set_option linter.unusedVariables false
set_option linter.unusedSimpArgs false
namespace Go.Proofs.Ytellajpjhhamhaa
open Go.ChangeShapes Go.WideShapes Go.ChangeAt Go.RowKit
theorem nxE_zero (s e : Int) : nxE s e = 0 ∨ nxE s e = 4 ∨ nxE s e = 8 := by
  unfold nxE; split
  · exact .inr (.inl rfl)
  · split
    · exact .inl rfl
    · exact .inr (.inr rfl)
theorem do_any (nm : ByteArray) (ex st la lc : Int) (k : Bool) (d a c : Int) (g : Nat) (ev : Int) (w : World) (h : Blk w g 57 (cc nm ex st la lc k d a c)) :
    Calls Try.prog 20 #[.pointer (some ⟨g, 0, none⟩), .int .i64 ev] w fun e w' => e = .returned (.int .i64 (nxE st ev)) ∧ w' = if nxE st ev = 0 then w.setCell ⟨g, 2, none⟩ (.int .i64 (nxS st ev)) else w := by
  obtain ⟨hc, hf, hl⟩ := h.rules
  have c2 : w.cell? ⟨g, 2, none⟩ = some (.int .i64 st) := hc 2
  have f2 : w.frozen? ⟨g, 2, none⟩ = false := hf 2
  clear hc hf h
  go_enter Try.func20, Try.ntmps20
  rcases nxE_zero st ev with h0 | h0 | h0
  all_goals
    rw [h0]
    go_wp2_with fail
    refine (next_any _ _ _).mono ?_
    rw [h0]
    rintro e w1 ⟨rfl, rfl⟩
    go_wp2_with fail
    go_ret
    exact ⟨rfl, rfl⟩
def usE (st ex day : Int) : Int := if st ≠ 2 then 17 else if ¬ (0 ≤ day ∧ day ≤ 99999) then 14 else if ex < day then 17 else 0
theorem usable_any (nm : ByteArray) (ex st la lc : Int) (k : Bool) (d a c : Int) (g : Nat) (day : Int) (w : World) (h : Blk w g 57 (cc nm ex st la lc k d a c)) :
    Calls Try.prog 31 #[.pointer (some ⟨g, 0, none⟩), .int .i64 day] w fun e w' => e = .returned (.int .i64 (usE st ex day)) ∧ w = w' := by
  obtain ⟨hc, hf, hl⟩ := h.rules
  have c2 : w.cell? ⟨g, 2, none⟩ = some (.int .i64 st) := hc 2
  have c1 : w.cell? ⟨g, 1, none⟩ = some (.int .i64 ex) := hc 1
  clear hc hf h
  by_cases h2 : st = 2
  · subst h2
    cases hd : decide (0 ≤ day ∧ day ≤ 99999)
    · have hu : usE 2 ex day = 14 := by unfold usE; rw [if_neg (by simp), if_pos (of_decide_eq_false hd)]
      rw [hu]
      go_enter Try.func31, Try.ntmps31
      go_wp2_with fail
      refine (date_any _ _).mono ?_
      rw [hd]
      rintro e w1 ⟨rfl, rfl⟩
      go_wp2_with fail
      go_ret
      exact ⟨rfl, rfl⟩
    · by_cases h3 : ex < day
      · have hu : usE 2 ex day = 17 := by unfold usE; rw [if_neg (by simp), if_neg (by simpa using of_decide_eq_true hd), if_pos h3]
        rw [hu]
        go_enter Try.func31, Try.ntmps31
        go_wp2_with fail
        refine (date_any _ _).mono ?_
        rw [hd]
        rintro e w1 ⟨rfl, rfl⟩
        go_wp2_with fail
        go_ret
        exact ⟨rfl, rfl⟩
      · have hu : usE 2 ex day = 0 := by unfold usE; rw [if_neg (by simp), if_neg (by simpa using of_decide_eq_true hd), if_neg h3]
        rw [hu]
        go_enter Try.func31, Try.ntmps31
        go_wp2_with fail
        refine (date_any _ _).mono ?_
        rw [hd]
        rintro e w1 ⟨rfl, rfl⟩
        go_wp2_with fail
        go_ret
        exact ⟨rfl, rfl⟩
  · have hu : usE st ex day = 17 := by unfold usE; rw [if_pos h2]
    have hb : (st == 2) = false := beq_eq_false_iff_ne.2 h2
    rw [hu]
    go_enter Try.func31, Try.ntmps31
    go_wp2_with fail
    go_ret
    exact ⟨rfl, rfl⟩
end Go.Proofs.Ytellajpjhhamhaa
