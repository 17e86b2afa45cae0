/- The reference: date, amount, Usable, Do, Used, State, Number, Expiry. -/
import Derived.Test.YtellajpjhhamhaaI
set_option linter.unusedVariables false
set_option linter.unusedSimpArgs false
namespace Go.Proofs.Ytellajpjhhamhaa
open Go.ChangeShapes Go.WideShapes Go.ChangeAt Go.RowKit
/-- the nine cells of the reference's card -/
def rc (nm : ByteArray) (ex st la lc : Int) (k : Bool) (d a c : Int) : Array Value :=
  #[.string nm, .int .i64 ex, .int .i64 la, .int .i64 a, .int .i64 lc, .int .i64 c, .int .i64 st, .int .i64 d, .bool k]
theorem rdate_any (n : Int) (w : World) :
    Calls Try.prog 28 #[.int .i64 n] w fun e w' => e = .returned (.bool (decide (0 ≤ n ∧ n ≤ 99999))) ∧ w = w' := by
  go_enter Try.func28, Try.ntmps28
  by_cases h1 : 0 ≤ n
  · by_cases h2 : n ≤ 99999
    · go_wp2_with fail
      go_ret
      exact ⟨by rw [decide_eq_true ⟨h1, h2⟩]; rfl, rfl⟩
    · go_wp2_with fail
      go_ret
      exact ⟨by rw [decide_eq_false (by omega)]; rfl, rfl⟩
  · go_wp2_with fail
    go_ret
    exact ⟨by rw [decide_eq_false (by omega)]; rfl, rfl⟩
theorem ramount_any (n : Int) (w : World) :
    Calls Try.prog 29 #[.int .i64 n] w fun e w' => e = .returned (.bool (decide (0 ≤ n ∧ n ≤ 999999999999))) ∧ w = w' := by
  go_enter Try.func29, Try.ntmps29
  by_cases h1 : 0 ≤ n
  · by_cases h2 : n ≤ 999999999999
    · go_wp2_with fail
      go_ret
      exact ⟨by rw [decide_eq_true ⟨h1, h2⟩]; rfl, rfl⟩
    · go_wp2_with fail
      go_ret
      exact ⟨by rw [decide_eq_false (by omega)]; rfl, rfl⟩
  · go_wp2_with fail
    go_ret
    exact ⟨by rw [decide_eq_false (by omega)]; rfl, rfl⟩
theorem rstate_any (nm : ByteArray) (ex st la lc : Int) (k : Bool) (d a c : Int) (g : Nat) (w : World) (h : Blk w g 60 (rc nm ex st la lc k d a c)) : Calls Try.prog 13 #[.pointer (some ⟨g, 0, none⟩)] w fun e w' => e = .returned (.int .i64 st) ∧ w = w' := by
  obtain ⟨hc, hf, hl⟩ := h.rules
  have c6 : w.cell? ⟨g, 6, none⟩ = some (.int .i64 st) := hc 6
  clear hc hf
  clear h
  go_enter Try.func13, Try.ntmps13
  go_wp2_with fail
  go_ret
  exact ⟨rfl, rfl⟩
theorem rnumber_any (nm : ByteArray) (ex st la lc : Int) (k : Bool) (d a c : Int) (g : Nat) (w : World) (h : Blk w g 60 (rc nm ex st la lc k d a c)) : Calls Try.prog 15 #[.pointer (some ⟨g, 0, none⟩)] w fun e w' => e = .returned (.string nm) ∧ w = w' := by
  obtain ⟨hc, hf, hl⟩ := h.rules
  have c0 : w.cell? ⟨g, 0, none⟩ = some (.string nm) := hc 0
  clear hc hf
  clear h
  go_enter Try.func15, Try.ntmps15
  go_wp2_with fail
  go_ret
  exact ⟨rfl, rfl⟩
theorem rexpiry_any (nm : ByteArray) (ex st la lc : Int) (k : Bool) (d a c : Int) (g : Nat) (w : World) (h : Blk w g 60 (rc nm ex st la lc k d a c)) : Calls Try.prog 17 #[.pointer (some ⟨g, 0, none⟩)] w fun e w' => e = .returned (.int .i64 ex) ∧ w = w' := by
  obtain ⟨hc, hf, hl⟩ := h.rules
  have c1 : w.cell? ⟨g, 1, none⟩ = some (.int .i64 ex) := hc 1
  clear hc hf
  clear h
  go_enter Try.func17, Try.ntmps17
  go_wp2_with fail
  go_ret
  exact ⟨rfl, rfl⟩
theorem number_any (nm : ByteArray) (ex st la lc : Int) (k : Bool) (d a c : Int) (g : Nat) (w : World) (h : Blk w g 57 (cc nm ex st la lc k d a c)) : Calls Try.prog 14 #[.pointer (some ⟨g, 0, none⟩)] w fun e w' => e = .returned (.string nm) ∧ w = w' := by
  obtain ⟨hc, hf, hl⟩ := h.rules
  have c0 : w.cell? ⟨g, 0, none⟩ = some (.string nm) := hc 0
  clear hc hf
  clear h
  go_enter Try.func14, Try.ntmps14
  go_wp2_with fail
  go_ret
  exact ⟨rfl, rfl⟩
theorem expiry_any (nm : ByteArray) (ex st la lc : Int) (k : Bool) (d a c : Int) (g : Nat) (w : World) (h : Blk w g 57 (cc nm ex st la lc k d a c)) : Calls Try.prog 16 #[.pointer (some ⟨g, 0, none⟩)] w fun e w' => e = .returned (.int .i64 ex) ∧ w = w' := by
  obtain ⟨hc, hf, hl⟩ := h.rules
  have c1 : w.cell? ⟨g, 1, none⟩ = some (.int .i64 ex) := hc 1
  clear hc hf
  clear h
  go_enter Try.func16, Try.ntmps16
  go_wp2_with fail
  go_ret
  exact ⟨rfl, rfl⟩
theorem rusable_any (nm : ByteArray) (ex st la lc : Int) (k : Bool) (d a c : Int) (g : Nat) (day : Int) (w : World) (h : Blk w g 60 (rc nm ex st la lc k d a c)) :
    Calls Try.prog 32 #[.pointer (some ⟨g, 0, none⟩), .int .i64 day] w fun e w' => e = .returned (.int .i64 (usE st ex day)) ∧ w = w' := by
  obtain ⟨hc, hf, hl⟩ := h.rules
  have c1 : w.cell? ⟨g, 1, none⟩ = some (.int .i64 ex) := hc 1
  have c6 : w.cell? ⟨g, 6, none⟩ = some (.int .i64 st) := hc 6
  clear hc hf
  clear h
  by_cases h2 : st = 2
  · subst h2
    have hD := rdate_any day w
    by_cases hd : 0 ≤ day ∧ day ≤ 99999
    · rw [decide_eq_true hd] at hD
      have HD := Lib.hid hD
      clear hD
      by_cases h3 : ex < day
      · have hu : usE 2 ex day = 17 := by unfold usE; rw [if_neg (by simp), if_neg (by simpa using hd), if_pos h3]
        rw [hu]
        go_enter Try.func32, Try.ntmps32
        go_wp2_with fail
        refine HD.out.mono ?_
        rintro e w1 ⟨rfl, rfl⟩
        go_wp2_with fail
        go_ret
        exact ⟨rfl, rfl⟩
      · have hu : usE 2 ex day = 0 := by unfold usE; rw [if_neg (by simp), if_neg (by simpa using hd), if_neg h3]
        rw [hu]
        go_enter Try.func32, Try.ntmps32
        go_wp2_with fail
        refine HD.out.mono ?_
        rintro e w1 ⟨rfl, rfl⟩
        go_wp2_with fail
        go_ret
        exact ⟨rfl, rfl⟩
    · rw [decide_eq_false hd] at hD
      have HD := Lib.hid hD
      have hu : usE 2 ex day = 14 := by unfold usE; rw [if_neg (by simp), if_pos hd]
      clear hD
      rw [hu]
      go_enter Try.func32, Try.ntmps32
      go_wp2_with fail
      refine HD.out.mono ?_
      rintro e w1 ⟨rfl, rfl⟩
      go_wp2_with fail
      go_ret
      exact ⟨rfl, rfl⟩
  · have hu : usE st ex day = 17 := by unfold usE; rw [if_pos h2]
    have hb : (st == 2) = false := beq_eq_false_iff_ne.2 h2
    have hb2 : (st != 2) = true := by rw [bne, hb]; rfl
    rw [hu]
    go_enter Try.func32, Try.ntmps32
    go_wp2_with fail
    go_ret
    exact ⟨rfl, rfl⟩
theorem rdo_any (nm : ByteArray) (ex st la lc : Int) (k : Bool) (d a c : Int) (g : Nat) (ev : Int) (w : World) (h : Blk w g 60 (rc nm ex st la lc k d a c)) :
    Calls Try.prog 30 #[.pointer (some ⟨g, 0, none⟩), .int .i64 ev] w fun e w' => e = .returned (.int .i64 (nxE st ev)) ∧ w' = if nxE st ev = 0 then w.setCell ⟨g, 6, none⟩ (.int .i64 (nxS st ev)) else w := by
  obtain ⟨hc, hf, hl⟩ := h.rules
  have c6 : w.cell? ⟨g, 6, none⟩ = some (.int .i64 st) := hc 6
  have f6 : w.frozen? ⟨g, 6, none⟩ = false := hf 6
  clear hc hf
  clear h
  have HN := Lib.hid (refnext_any st ev w)
  go_enter Try.func30, Try.ntmps30
  rcases nxE_zero st ev with h0 | h0 | h0
  all_goals
    rw [h0] at HN ⊢
    go_wp2_with fail
    refine HN.out.mono ?_
    rintro e w1 ⟨rfl, rfl⟩
    go_wp2_with fail
    go_ret
    exact ⟨rfl, rfl⟩
theorem rused_any (nm : ByteArray) (ex st la lc : Int) (k : Bool) (d a c : Int) (g : Nat) (day : Int) (w : World) (h : Blk w g 60 (rc nm ex st la lc k d a c)) :
    Calls Try.prog 35 #[.pointer (some ⟨g, 0, none⟩), .int .i64 day] w fun e w' => e = .returned (.tuple #[.int .i64 (dayA k d day a), .int .i64 (dayA k d day c)]) ∧ Below w.heap.size w w' := by
  obtain ⟨hc, hf, hl⟩ := h.rules
  have c3 : w.cell? ⟨g, 3, none⟩ = some (.int .i64 a) := hc 3
  have c5 : w.cell? ⟨g, 5, none⟩ = some (.int .i64 c) := hc 5
  have c7 : w.cell? ⟨g, 7, none⟩ = some (.int .i64 d) := hc 7
  have c8 : w.cell? ⟨g, 8, none⟩ = some (.bool k) := hc 8
  clear hc hf
  clear h
  cases k
  · have e1 : dayA false d day a = 0 := by simp [dayA]
    have e2 : dayA false d day c = 0 := by simp [dayA]
    rw [e1, e2]
    go_enter Try.func35, Try.ntmps35
    go_wp2_with fail
    exact bodyPost_ret (v := .tuple #[.int .i64 0, .int .i64 0]) (by simp [results, Try.results35, go_sem]) rfl ⟨rfl, Below.refl _ _⟩
  · by_cases hd : day = d
    · subst hd
      have e1 : dayA true day day a = a := by simp [dayA]
      have e2 : dayA true day day c = c := by simp [dayA]
      have hx : (day != day) = false := by simp
      rw [e1, e2]
      go_enter Try.func35, Try.ntmps35
      go_wp2_with fail
      go_region
      go_wp2_with fail
      exact bodyPost_ret (v := .tuple #[.int .i64 a, .int .i64 c]) (by simp [results, Try.results35, go_sem]) rfl ⟨rfl, (Below.refl _ _).drew⟩
    · have e1 : dayA true d day a = 0 := by simp [dayA, Ne.symm hd]
      have e2 : dayA true d day c = 0 := by simp [dayA, Ne.symm hd]
      have hx : (day != d) = true := by rw [bne_iff_ne]; exact hd
      rw [e1, e2]
      go_enter Try.func35, Try.ntmps35
      go_wp2_with fail
      exact bodyPost_ret (v := .tuple #[.int .i64 0, .int .i64 0]) (by simp [results, Try.results35, go_sem]) rfl ⟨rfl, Below.refl _ _⟩
end Go.Proofs.Ytellajpjhhamhaa
