/- Check and Encode. -/
import Derived.Test.YtjkfckkmofcpdaaDoorEa
set_option linter.unusedVariables false
set_option linter.unusedSimpArgs false
namespace Go.Proofs.YtjkfckkmofcpdaaDoor
open Go.Sort Go.ChangeShapes Go.WideShapes Go.ChangeAt Go.RowKit
/-- Check: the error of a value -/
def ckE (n : Int) (s : ByteArray) : Int := if ¬ fdI n < 23 then 6 else if (s.size : Int) < shV (dn (fdI n)) (dl (fdI n)) (dv (fdI n)) then 1 else if dl (fdI n) < s.size then 3 else if kindB (dk (fdI n)) s = false then 2 else 0
theorem dn_in (i : Nat) : -1 ≤ dl i ∧ dl i ≤ 255 ∧ 0 ≤ dv i ∧ dv i ≤ 3 := by
  by_cases h : i < 23
  · have key : ∀ k : Fin 23, -1 ≤ dl k.val ∧ dl k.val ≤ 255 ∧ 0 ≤ dv k.val ∧ dv k.val ≤ 3 := by decide
    exact key ⟨i, h⟩
  · unfold dl dv
    rw [List.getD_eq_getElem?_getD, List.getD_eq_getElem?_getD, List.getElem?_eq_none (by simp; omega), List.getElem?_eq_none (by simp; omega)]
    decide
set_option maxHeartbeats 2000000 in
theorem check_any (n : Int) (s : ByteArray) (hs : s.size ≤ 2000) (w : World) (hX : DT w) : Calls Tryd.prog 21 #[.int .i64 n, .string s] w fun e w' => e = .returned (.int .i64 (ckE n s)) ∧ Below w.heap.size w w' := by
  have HFd := Lib.hid (find_any n w hX)
  have HS := Lib.hid (fun w => shortest_any (dn (fdI n)) (dnm (fdI n)) (dk (fdI n)) (dl (fdI n)) (dv (fdI n)) w)
  have HK := Lib.hid (fun w => kind_any s (dk (fdI n)) hs w)
  unfold ckE
  dsimp only [spA] at HFd
  obtain ⟨i, hi⟩ : ∃ i, i = fdI n := ⟨_, rfl⟩
  rw [← hi] at HFd HS HK ⊢
  clear hX hi
  have hin := dn_in i
  generalize dn i = a0 at *
  generalize dnm i = a1 at *
  generalize dk i = a2 at *
  generalize dl i = a3 at *
  generalize dv i = a4 at *
  generalize shV a0 a3 a4 = q at *
  generalize kindB a2 s = B at *
  have hsi : (s.size : Int) ≤ 2000 := by omega
  by_cases h1 : i < 23
  · rw [if_neg (by omega)]
    simp only [decide_eq_true h1] at HFd
    clear h1
    by_cases h2 : (s.size : Int) < q
    · rw [if_pos h2]
      have c2 : decide ((s.size : Int) < q) = true := decide_eq_true h2
      go_enter Tryd.func21, Tryd.ntmps21
      go_wp2_with fail
      refine HFd.out.mono ?_
      rintro e w1 ⟨rfl, hb⟩
      have HB1 := Lib.hid (hb.alloc hb.size (.cells #[.int .i64 a0, .string a1, .int .i64 a2, .int .i64 a3, .int .i64 a4] 23))
      clear hb
      go_wp2_with fail
      refine (HS.out _).mono ?_
      rintro e w2 ⟨rfl, hb⟩
      have HB2 := Lib.hid (below_call HB1.out hb)
      clear hb
      go_wp2_with fail
      go_ret
      exact ⟨rfl, HB2.out⟩
    · rw [if_neg h2]
      have c2 : decide ((s.size : Int) < q) = false := decide_eq_false h2
      by_cases h3 : a3 < s.size
      · rw [if_pos h3]
        have c3 : decide (a3 < (s.size : Int)) = true := decide_eq_true h3
        go_enter Tryd.func21, Tryd.ntmps21
        go_wp2_with fail
        refine HFd.out.mono ?_
        rintro e w1 ⟨rfl, hb⟩
        have HB1 := Lib.hid (hb.alloc hb.size (.cells #[.int .i64 a0, .string a1, .int .i64 a2, .int .i64 a3, .int .i64 a4] 23))
        have HN := Lib.hid (Blk.new w1 23 #[.int .i64 a0, .string a1, .int .i64 a2, .int .i64 a3, .int .i64 a4])
        clear hb
        go_wp2_with fail
        refine (HS.out _).mono ?_
        rintro e w2 ⟨rfl, hb⟩
        have HB2 := Lib.hid (below_call HB1.out hb)
        have r3 : w2.cell? ⟨w1.heap.size, 3, none⟩ = some (.int .i64 a3) := (HN.out.call hb).cell 3
        have rl := (HN.out.call hb).lt
        clear hb
        go_wp2_with fail
        go_ret
        exact ⟨rfl, HB2.out⟩
      · rw [if_neg h3]
        have c3 : decide (a3 < (s.size : Int)) = false := decide_eq_false h3
        cases B
        all_goals
          go_enter Tryd.func21, Tryd.ntmps21
          go_wp2_with fail
          refine HFd.out.mono ?_
          rintro e w1 ⟨rfl, hb⟩
          have HB1 := Lib.hid (hb.alloc hb.size (.cells #[.int .i64 a0, .string a1, .int .i64 a2, .int .i64 a3, .int .i64 a4] 23))
          have HN := Lib.hid (Blk.new w1 23 #[.int .i64 a0, .string a1, .int .i64 a2, .int .i64 a3, .int .i64 a4])
          clear hb
          go_wp2_with fail
          refine (HS.out _).mono ?_
          rintro e w2 ⟨rfl, hb⟩
          have HB2 := Lib.hid (below_call HB1.out hb)
          have r2 : w2.cell? ⟨w1.heap.size, 2, none⟩ = some (.int .i64 a2) := (HN.out.call hb).cell 2
          have r3 : w2.cell? ⟨w1.heap.size, 3, none⟩ = some (.int .i64 a3) := (HN.out.call hb).cell 3
          have rl := (HN.out.call hb).lt
          clear hb
          go_wp2_with fail
          refine (HK.out _).mono ?_
          rintro e w3 ⟨rfl, hb⟩
          have HB3 := Lib.hid (below_call HB2.out hb)
          clear hb
          go_wp2_with fail
          go_ret
          exact ⟨rfl, HB3.out⟩
  · rw [if_pos (by omega)]
    simp only [decide_eq_false h1] at HFd
    go_enter Tryd.func21, Tryd.ntmps21
    go_wp2_with fail
    refine HFd.out.mono ?_
    rintro e w1 ⟨rfl, hb⟩
    have HB1 := Lib.hid (hb.alloc hb.size (.cells #[.int .i64 a0, .string a1, .int .i64 a2, .int .i64 a3, .int .i64 a4] 23))
    clear hb
    go_wp2_with fail
    go_ret
    exact ⟨rfl, HB1.out⟩
end Go.Proofs.YtjkfckkmofcpdaaDoor
