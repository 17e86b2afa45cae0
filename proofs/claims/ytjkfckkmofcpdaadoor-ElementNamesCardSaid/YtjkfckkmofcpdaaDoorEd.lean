/- readLength. -/
import Derived.Test.YtjkfckkmofcpdaaDoorEc
set_option linter.unusedVariables false
set_option linter.unusedSimpArgs false
namespace Go.Proofs.YtjkfckkmofcpdaaDoor
open Go.Sort Go.ChangeShapes Go.WideShapes Go.ChangeAt Go.RowKit
theorem atoi_call (s : ByteArray) (n : Int) (hl : s.size ≤ 18) (h : Lib.atoi s.data.toList = some n) (w : World) :
    Calls Tryd.prog 50 #[.string s] w fun e w' => e = .returned (.tuple #[.int .i64 n, .nilIface]) ∧ Below w.heap.size w w' :=
  (Tryd.strconv_Atoi s n hl h w).mono fun e w' ⟨he, t, hw⟩ => ⟨he, hw ▸ Go.Joins.below_bytesWorld w.heap.size w 5 t (Nat.le_refl _)⟩
def rlV (s : ByteArray) (m : Nat) : Nat := valF 0 (ls (s.extract 0 m))
def rlE (s : ByteArray) (l : Int) (m : Nat) : Int := if s.size < m then 1 else if isD (s.extract 0 m) = false then 2 else if l < (rlV s m : Int) then 3 else 0
def rlN (s : ByteArray) (l : Int) (m : Nat) : Int := if rlE s l m = 0 then rlV s m else 0
set_option maxHeartbeats 2000000 in
set_option maxRecDepth 20000 in
theorem rl_any (s : ByteArray) (hs : s.size ≤ 2000) (a0 : Int) (a1 : ByteArray) (a2 a3 : Int) (m : Nat) (h1 : 1 ≤ m) (h3 : m ≤ 3) (w : World) : Calls Tryd.prog 32 #[.string s, .agg #[.int .i64 a0, .string a1, .int .i64 a2, .int .i64 a3, .int .i64 (m : Nat)]] w fun e w' => e = .returned (.tuple #[.int .i64 (rlN s a3 m), .int .i64 (rlE s a3 m)]) ∧ Below w.heap.size w w' := by
  have hsi : (s.size : Int) ≤ 2000 := by omega
  have hm : (m : Int) ≤ 3 := by omega
  have HB0 := Lib.hid ((Below.refl w.heap.size w).alloc (Nat.le_refl _) (.cells #[.int .i64 a0, .string a1, .int .i64 a2, .int .i64 a3, .int .i64 (m : Nat)] 23))
  have HN := Lib.hid (Blk.new w 23 #[.int .i64 a0, .string a1, .int .i64 a2, .int .i64 a3, .int .i64 (m : Nat)])
  unfold rlN rlE
  by_cases z1 : s.size < m
  · rw [if_pos z1, if_neg (by decide)]
    have c1 : decide ((s.size : Int) < (m : Int)) = true := decide_eq_true (by omega)
    clear HN
    go_enter Tryd.func32, Tryd.ntmps32
    go_wp2_with fail
    exact bodyPost_ret (v := .tuple #[.int .i64 0, .int .i64 1]) (by simp [results, Tryd.results32, go_sem]) rfl ⟨rfl, HB0.out⟩
  rw [if_neg z1]
  have c1 : decide ((s.size : Int) < (m : Int)) = false := decide_eq_false (by omega)
  have q1 := cut_h s m (by omega)
  have HD := Lib.hid (fun w => isdigits_any (s.extract 0 m) w (by rw [ByteArray.size_extract]; unfold maxLen; omega))
  cases hd : isD (s.extract 0 m)
  · rw [if_pos rfl, if_neg (by decide)]
    simp only [hd] at HD
    generalize s.extract 0 m = T at *
    clear HN hd
    go_enter Tryd.func32, Tryd.ntmps32
    go_wp2_with fail
    refine (HD.out _).mono ?_
    rintro e w1 ⟨rfl, rfl⟩
    go_wp2_with fail
    exact bodyPost_ret (v := .tuple #[.int .i64 0, .int .i64 2]) (by simp [results, Tryd.results32, go_sem]) rfl ⟨rfl, HB0.out⟩
  simp only [if_neg (show ¬ (true = false) by decide)]
  simp only [hd] at HD
  have hz : (s.extract 0 m).size = m := by rw [ByteArray.size_extract]; omega
  have had : allD (ls (s.extract 0 m)) = true := by unfold isD at hd; rw [Bool.and_eq_true] at hd; exact hd.1
  have hne : ls (s.extract 0 m) ≠ [] := by intro e; have := congrArg List.length e; rw [← ls_size, hz] at this; simp at this; omega
  have hlt := valF_lt (ls (s.extract 0 m)) had
  rw [← ls_size, hz] at hlt
  have hlt2 : valF 0 (ls (s.extract 0 m)) < 1000 := Nat.lt_of_lt_of_le hlt (Nat.le_trans (Nat.pow_le_pow_right (by decide) h3) (by decide))
  have HA := Lib.hid (fun w => atoi_call (s.extract 0 m) _ (by omega) (atoi_valF _ had hne) w)
  unfold rlV
  generalize valF 0 (ls (s.extract 0 m)) = v at *
  generalize s.extract 0 m = T at *
  clear hd had hne hlt
  have hvi : (v : Int) < 1000 := by omega
  have finish : True := trivial
  by_cases z3 : a3 < (v : Int)
  · simp only [if_pos z3, if_neg (show ¬ ((3 : Int) = 0) by decide)]
    have c3 : decide (a3 < (v : Int)) = true := decide_eq_true z3
    go_enter Tryd.func32, Tryd.ntmps32
    go_wp2_with fail
    refine (HD.out _).mono ?_
    rintro e w1 ⟨rfl, rfl⟩
    go_wp2_with fail
    refine (HA.out _).mono ?_
    rintro e w2 ⟨rfl, hb⟩
    have HB2 := Lib.hid (below_call HB0.out hb)
    have r3 : w2.cell? ⟨w.heap.size, 3, none⟩ = some (.int .i64 a3) := (HN.out.call hb).cell 3
    have rl := (HN.out.call hb).lt
    clear hb
    go_wp2_with fail
    exact bodyPost_ret (v := .tuple #[.int .i64 0, .int .i64 3]) (by simp [results, Tryd.results32, go_sem]) rfl ⟨rfl, HB2.out⟩
  · simp only [if_neg z3, if_pos (show (0 : Int) = 0 from rfl)]
    have c3 : decide (a3 < (v : Int)) = false := decide_eq_false z3
    go_enter Tryd.func32, Tryd.ntmps32
    go_wp2_with fail
    refine (HD.out _).mono ?_
    rintro e w1 ⟨rfl, rfl⟩
    go_wp2_with fail
    refine (HA.out _).mono ?_
    rintro e w2 ⟨rfl, hb⟩
    have HB2 := Lib.hid (below_call HB0.out hb)
    have r3 : w2.cell? ⟨w.heap.size, 3, none⟩ = some (.int .i64 a3) := (HN.out.call hb).cell 3
    have rl := (HN.out.call hb).lt
    clear hb
    go_wp2_with fail
    exact bodyPost_ret (v := .tuple #[.int .i64 (v : Int), .int .i64 0]) (by simp [results, Tryd.results32, go_sem]) rfl ⟨rfl, HB2.out⟩
end Go.Proofs.YtjkfckkmofcpdaaDoor
