/- The reader: its small calls, Num of digits, Var at the example. -/
import Derived.Test.YtknipjjmpdnomaaGreatDoorC
set_option linter.unusedVariables false
set_option linter.unusedSimpArgs false
namespace Go.Proofs.YtknipjjmpdnomaaGreatDoor
open Go.Sort Go.ChangeShapes Go.WideShapes Go.ChangeAt Go.RowKit
abbrev rd (s : ByteArray) (a e : Int) : Array Value := #[.string s, .int .i64 a, .int .i64 e]
theorem newr_any (s : ByteArray) (w : World) : Calls Tryz.prog 5 #[.string s] w fun e w' => e = .returned (.pointer (some ⟨w.heap.size, 0, none⟩)) ∧ w' = w.alloc (.cells (rd s 0 0) 42) := by
  go_enter Tryz.func5, Tryz.ntmps5
  go_wp2_with fail
  go_ret
  exact ⟨rfl, rfl⟩
theorem cell3 {w : World} {g : Nat} {s : ByteArray} {a e : Int} (h : Blk w g 42 (rd s a e)) : w.cell? ⟨g, 0, none⟩ = some (.string s) ∧ w.cell? ⟨g, 1, none⟩ = some (.int .i64 a) ∧ w.cell? ⟨g, 2, none⟩ = some (.int .i64 e) ∧ w.frozen? ⟨g, 1, none⟩ = false ∧ w.frozen? ⟨g, 2, none⟩ = false ∧ g < w.heap.size :=
  ⟨h.cell 0, h.cell 1, h.cell 2, h.frozen 1, h.frozen 2, h.lt⟩
theorem err_any (g : Nat) (s : ByteArray) (a e : Int) (w : World) (h : Blk w g 42 (rd s a e)) : Calls Tryz.prog 12 #[.pointer (some ⟨g, 0, none⟩)] w fun x w' => x = .returned (.int .i64 e) ∧ w' = w := by
  obtain ⟨-, -, c2, -, -, hl⟩ := cell3 h
  clear h
  go_enter Tryz.func12, Tryz.ntmps12
  go_wp2_with fail
  go_ret
  exact ⟨rfl, rfl⟩
theorem left_any (g : Nat) (s : ByteArray) (a : Nat) (e : Int) (hs : s.size ≤ 2000) (ha : a ≤ s.size) (w : World) (h : Blk w g 42 (rd s a e)) : Calls Tryz.prog 11 #[.pointer (some ⟨g, 0, none⟩)] w fun x w' => x = .returned (.int .i64 ((s.size - a : Nat) : Int)) ∧ Below w.heap.size w w' := by
  obtain ⟨c0, c1, -, -, -, hl⟩ := cell3 h
  have e1 : IntKind.i64.wrap ((s.size : Int) - (a : Int)) = ((s.size - a : Nat) : Int) := by rw [IntWalk.i64_in _ (by omega)]; omega
  clear h hs ha
  generalize s.size - a = d at *
  go_enter Tryz.func11, Tryz.ntmps11
  go_wp2_with fail
  go_quiet (fail)
  go_wp2_with fail
  go_ret
  exact ⟨rfl, bdn (Below.refl _ _) _⟩
theorem blk_dn {w : World} {g t : Nat} {cs : Array Value} (h : Blk w g t cs) (n : Nat) : Blk (w.drewN n) g t cs := h
theorem blk_set1 {w : World} {g : Nat} {s : ByteArray} {a e : Int} (h : Blk w g 42 (rd s a e)) (b : Int) : Blk (w.setCell ⟨g, 1, none⟩ (.int .i64 b)) g 42 (rd s b e) := by simpa using h.set_ 1 (.int .i64 b)
theorem blk_set2 {w : World} {g : Nat} {s : ByteArray} {a e : Int} (h : Blk w g 42 (rd s a e)) (b : Int) : Blk (w.setCell ⟨g, 2, none⟩ (.int .i64 b)) g 42 (rd s a b) := by simpa using h.set_ 2 (.int .i64 b)
/- End after all is read, without error -/
theorem end_any (g : Nat) (s : ByteArray) (hs : s.size ≤ 2000) (w : World) (h : Blk w g 42 (rd s s.size 0)) : Calls Tryz.prog 13 #[.pointer (some ⟨g, 0, none⟩)] w fun x w' => x = .returned (.int .i64 0) ∧ Below w.heap.size w w' := by
  have HE := Lib.hid (err_any g s s.size 0 w h)
  have HL := Lib.hid (left_any g s s.size 0 hs (Nat.le_refl _) w h)
  rw [Nat.sub_self] at HL
  clear h hs
  go_enter Tryz.func13, Tryz.ntmps13
  go_wp2_with (go_at_call 12; refine HE.out.mono ?_; rintro e w' ⟨rfl, rfl⟩)
  refine HL.out.mono ?_
  rintro e w1 ⟨rfl, hb⟩
  have HB := Lib.hid hb
  clear hb
  go_wp2_with fail
  go_ret
  exact ⟨rfl, HB.out⟩
/- Num's closure, where the digits are there -/
set_option maxHeartbeats 1000000 in
theorem clo_num (c W : Nat) (l : ByteArray) (h1 : 1 ≤ W) (h2 : W ≤ 15) (hl : W ≤ l.size) (hd : isD (l.extract 0 W) = true) (w : World) (hc : w.cell? ⟨c, 0, none⟩ = some (.int .i64 (W : Nat))) :
    Calls Tryz.prog 26 #[.string l, .pointer (some ⟨c, 0, none⟩)] w fun e w' => e = .returned (.tuple #[.int .i64 (W : Nat), .int .i64 0, .int .i64 0]) ∧ w' = w := by
  have RD := Lib.hid (fun w => isdigits_any (l.extract 0 W) w (by unfold maxLen; rw [ByteArray.size_extract]; omega))
  rw [hd] at RD
  have q1 := cut_h l W hl
  have k1 : decide ((W : Int) < 1) = false := decide_eq_false (by omega)
  have k1b : ¬ W = 0 := by omega
  have k2 : decide (15 < (W : Int)) = false := decide_eq_false (by omega)
  have k3 : decide ((l.size : Int) < (W : Int)) = false := decide_eq_false (by omega)
  have k3b : ¬ l.size < W := by omega
  clear h1 h2 hl hd
  go_enter Tryz.func26, Tryz.ntmps26
  go_wp2_with (go_at_call 27; refine (RD.out _).mono ?_; rintro e w' ⟨rfl, rfl⟩)
  exact bodyPost_ret (v := .tuple #[.int .i64 (W : Nat), .int .i64 0, .int .i64 0]) (by simp [results, Tryz.results26, go_sem]) rfl ⟨rfl, rfl⟩
theorem cut_00 (l : ByteArray) (W : Nat) (hl : W ≤ l.size) : ∀ w : World, (Instr.slice 9 (.string l) (some (.int .i64 0)) (some (.int .i64 (W : Nat))) none).run Tryz.prog w = .ok (.string (l.extract 0 W)) w := fun w => cut_lh l 0 W (by omega) hl w
set_option maxHeartbeats 1000000 in
theorem fld_num (g c a W : Nat) (s : ByteArray) (h1 : 1 ≤ W) (h2 : W ≤ 15) (ha : a + W ≤ s.size) (hs : s.size ≤ 2000) (hd : isD ((s.extract a s.size).extract 0 W) = true) (w : World) (hk : Blk w g 42 (rd s a 0)) (hc : w.cell? ⟨c, 0, none⟩ = some (.int .i64 (W : Nat))) :
    Calls Tryz.prog 25 #[.pointer (some ⟨g, 0, none⟩), .func (Fn.func 26) #[] #[.pointer (some ⟨c, 0, none⟩)]] w fun e w' => e = .returned (.string ((s.extract a s.size).extract 0 W)) ∧ Blk w' g 42 (rd s ((a + W : Nat) : Int) 0) ∧ Below g w w' := by
  obtain ⟨c0, c1, c2, f1, f2, hl⟩ := cell3 hk
  have hle : (s.extract a s.size).size = s.size - a := by rw [ByteArray.size_extract]; omega
  have q1 := cut_l s a (by omega)
  have q2 := cut_00 (s.extract a s.size) W (by rw [hle]; omega)
  have HC := Lib.hid (fun n => clo_num c W (s.extract a s.size) h1 h2 (by rw [hle]; omega) hd (w.drewN n) hc)
  have g1 : (0 : Int) ≤ (a : Int) := by omega
  have g2 : (a : Int) ≤ (s.size : Int) := by omega
  have g3 : a ≤ s.size := by omega
  have e1 : (a : Int) + (W : Int) = ((a + W : Nat) : Int) := by omega
  have e2 : wrap64 ((a + W : Nat) : Int) = ((a + W : Nat) : Int) := IntWalk.wrap64_in _ (by omega)
  have HK := Lib.hid hk
  have E1 := Lib.hid e1
  have ha2 : (a : Int) ≤ 2000 := by omega
  have hw2 : (W : Int) ≤ 15 := by omega
  clear hd hle hk h1 h2 ha hs
  generalize s.extract a s.size = L at *
  generalize hAW : a + W = aw at *
  go_enter Tryz.func25, Tryz.ntmps25
  go_wp2_with fail
  go_quiet (fail)
  go_wp2_with (go_at_call 26; refine (HC.out _).mono ?_; rintro e w' ⟨rfl, rfl⟩)
  go_ret
  exact ⟨rfl, blk_set1 (blk_dn HK.out _) _, (bdn (Below.refl _ _) _).setCell (p := ⟨g, 1, none⟩) (Nat.le_refl _) _⟩
set_option maxHeartbeats 1000000 in
theorem rnum_ok (g a W N : Nat) (s : ByteArray) (h1 : 1 ≤ W) (h2 : W ≤ 15) (ha : a + W ≤ s.size) (hs : s.size ≤ 2000) (hd : ls ((s.extract a s.size).extract 0 W) = dgw W N) (hN : N < 10 ^ W) (w : World) (hk : Blk w g 42 (rd s a 0)) :
    Calls Tryz.prog 7 #[.pointer (some ⟨g, 0, none⟩), .int .i64 (W : Nat)] w fun e w' => e = .returned (.int .i64 (N : Nat)) ∧ Blk w' g 42 (rd s ((a + W : Nat) : Int) 0) ∧ Below g w w' := by
  have hlt := hk.lt
  have hD : allD (ls ((s.extract a s.size).extract 0 W)) = true := by rw [hd]; exact dgw_all _ _
  have hsz : ((s.extract a s.size).extract 0 W).size = W := by rw [ls_size, hd, dgw_len]
  have hI : isD ((s.extract a s.size).extract 0 W) = true := by
    unfold isD
    rw [size_pos_list (by omega)]
    rw [show allD ((s.extract a s.size).extract 0 W).data.toList = true from hD]; rfl
  have HF := Lib.hid (fld_num g w.heap.size a W s h1 h2 ha hs hI (w.alloc (.cells #[.int .i64 (W : Nat)] 3)) (hk.alloc _) ((Blk.new w 3 _).cell 0))
  have hnum : Lib.parseIntB 64 ((s.extract a s.size).extract 0 W).data.toList = .ok ((N : Nat) : Int) := by
    have := pib (ls ((s.extract a s.size).extract 0 W)) hD (fun e => by rw [e] at hd; have := congrArg List.length hd; rw [dgw_len] at this; simp at this; omega)
    rw [hd, dgw_val, Nat.mod_eq_of_lt hN, if_pos (Nat.lt_trans hN (Nat.lt_of_le_of_lt (Nat.pow_le_pow_right (by omega) h2) (by decide)))] at this
    rw [← this, ← hd]
  have HP := Lib.hid (fun w => Tryz.strconv_ParseInt_10_at64_ok ((s.extract a s.size).extract 0 W) (by rw [hsz]; omega) _ hnum w)
  have HAW := Lib.hid (Nat.le_of_lt hlt)
  generalize (s.extract a s.size).extract 0 W = L at *
  have HSZ := Lib.hid hsz
  clear hd hN hk hD hI hnum ha hs h1 h2 hsz
  go_enter Tryz.func7, Tryz.ntmps7
  go_wp2_with fail
  refine HF.out.mono ?_
  rintro e w1 ⟨rfl, hk1, hb1⟩
  have HK1 := Lib.hid hk1
  have HB1 := Lib.hid ((((Below.refl w.heap.size w).alloc (Nat.le_refl _) _).mono HAW.out).trans hb1)
  clear hk1 hb1
  go_wp2_with fail
  refine (HP.out _).mono ?_
  rintro e w2 ⟨rfl, hw⟩
  have hb2 : Below w1.heap.size w1 w2 := by
    rcases hw with rfl | ⟨t, rfl⟩
    · exact Below.refl _ _
    · exact Go.Joins.below_bytesWorld w1.heap.size w1 5 t (Nat.le_refl _)
  have HK2 := Lib.hid (HK1.out.call hb2)
  have HB2 := Lib.hid (HB1.out.trans (hb2.mono (Nat.le_of_lt HK1.out.lt)))
  clear hw hb2
  go_wp2_with fail
  go_ret
  exact ⟨rfl, HK2.out, HB2.out⟩
end Go.Proofs.YtknipjjmpdnomaaGreatDoor
