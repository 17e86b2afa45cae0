/- The reader on longer texts; its Var. -/
import Derived.Test.YtknipjjmpdnomaaDoorO
set_option linter.unusedVariables false
set_option linter.unusedSimpArgs false
namespace Go.Proofs.YtknipjjmpdnomaaDoor
open Go.Sort Go.ChangeShapes Go.WideShapes Go.ChangeAt Go.RowKit
theorem left_any2 (g : Nat) (s : ByteArray) (a : Nat) (e : Int) (hs : s.size ≤ 20000) (ha : a ≤ s.size) (w : World) (h : Blk w g 59 (rd s a e)) : Calls Tryd.prog 23 #[.pointer (some ⟨g, 0, none⟩)] w fun x w' => x = .returned (.int .i64 ((s.size - a : Nat) : Int)) ∧ Below w.heap.size w w' := by
  obtain ⟨c0, c1, -, -, -, hl⟩ := cell3 h
  have e1 : IntKind.i64.wrap ((s.size : Int) - (a : Int)) = ((s.size - a : Nat) : Int) := by rw [IntWalk.i64_in _ (by omega)]; omega
  clear h hs ha
  generalize s.size - a = d at *
  go_enter Tryd.func23, Tryd.ntmps23
  go_wp2_with fail
  go_quiet (fail)
  go_wp2_with fail
  go_ret
  exact ⟨rfl, bdn (Below.refl _ _) _⟩
theorem end_any2 (g : Nat) (s : ByteArray) (hs : s.size ≤ 20000) (w : World) (h : Blk w g 59 (rd s s.size 0)) : Calls Tryd.prog 22 #[.pointer (some ⟨g, 0, none⟩)] w fun x w' => x = .returned (.int .i64 0) ∧ Below w.heap.size w w' := by
  have HE := Lib.hid (err_any g s s.size 0 w h)
  have HL := Lib.hid (left_any2 g s s.size 0 hs (Nat.le_refl _) w h)
  rw [Nat.sub_self] at HL
  clear h hs
  go_enter Tryd.func22, Tryd.ntmps22
  go_wp2_with (go_at_call 24; refine HE.out.mono ?_; rintro e w' ⟨rfl, rfl⟩)
  refine HL.out.mono ?_
  rintro e w1 ⟨rfl, hb⟩
  have HB := Lib.hid hb
  clear hb
  go_wp2_with fail
  go_ret
  exact ⟨rfl, HB.out⟩
set_option maxHeartbeats 1000000 in
theorem fld_num2 (g c a W : Nat) (s : ByteArray) (h1 : 1 ≤ W) (h2 : W ≤ 15) (ha : a + W ≤ s.size) (hs : s.size ≤ 20000) (hd : isD ((s.extract a s.size).extract 0 W) = true) (w : World) (hk : Blk w g 59 (rd s a 0)) (hc : w.cell? ⟨c, 0, none⟩ = some (.int .i64 (W : Nat))) :
    Calls Tryd.prog 34 #[.pointer (some ⟨g, 0, none⟩), .func (Fn.func 35) #[] #[.pointer (some ⟨c, 0, none⟩)]] w fun e w' => e = .returned (.string ((s.extract a s.size).extract 0 W)) ∧ Blk w' g 59 (rd s ((a + W : Nat) : Int) 0) ∧ Below g w w' ∧ Keeps g w w' := by
  obtain ⟨c0, c1, c2, f1, f2, hl⟩ := cell3 hk
  have hle : (s.extract a s.size).size = s.size - a := by rw [ByteArray.size_extract]; omega
  have q1 := cut_l s a (by omega)
  have q2 := cut_00 (s.extract a s.size) W (by rw [hle]; omega)
  have HC := Lib.hid (fun n => clo_num c W (s.extract a s.size) h1 h2 (by rw [hle]; omega) hd (w.drewN n) hc)
  have g1 : (0 : Int) ≤ (a : Int) := by omega
  have g2 : (a : Int) ≤ (s.size : Int) := by omega
  have g3 : a ≤ s.size := by omega
  have e1 : (a : Int) + (W : Int) = ((a + W : Nat) : Int) := by omega
  have e2 : wrap64 ((a + W : Nat) : Int) = ((a + W : Nat) : Int) := IntWalk.wrap64_in _ (by omega)
  have HK := Lib.hid hk
  have E1 := Lib.hid e1
  have ha2 : (a : Int) ≤ 20000 := by omega
  have hw2 : (W : Int) ≤ 15 := by omega
  clear hd hle hk h1 h2 ha hs
  generalize s.extract a s.size = L at *
  generalize hAW : a + W = aw at *
  go_enter Tryd.func34, Tryd.ntmps34
  go_wp2_with fail
  go_quiet (fail)
  go_wp2_with (go_at_call 35; refine (HC.out _).mono ?_; rintro e w' ⟨rfl, rfl⟩)
  go_ret
  exact ⟨rfl, blk_set1 (blk_dn HK.out _) _, (bdn (Below.refl _ _) _).setCell (p := ⟨g, 1, none⟩) (Nat.le_refl _) _, fun f t cs hf hb => Blk.far (blk_dn hb _) hf _⟩
set_option maxHeartbeats 1000000 in
theorem rnum_ok2 (g a W N : Nat) (s : ByteArray) (h1 : 1 ≤ W) (h2 : W ≤ 15) (ha : a + W ≤ s.size) (hs : s.size ≤ 20000) (hd : ls ((s.extract a s.size).extract 0 W) = dgw W N) (hN : N < 10 ^ W) (w : World) (hk : Blk w g 59 (rd s a 0)) :
    Calls Tryd.prog 19 #[.pointer (some ⟨g, 0, none⟩), .int .i64 (W : Nat)] w fun e w' => e = .returned (.int .i64 (N : Nat)) ∧ Blk w' g 59 (rd s ((a + W : Nat) : Int) 0) ∧ Below g w w' ∧ Keeps g w w' := by
  have hlt := hk.lt
  have hD : allD (ls ((s.extract a s.size).extract 0 W)) = true := by rw [hd]; exact dgw_all _ _
  have hsz : ((s.extract a s.size).extract 0 W).size = W := by rw [ls_size, hd, dgw_len]
  have hI : isD ((s.extract a s.size).extract 0 W) = true := by
    unfold isD
    rw [size_pos_list (by omega)]
    rw [show allD ((s.extract a s.size).extract 0 W).data.toList = true from hD]; rfl
  have HF := Lib.hid (fld_num2 g w.heap.size a W s h1 h2 ha hs hI (w.alloc (.cells #[.int .i64 (W : Nat)] 3)) (hk.alloc _) ((Blk.new w 3 _).cell 0))
  have hnum : Lib.parseIntB 64 ((s.extract a s.size).extract 0 W).data.toList = .ok ((N : Nat) : Int) := by
    have := pib (ls ((s.extract a s.size).extract 0 W)) hD (fun e => by rw [e] at hd; have := congrArg List.length hd; rw [dgw_len] at this; simp at this; omega)
    rw [hd, dgw_val, Nat.mod_eq_of_lt hN, if_pos (Nat.lt_trans hN (Nat.lt_of_le_of_lt (Nat.pow_le_pow_right (by omega) h2) (by decide)))] at this
    rw [← this, ← hd]
  have HP := Lib.hid (fun w => Tryd.strconv_ParseInt_10_at64_ok ((s.extract a s.size).extract 0 W) (by rw [hsz]; omega) _ hnum w)
  have HAW := Lib.hid (Nat.le_of_lt hlt)
  generalize (s.extract a s.size).extract 0 W = L at *
  have HSZ := Lib.hid hsz
  clear hd hN hk hD hI hnum ha hs h1 h2 hsz
  go_enter Tryd.func19, Tryd.ntmps19
  go_wp2_with fail
  refine HF.out.mono ?_
  rintro e w1 ⟨rfl, hk1, hb1, hp1⟩
  have HK1 := Lib.hid hk1
  have HKP : Hid (Keeps g w w1) := Lib.hid (fun f t cs hf hb => hp1 f t cs hf (hb.alloc _))
  have HB1 := Lib.hid ((((Below.refl w.heap.size w).alloc (Nat.le_refl _) _).mono HAW.out).trans hb1)
  clear hk1 hb1 hp1
  go_wp2_with fail
  refine (HP.out _).mono ?_
  rintro e w2 ⟨rfl, hw⟩
  have hb2 : Below w1.heap.size w1 w2 := by
    rcases hw with rfl | ⟨t, rfl⟩
    · exact Below.refl _ _
    · exact Go.Joins.below_bytesWorld w1.heap.size w1 5 t (Nat.le_refl _)
  have HK2 := Lib.hid (HK1.out.call hb2)
  have HB2 := Lib.hid (HB1.out.trans (hb2.mono (Nat.le_of_lt HK1.out.lt)))
  have HKP2 : Hid (Keeps g w w2) := Lib.hid (fun f t cs hf hb => (HKP.out f t cs hf hb).call hb2)
  clear hw hb2
  go_wp2_with fail
  go_ret
  exact ⟨rfl, HK2.out, HB2.out, HKP2.out⟩
theorem hid_le {a b : Nat} (h : a < b) : a ≤ b := Nat.le_of_lt h
set_option maxHeartbeats 1000000 in
theorem clo_var2_ok (c d n aw : Nat) (M : Int) (l : ByteArray) (haw : 2 + n = aw) (hl : aw ≤ l.size) (hn : n ≤ 255) (hM : (n : Int) ≤ M) (hls : l.size ≤ 20000) (hdg : ls (l.extract 0 2) = dgw 2 n) (hnW : n < 10 ^ 2) (w : World) (hc : w.cell? ⟨c, 0, none⟩ = some (.int .i64 2)) (hd : w.cell? ⟨d, 0, none⟩ = some (.int .i64 M)) :
    Calls Tryd.prog 40 #[.string l, .pointer (some ⟨c, 0, none⟩), .pointer (some ⟨d, 0, none⟩)] w fun e w' => e = .returned (.tuple #[.int .i64 (aw : Nat), .int .i64 2, .int .i64 0]) ∧ Below w.heap.size w w' := by
  have hD : allD (ls (l.extract 0 2)) = true := by rw [hdg]; exact dgw_all _ _
  have hsz : (l.extract 0 2).size = 2 := by rw [ls_size, hdg, dgw_len]
  have hI : isD (l.extract 0 2) = true := by
    unfold isD
    rw [size_pos_list (by omega), show allD (l.extract 0 2).data.toList = true from hD]; rfl
  have H1 := Lib.hid (fun w => isdigits_any (l.extract 0 2) w (by unfold maxLen; omega))
  rw [hI] at H1
  have hat : Lib.atoi (l.extract 0 2).data.toList = some ((n : Nat) : Int) := by
    have := atoi_valF (ls (l.extract 0 2)) hD (fun e => by rw [ls_size, e] at hsz; cases hsz)
    rw [hdg, dgw_val, Nat.mod_eq_of_lt hnW] at this
    rw [← this, ← hdg]
  have H2 := Lib.hid (fun w => atoi_call (l.extract 0 2) n (by omega) hat w)
  have q1 : ∀ w : World, (Instr.slice 9 (.string l) none (some (.int .i64 2)) none).run Tryd.prog w = .ok (.string (l.extract 0 2)) w := cut_h l 2 (by omega)
  have lc : c < w.heap.size := block_lt_of_cell hc
  have ld : d < w.heap.size := block_lt_of_cell hd
  have k1 : decide (M < 0) = false := decide_eq_false (by omega)
  have k2 : decide ((l.size : Int) < 2) = false := decide_eq_false (by omega)
  have k2b : ¬ l.size < 2 := by omega
  have k3 : decide (M < (n : Int)) = false := decide_eq_false (by omega)
  have k4 : decide (255 < (n : Int)) = false := decide_eq_false (by omega)
  have k5 : decide ((l.size : Int) - 2 < (n : Int)) = false := decide_eq_false (by omega)
  have hni : (n : Int) ≤ 255 := by omega
  have hli : (l.size : Int) ≤ 20000 := by omega
  have hli2 : 2 ≤ (l.size : Int) := by omega
  have e1 : 2 + (n : Int) = (aw : Int) := by omega
  generalize l.extract 0 2 = L at *
  clear hD hsz hI hat hdg hnW hl hls haw
  go_enter Tryd.func40, Tryd.ntmps40
  go_wp2_with (go_at_call 36; refine (H1.out _).mono ?_; rintro e w' ⟨rfl, rfl⟩)
  refine (H2.out _).mono ?_
  rintro e w1 ⟨rfl, hb⟩
  obtain ⟨k, os, rfl⟩ := regrow_of hb
  clear hb
  go_wp2_with fail
  go_quiet (fail)
  go_wp2_with fail
  exact bodyPost_ret (v := .tuple #[.int .i64 (aw : Nat), .int .i64 2, .int .i64 0]) (by simp [results, Tryd.results40, go_sem]) rfl ⟨rfl, bdn (below_regrown _ _ _) _⟩
set_option maxHeartbeats 1000000 in
theorem fld_var2_ok (g c d a n aw : Nat) (M : Int) (s : ByteArray) (haw : 2 + n = aw) (ha : a + aw ≤ s.size) (hn : n ≤ 255) (hM : (n : Int) ≤ M) (hs : s.size ≤ 20000) (hdg : ls ((s.extract a s.size).extract 0 2) = dgw 2 n) (hnW : n < 10 ^ 2) (w : World) (hk : Blk w g 59 (rd s a 0)) (hc : w.cell? ⟨c, 0, none⟩ = some (.int .i64 2)) (hd : w.cell? ⟨d, 0, none⟩ = some (.int .i64 M)) :
    Calls Tryd.prog 34 #[.pointer (some ⟨g, 0, none⟩), .func (Fn.func 40) #[] #[.pointer (some ⟨c, 0, none⟩), .pointer (some ⟨d, 0, none⟩)]] w fun e w' => e = .returned (.string ((s.extract a s.size).extract 2 aw)) ∧ Blk w' g 59 (rd s ((a + aw : Nat) : Int) 0) ∧ Below g w w' ∧ Keeps g w w' := by
  obtain ⟨c0, c1, c2, f1, f2, hl⟩ := cell3 hk
  have hle : (s.extract a s.size).size = s.size - a := by rw [ByteArray.size_extract]; omega
  have q1 := cut_l s a (by omega)
  have q2 : ∀ w : World, (Instr.slice 9 (.string (s.extract a s.size)) (some (.int .i64 2)) (some (.int .i64 (aw : Nat))) none).run Tryd.prog w = .ok (.string ((s.extract a s.size).extract 2 aw)) w := fun w => cut_lh (s.extract a s.size) 2 aw (by omega) (by rw [hle]; omega) w
  have HC := Lib.hid (fun m => clo_var2_ok c d n aw M (s.extract a s.size) haw (by rw [hle]; omega) hn hM (by rw [hle]; omega) hdg hnW (w.drewN m) hc hd)
  have g1 : (0 : Int) ≤ (a : Int) := by omega
  have g2 : (a : Int) ≤ (s.size : Int) := by omega
  have g3 : a ≤ s.size := by omega
  have e1 : (a : Int) + (aw : Int) = ((a + aw : Nat) : Int) := by omega
  have e2 : wrap64 ((a + aw : Nat) : Int) = ((a + aw : Nat) : Int) := IntWalk.wrap64_in _ (by omega)
  have HK := Lib.hid hk
  have ha2 : (a : Int) ≤ 20000 := by omega
  have hw2 : (aw : Int) ≤ 300 := by omega
  clear hdg hle hk ha hs haw hn hM hnW hc hd
  generalize s.extract a s.size = L at *
  generalize hAW : a + aw = z at *
  clear hAW
  go_enter Tryd.func34, Tryd.ntmps34
  go_wp2_with fail
  go_quiet (fail)
  go_wp2_with fail
  refine (HC.out _).mono ?_
  rintro e w1 ⟨rfl, hb⟩
  have hk1 := Blk.call (blk_dn HK.out nq) hb
  have HK1 := Lib.hid hk1
  have HB := Lib.hid ((bdn (Below.refl g w) nq).trans (hb.mono (Nat.le_of_lt hl)))
  have HKP : Hid (Keeps g w w1) := Lib.hid (fun f t cs hf hx => (blk_dn hx nq).call hb)
  obtain ⟨d0, d1', d2, h1, h2, hl2⟩ := cell3 hk1
  clear hk1 hb c0 c1 c2 f1 f2 hl
  go_wp2_with fail
  go_ret
  exact ⟨rfl, blk_set1 HK1.out _, HB.out.setCell (p := ⟨g, 1, none⟩) (Nat.le_refl _) _, fun f t cs hf hx => Blk.far (HKP.out f t cs hf hx) hf _⟩
set_option maxHeartbeats 1000000 in
theorem rvar2_ok (g a n aw : Nat) (M : Int) (s x : ByteArray) (haw : 2 + n = aw) (ha : a + aw ≤ s.size) (hn : n ≤ 255) (hM : (n : Int) ≤ M) (hs : s.size ≤ 20000) (hdg : ls ((s.extract a s.size).extract 0 2) = dgw 2 n) (hnW : n < 10 ^ 2) (hx : (s.extract a s.size).extract 2 aw = x) (w : World) (hk : Blk w g 59 (rd s a 0)) :
    Calls Tryd.prog 21 #[.pointer (some ⟨g, 0, none⟩), .int .i64 2, .int .i64 M] w fun e w' => e = .returned (.string x) ∧ Blk w' g 59 (rd s ((a + aw : Nat) : Int) 0) ∧ Below g w w' ∧ Keeps g w w' := by
  have HG := Lib.hid (Nat.le_of_lt hk.lt)
  have HF := Lib.hid (fld_var2_ok g w.heap.size (w.heap.size + 1) a n aw M s haw ha hn hM hs hdg hnW ((w.alloc (.cells #[.int .i64 2] 3)).alloc (.cells #[.int .i64 M] 3)) ((hk.alloc _).alloc _) (((Blk.new w 3 #[.int .i64 2]).alloc _).cell 0) (by
    have h := (Blk.new (w.alloc (.cells #[.int .i64 2] 3)) 3 #[.int .i64 M]).cell 0
    rw [show (w.alloc (.cells #[.int .i64 2] 3)).heap.size = w.heap.size + 1 by simp] at h
    exact h))
  rw [hx] at HF
  generalize a + aw = z at *
  clear hk hx hdg hnW ha hs haw hn hM
  go_enter Tryd.func21, Tryd.ntmps21
  go_wp2_with fail
  refine (HF.out).mono ?_
  rintro e w1 ⟨rfl, hk1, hb1, hp1⟩
  have HK1 := Lib.hid hk1
  have HKP : Hid (Keeps g w w1) := Lib.hid (fun f t cs hf hb => hp1 f t cs hf ((hb.alloc _).alloc _))
  have HB1 := Lib.hid (((((Below.refl w.heap.size w).alloc (Nat.le_refl _) _).alloc (by simp) _).mono HG.out).trans hb1)
  clear hk1 hb1 hp1
  go_wp2_with fail
  go_ret
  exact ⟨rfl, HK1.out, HB1.out, HKP.out⟩
set_option maxHeartbeats 1000000 in
theorem clo_var3_ok (c d n aw : Nat) (M : Int) (l : ByteArray) (haw : 3 + n = aw) (hl : aw ≤ l.size) (hn : n ≤ 255) (hM : (n : Int) ≤ M) (hls : l.size ≤ 20000) (hdg : ls (l.extract 0 3) = dgw 3 n) (hnW : n < 10 ^ 3) (w : World) (hc : w.cell? ⟨c, 0, none⟩ = some (.int .i64 3)) (hd : w.cell? ⟨d, 0, none⟩ = some (.int .i64 M)) :
    Calls Tryd.prog 40 #[.string l, .pointer (some ⟨c, 0, none⟩), .pointer (some ⟨d, 0, none⟩)] w fun e w' => e = .returned (.tuple #[.int .i64 (aw : Nat), .int .i64 3, .int .i64 0]) ∧ Below w.heap.size w w' := by
  have hD : allD (ls (l.extract 0 3)) = true := by rw [hdg]; exact dgw_all _ _
  have hsz : (l.extract 0 3).size = 3 := by rw [ls_size, hdg, dgw_len]
  have hI : isD (l.extract 0 3) = true := by
    unfold isD
    rw [size_pos_list (by omega), show allD (l.extract 0 3).data.toList = true from hD]; rfl
  have H1 := Lib.hid (fun w => isdigits_any (l.extract 0 3) w (by unfold maxLen; omega))
  rw [hI] at H1
  have hat : Lib.atoi (l.extract 0 3).data.toList = some ((n : Nat) : Int) := by
    have := atoi_valF (ls (l.extract 0 3)) hD (fun e => by rw [ls_size, e] at hsz; cases hsz)
    rw [hdg, dgw_val, Nat.mod_eq_of_lt hnW] at this
    rw [← this, ← hdg]
  have H2 := Lib.hid (fun w => atoi_call (l.extract 0 3) n (by omega) hat w)
  have q1 : ∀ w : World, (Instr.slice 9 (.string l) none (some (.int .i64 3)) none).run Tryd.prog w = .ok (.string (l.extract 0 3)) w := cut_h l 3 (by omega)
  have lc : c < w.heap.size := block_lt_of_cell hc
  have ld : d < w.heap.size := block_lt_of_cell hd
  have k1 : decide (M < 0) = false := decide_eq_false (by omega)
  have k2 : decide ((l.size : Int) < 3) = false := decide_eq_false (by omega)
  have k2b : ¬ l.size < 3 := by omega
  have k3 : decide (M < (n : Int)) = false := decide_eq_false (by omega)
  have k4 : decide (255 < (n : Int)) = false := decide_eq_false (by omega)
  have k5 : decide ((l.size : Int) - 3 < (n : Int)) = false := decide_eq_false (by omega)
  have hni : (n : Int) ≤ 255 := by omega
  have hli : (l.size : Int) ≤ 20000 := by omega
  have hli2 : 3 ≤ (l.size : Int) := by omega
  have e1 : 3 + (n : Int) = (aw : Int) := by omega
  generalize l.extract 0 3 = L at *
  clear hD hsz hI hat hdg hnW hl hls haw
  go_enter Tryd.func40, Tryd.ntmps40
  go_wp2_with (go_at_call 36; refine (H1.out _).mono ?_; rintro e w' ⟨rfl, rfl⟩)
  refine (H2.out _).mono ?_
  rintro e w1 ⟨rfl, hb⟩
  obtain ⟨k, os, rfl⟩ := regrow_of hb
  clear hb
  go_wp2_with fail
  go_quiet (fail)
  go_wp2_with fail
  exact bodyPost_ret (v := .tuple #[.int .i64 (aw : Nat), .int .i64 3, .int .i64 0]) (by simp [results, Tryd.results40, go_sem]) rfl ⟨rfl, bdn (below_regrown _ _ _) _⟩
set_option maxHeartbeats 1000000 in
theorem fld_var3_ok (g c d a n aw : Nat) (M : Int) (s : ByteArray) (haw : 3 + n = aw) (ha : a + aw ≤ s.size) (hn : n ≤ 255) (hM : (n : Int) ≤ M) (hs : s.size ≤ 20000) (hdg : ls ((s.extract a s.size).extract 0 3) = dgw 3 n) (hnW : n < 10 ^ 3) (w : World) (hk : Blk w g 59 (rd s a 0)) (hc : w.cell? ⟨c, 0, none⟩ = some (.int .i64 3)) (hd : w.cell? ⟨d, 0, none⟩ = some (.int .i64 M)) :
    Calls Tryd.prog 34 #[.pointer (some ⟨g, 0, none⟩), .func (Fn.func 40) #[] #[.pointer (some ⟨c, 0, none⟩), .pointer (some ⟨d, 0, none⟩)]] w fun e w' => e = .returned (.string ((s.extract a s.size).extract 3 aw)) ∧ Blk w' g 59 (rd s ((a + aw : Nat) : Int) 0) ∧ Below g w w' ∧ Keeps g w w' := by
  obtain ⟨c0, c1, c2, f1, f2, hl⟩ := cell3 hk
  have hle : (s.extract a s.size).size = s.size - a := by rw [ByteArray.size_extract]; omega
  have q1 := cut_l s a (by omega)
  have q2 : ∀ w : World, (Instr.slice 9 (.string (s.extract a s.size)) (some (.int .i64 3)) (some (.int .i64 (aw : Nat))) none).run Tryd.prog w = .ok (.string ((s.extract a s.size).extract 3 aw)) w := fun w => cut_lh (s.extract a s.size) 3 aw (by omega) (by rw [hle]; omega) w
  have HC := Lib.hid (fun m => clo_var3_ok c d n aw M (s.extract a s.size) haw (by rw [hle]; omega) hn hM (by rw [hle]; omega) hdg hnW (w.drewN m) hc hd)
  have g1 : (0 : Int) ≤ (a : Int) := by omega
  have g2 : (a : Int) ≤ (s.size : Int) := by omega
  have g3 : a ≤ s.size := by omega
  have e1 : (a : Int) + (aw : Int) = ((a + aw : Nat) : Int) := by omega
  have e2 : wrap64 ((a + aw : Nat) : Int) = ((a + aw : Nat) : Int) := IntWalk.wrap64_in _ (by omega)
  have HK := Lib.hid hk
  have ha2 : (a : Int) ≤ 20000 := by omega
  have hw2 : (aw : Int) ≤ 300 := by omega
  clear hdg hle hk ha hs haw hn hM hnW hc hd
  generalize s.extract a s.size = L at *
  generalize hAW : a + aw = z at *
  clear hAW
  go_enter Tryd.func34, Tryd.ntmps34
  go_wp2_with fail
  go_quiet (fail)
  go_wp2_with fail
  refine (HC.out _).mono ?_
  rintro e w1 ⟨rfl, hb⟩
  have hk1 := Blk.call (blk_dn HK.out nq) hb
  have HK1 := Lib.hid hk1
  have HB := Lib.hid ((bdn (Below.refl g w) nq).trans (hb.mono (Nat.le_of_lt hl)))
  have HKP : Hid (Keeps g w w1) := Lib.hid (fun f t cs hf hx => (blk_dn hx nq).call hb)
  obtain ⟨d0, d1', d2, h1, h2, hl2⟩ := cell3 hk1
  clear hk1 hb c0 c1 c2 f1 f2 hl
  go_wp2_with fail
  go_ret
  exact ⟨rfl, blk_set1 HK1.out _, HB.out.setCell (p := ⟨g, 1, none⟩) (Nat.le_refl _) _, fun f t cs hf hx => Blk.far (HKP.out f t cs hf hx) hf _⟩
set_option maxHeartbeats 1000000 in
theorem rvar3_ok (g a n aw : Nat) (M : Int) (s x : ByteArray) (haw : 3 + n = aw) (ha : a + aw ≤ s.size) (hn : n ≤ 255) (hM : (n : Int) ≤ M) (hs : s.size ≤ 20000) (hdg : ls ((s.extract a s.size).extract 0 3) = dgw 3 n) (hnW : n < 10 ^ 3) (hx : (s.extract a s.size).extract 3 aw = x) (w : World) (hk : Blk w g 59 (rd s a 0)) :
    Calls Tryd.prog 21 #[.pointer (some ⟨g, 0, none⟩), .int .i64 3, .int .i64 M] w fun e w' => e = .returned (.string x) ∧ Blk w' g 59 (rd s ((a + aw : Nat) : Int) 0) ∧ Below g w w' ∧ Keeps g w w' := by
  have HG := Lib.hid (Nat.le_of_lt hk.lt)
  have HF := Lib.hid (fld_var3_ok g w.heap.size (w.heap.size + 1) a n aw M s haw ha hn hM hs hdg hnW ((w.alloc (.cells #[.int .i64 3] 3)).alloc (.cells #[.int .i64 M] 3)) ((hk.alloc _).alloc _) (((Blk.new w 3 #[.int .i64 3]).alloc _).cell 0) (by
    have h := (Blk.new (w.alloc (.cells #[.int .i64 3] 3)) 3 #[.int .i64 M]).cell 0
    rw [show (w.alloc (.cells #[.int .i64 3] 3)).heap.size = w.heap.size + 1 by simp] at h
    exact h))
  rw [hx] at HF
  generalize a + aw = z at *
  clear hk hx hdg hnW ha hs haw hn hM
  go_enter Tryd.func21, Tryd.ntmps21
  go_wp2_with fail
  refine (HF.out).mono ?_
  rintro e w1 ⟨rfl, hk1, hb1, hp1⟩
  have HK1 := Lib.hid hk1
  have HKP : Hid (Keeps g w w1) := Lib.hid (fun f t cs hf hb => hp1 f t cs hf ((hb.alloc _).alloc _))
  have HB1 := Lib.hid (((((Below.refl w.heap.size w).alloc (Nat.le_refl _) _).alloc (by simp) _).mono HG.out).trans hb1)
  clear hk1 hb1 hp1
  go_wp2_with fail
  go_ret
  exact ⟨rfl, HK1.out, HB1.out, HKP.out⟩
end Go.Proofs.YtknipjjmpdnomaaDoor
