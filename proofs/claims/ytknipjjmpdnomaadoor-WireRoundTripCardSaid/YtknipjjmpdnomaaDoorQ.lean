/- Var at (2, 99) where it fails; Unhex of Hex; write. -/
import Derived.Test.YtknipjjmpdnomaaDoorP
import Derived.Test.YtknipjjmpdnomaaDoorM
set_option linter.unusedVariables false
set_option linter.unusedSimpArgs false
namespace Go.Proofs.YtknipjjmpdnomaaDoor
open Go.Sort Go.ChangeShapes Go.WideShapes Go.ChangeAt Go.RowKit
def vbad (l : ByteArray) (E : Int) : Prop :=
  (l.size < 2 ∧ E = 1) ∨ (2 ≤ l.size ∧ isD (l.extract 0 2) = false ∧ E = 2) ∨ (∃ n, 2 ≤ l.size ∧ ls (l.extract 0 2) = dgw 2 n ∧ n < 100 ∧ l.size < 2 + n ∧ E = 1)
set_option maxHeartbeats 1000000 in
theorem clo_var2_bad (c d : Nat) (l : ByteArray) (E : Int) (hE : vbad l E) (hls : l.size ≤ 20000) (w : World) (hc : w.cell? ⟨c, 0, none⟩ = some (.int .i64 2)) (hd : w.cell? ⟨d, 0, none⟩ = some (.int .i64 99)) :
    Calls Tryd.prog 40 #[.string l, .pointer (some ⟨c, 0, none⟩), .pointer (some ⟨d, 0, none⟩)] w fun e w' => e = .returned (.tuple #[.int .i64 0, .int .i64 0, .int .i64 E]) ∧ Below w.heap.size w w' := by
  have lc : c < w.heap.size := block_lt_of_cell hc
  have ld : d < w.heap.size := block_lt_of_cell hd
  have hli : (l.size : Int) ≤ 20000 := by omega
  rcases hE with ⟨h1, rfl⟩ | ⟨h2, hI, rfl⟩ | ⟨n, h2, hdg, hn, hsh, rfl⟩
  · have k2 : decide ((l.size : Int) < 2) = true := decide_eq_true (by omega)
    clear h1
    go_enter Tryd.func40, Tryd.ntmps40
    go_wp2_with fail
    exact bodyPost_ret (v := .tuple #[.int .i64 0, .int .i64 0, .int .i64 1]) (by simp [results, Tryd.results40, go_sem]) rfl ⟨rfl, Below.refl _ _⟩
  · have k2 : decide ((l.size : Int) < 2) = false := decide_eq_false (by omega)
    have H1 := Lib.hid (fun w => isdigits_any (l.extract 0 2) w (by unfold maxLen; rw [ByteArray.size_extract]; omega))
    rw [hI] at H1
    have q1 : ∀ w : World, (Instr.slice 9 (.string l) none (some (.int .i64 2)) none).run Tryd.prog w = .ok (.string (l.extract 0 2)) w := cut_h l 2 (by omega)
    have k2b : ¬ l.size < 2 := by omega
    generalize l.extract 0 2 = L at *
    clear hI
    go_enter Tryd.func40, Tryd.ntmps40
    go_wp2_with (go_at_call 36; refine (H1.out _).mono ?_; rintro e w' ⟨rfl, rfl⟩)
    exact bodyPost_ret (v := .tuple #[.int .i64 0, .int .i64 0, .int .i64 2]) (by simp [results, Tryd.results40, go_sem]) rfl ⟨rfl, Below.refl _ _⟩
  · have hD : allD (ls (l.extract 0 2)) = true := by rw [hdg]; exact dgw_all _ _
    have hsz : (l.extract 0 2).size = 2 := by rw [ls_size, hdg, dgw_len]
    have hI : isD (l.extract 0 2) = true := by
      unfold isD
      rw [size_pos_list (by omega), show allD (l.extract 0 2).data.toList = true from hD]; rfl
    have H1 := Lib.hid (fun w => isdigits_any (l.extract 0 2) w (by unfold maxLen; omega))
    rw [hI] at H1
    have hat : Lib.atoi (l.extract 0 2).data.toList = some ((n : Nat) : Int) := by
      have := atoi_valF (ls (l.extract 0 2)) hD (fun e => by rw [ls_size, e] at hsz; cases hsz)
      rw [hdg, dgw_val, Nat.mod_eq_of_lt hn] at this
      rw [← this, ← hdg]
    have H2 := Lib.hid (fun w => atoi_call (l.extract 0 2) n (by omega) hat w)
    have q1 : ∀ w : World, (Instr.slice 9 (.string l) none (some (.int .i64 2)) none).run Tryd.prog w = .ok (.string (l.extract 0 2)) w := cut_h l 2 (by omega)
    have k2 : decide ((l.size : Int) < 2) = false := decide_eq_false (by omega)
    have k2b : ¬ l.size < 2 := by omega
    have k3 : decide (99 < (n : Int)) = false := decide_eq_false (by omega)
    have k4 : decide (255 < (n : Int)) = false := decide_eq_false (by omega)
    have k5 : decide ((l.size : Int) - 2 < (n : Int)) = true := decide_eq_true (by omega)
    have hni : (n : Int) ≤ 99 := by omega
    have hli2 : 2 ≤ (l.size : Int) := by omega
    generalize l.extract 0 2 = L at *
    clear hD hsz hI hat hdg hn hls hsh h2
    go_enter Tryd.func40, Tryd.ntmps40
    go_wp2_with (go_at_call 36; refine (H1.out _).mono ?_; rintro e w' ⟨rfl, rfl⟩)
    refine (H2.out _).mono ?_
    rintro e w1 ⟨rfl, hb⟩
    obtain ⟨k, os, rfl⟩ := regrow_of hb
    clear hb
    go_wp2_with fail
    exact bodyPost_ret (v := .tuple #[.int .i64 0, .int .i64 0, .int .i64 1]) (by simp [results, Tryd.results40, go_sem]) rfl ⟨rfl, below_regrown _ _ _⟩
theorem vbad_e {l : ByteArray} {E : Int} (h : vbad l E) : E = 1 ∨ E = 2 := by
  rcases h with ⟨_, e⟩ | ⟨_, _, e⟩ | ⟨_, _, _, _, _, e⟩
  · exact .inl e
  · exact .inr e
  · exact .inl e
theorem cut_l0 (s : ByteArray) (w : World) : (Instr.slice 9 (.string s) (some (.int .i64 0)) none none).run Tryd.prog w = .ok (.string s) w := by
  have h := cut_l s 0 (Nat.zero_le _) w
  rw [show s.extract 0 s.size = s from ls_ext (by rw [ls_ex, List.drop_zero, Nat.sub_zero, List.take_of_length_le (by rw [← ls_size]; exact Nat.le_refl _)])] at h
  exact h
set_option maxHeartbeats 1000000 in
theorem fld_var2_bad (g c d : Nat) (s : ByteArray) (E : Int) (hE : vbad s E) (hs : s.size ≤ 20000) (w : World) (hk : Blk w g 59 (rd s 0 0)) (hc : w.cell? ⟨c, 0, none⟩ = some (.int .i64 2)) (hd : w.cell? ⟨d, 0, none⟩ = some (.int .i64 99)) :
    Calls Tryd.prog 34 #[.pointer (some ⟨g, 0, none⟩), .func (Fn.func 40) #[] #[.pointer (some ⟨c, 0, none⟩), .pointer (some ⟨d, 0, none⟩)]] w fun e w' => e = .returned (.string ⟨#[]⟩) ∧ Blk w' g 59 (rd s 0 E) ∧ Below g w w' := by
  obtain ⟨c0, c1, c2, f1, f2, hl⟩ := cell3 hk
  have q2 := cut_l0 s
  have HC := Lib.hid (fun n => clo_var2_bad c d s E hE hs (w.drewN n) hc hd)
  have HK := Lib.hid hk
  have hE1 : (E == 0) = false := by rw [beq_eq_false_iff_ne]; have := vbad_e hE; omega
  have hE2 : (E != 0) = true := by rw [bne_iff_ne]; have := vbad_e hE; omega
  have hsi : (s.size : Int) ≤ 20000 := by omega
  clear hk hc hd hE
  go_enter Tryd.func34, Tryd.ntmps34
  go_wp2_with fail
  go_quiet (fail)
  go_wp2_with fail
  refine (HC.out _).mono ?_
  rintro e w1 ⟨rfl, hb⟩
  have hk1 := Blk.call (blk_dn HK.out nq) hb
  have HK1 := Lib.hid hk1
  have HB := Lib.hid ((bdn (Below.refl g w) nq).trans (hb.mono (Nat.le_of_lt hl)))
  obtain ⟨d0, d1', d2, h1, h2, hl2⟩ := cell3 hk1
  clear hk1 hb c0 c1 c2 f1 f2 hl
  go_wp2_with fail
  go_ret
  exact ⟨rfl, blk_set2 HK1.out E, HB.out.setCell (p := ⟨g, 2, none⟩) (Nat.le_refl _) _⟩
set_option maxHeartbeats 1000000 in
theorem rvar2_bad (g : Nat) (s : ByteArray) (E : Int) (hE : vbad s E) (hs : s.size ≤ 20000) (w : World) (hk : Blk w g 59 (rd s 0 0)) :
    Calls Tryd.prog 21 #[.pointer (some ⟨g, 0, none⟩), .int .i64 2, .int .i64 99] w fun e w' => e = .returned (.string ⟨#[]⟩) ∧ Blk w' g 59 (rd s 0 E) ∧ Below g w w' := by
  have HG := Lib.hid (Nat.le_of_lt hk.lt)
  have HF := Lib.hid (fld_var2_bad g w.heap.size (w.heap.size + 1) s E hE hs ((w.alloc (.cells #[.int .i64 2] 3)).alloc (.cells #[.int .i64 99] 3)) ((hk.alloc _).alloc _) (((Blk.new w 3 #[.int .i64 2]).alloc _).cell 0) (by
    have h := (Blk.new (w.alloc (.cells #[.int .i64 2] 3)) 3 #[.int .i64 99]).cell 0
    rw [show (w.alloc (.cells #[.int .i64 2] 3)).heap.size = w.heap.size + 1 by simp] at h
    exact h))
  clear hk hE hs
  go_enter Tryd.func21, Tryd.ntmps21
  go_wp2_with fail
  refine (HF.out).mono ?_
  rintro e w1 ⟨rfl, hk1, hb1⟩
  have HK1 := Lib.hid hk1
  have HB1 := Lib.hid (((((Below.refl w.heap.size w).alloc (Nat.le_refl _) _).alloc (by simp) _).mono HG.out).trans hb1)
  clear hk1 hb1
  go_wp2_with fail
  go_ret
  exact ⟨rfl, HK1.out, HB1.out⟩
/- Unhex of Hex -/
theorem hv_hxd (n : Nat) (h : n < 16) : hv (hxd n).toNat = n := hv_at n _ h rfl
theorem heL_at (l : List UInt8) (k : Nat) : ∀ n, k < n → (heL l n).getD (2 * k) 0 = hxd ((l.getD k 0).toNat / 16) ∧ (heL l n).getD (2 * k + 1) 0 = hxd ((l.getD k 0).toNat % 16) := by
  intro n
  induction n with
  | zero => intro h; omega
  | succ n ih =>
    intro h
    have e : heL l (n + 1) = heL l n ++ [hxd ((l.getD n 0).toNat / 16), hxd ((l.getD n 0).toNat % 16)] := by show heL l n ++ _ ++ _ = _; rw [List.append_assoc]; rfl
    rw [e]
    by_cases hk : k < n
    · rw [getD_app_lt _ _ _ (by rw [heL_len]; omega), getD_app_lt _ _ _ (by rw [heL_len]; omega)]
      exact ih hk
    · obtain rfl : k = n := by omega
      rw [getD_app_ge _ _ _ (by rw [heL_len]; omega), getD_app_ge _ _ _ (by rw [heL_len]; omega), heL_len, show 2 * k - 2 * k = 0 by omega, show 2 * k + 1 - 2 * k = 1 by omega]
      exact ⟨rfl, rfl⟩
theorem pa_he (l : List UInt8) (k n : Nat) (h : k < n) : pa (heL l n) k = (((l.getD k 0).toNat / 16 : Nat) : Int) ∧ pb (heL l n) k = (((l.getD k 0).toNat % 16 : Nat) : Int) := by
  obtain ⟨h1, h2⟩ := heL_at l k n h
  have hb : (l.getD k 0).toNat < 256 := (l.getD k 0).toNat_lt
  unfold pa pb
  rw [h1, h2]
  exact ⟨hv_hxd _ (by omega), hv_hxd _ (by omega)⟩
theorem ok_he (l : List UInt8) (n k : Nat) (h : k ≤ n) : okH (heL l n) k = true := by
  induction k with
  | zero => rfl
  | succ k ih =>
    obtain ⟨h1, h2⟩ := pa_he l k n h
    show (okH (heL l n) k && (decide (0 ≤ pa (heL l n) k) && decide (0 ≤ pb (heL l n) k))) = true
    rw [ih (by omega), h1, h2, decide_eq_true (by omega), decide_eq_true (by omega)]; rfl
theorem un_he (s : ByteArray) (k : Nat) (h : k ≤ s.size) : unL (heL (ls s) s.size) k = (ls s).take k := by
  induction k with
  | zero => rfl
  | succ k ih =>
    obtain ⟨h1, h2⟩ := pa_he (ls s) k s.size h
    show unL (heL (ls s) s.size) k ++ [UInt8.ofNat (pa (heL (ls s) s.size) k * 16 + pb (heL (ls s) s.size) k).toNat] = _
    rw [ih (by omega), h1, h2, take_one s k h]
    congr 2
    generalize (ls s).getD k 0 = c
    have : (((c.toNat / 16 : Nat) : Int) * 16 + ((c.toNat % 16 : Nat) : Int)).toNat = c.toNat := by omega
    rw [this]
    exact UInt8.ofNat_toNat
theorem uh_he (s : ByteArray) : uE (bst (heL (ls s) s.size)) = 0 ∧ uV (bst (heL (ls s) s.size)) = s := by
  have hz : (bst (heL (ls s) s.size)).size = 2 * s.size := by rw [bst_size, heL_len]
  have hh : (bst (heL (ls s) s.size)).size / 2 = s.size := by omega
  obtain ⟨h1, h2⟩ := u_ok (s := bst (heL (ls s) s.size)) (by omega) (by rw [hh, ls_bst]; exact ok_he _ _ _ (Nat.le_refl _))
  refine ⟨h1, ?_⟩
  rw [h2, hh, ls_bst, un_he s s.size (Nat.le_refl _), List.take_of_length_le (by rw [← ls_size]; exact Nat.le_refl _), bst_ls]
/- write -/
structure Fd where
  d : Int
  n : Int
  t : ByteArray
  w : Int
abbrev Fd.cs (f : Fd) : Array Value := #[.int .u8 f.d, .int .i64 f.n, .string f.t, .int .i64 f.w]
def wrE (f : Fd) : Int := if f.d % 3 = 0 then nuE f.n f.w else if f.d % 3 = 1 then alE f.t f.w else vaE f.t f.w
def wrV (f : Fd) : ByteArray := if f.d % 3 = 0 then nuV f.n f.w else if f.d % 3 = 1 then alV f.t f.w else vaV f.t f.w
set_option maxHeartbeats 1000000 in
theorem write_any (f : Fd) (hd : 0 ≤ f.d) (hn : Hid (f.n ≤ 9223372036854775807)) (ht : f.t.size ≤ 2000) (w : World) (hT : TabP w) :
    Calls Tryd.prog 17 #[.agg f.cs] w fun e w' => e = .returned (.tuple #[.string (wrV f), .int .i64 (wrE f)]) ∧ Below w.heap.size w w' := by
  obtain ⟨d, n, t, wd⟩ := f
  have HT1 := Lib.hid (fun o => hT.call (al_ (w := w) (o := o)))
  have H7 := Lib.hid (fun w hT => num_any n wd hn w hT)
  have H9 := Lib.hid (fun w => alpha_any t wd ht w)
  have H11 := Lib.hid (fun w hT => var_any t wd ht w hT)
  unfold wrV wrE Fd.cs
  have e0 : Int.tmod d 3 = d % 3 := Int.tmod_eq_emod_of_nonneg hd
  have e1 : d % 3 = 0 ∨ d % 3 = 1 ∨ d % 3 = 2 := by omega
  simp only at hd
  rcases e1 with h | h | h
  · have q0 : (if d % 3 = 0 then nuV n wd else if d % 3 = 1 then alV t wd else vaV t wd) = nuV n wd := by rw [if_pos h]
    have q1 : (if d % 3 = 0 then nuE n wd else if d % 3 = 1 then alE t wd else vaE t wd) = nuE n wd := by rw [if_pos h]
    simp only [q0, q1]
    rw [h] at e0
    have HB0 : Hid (∀ o, Below w.heap.size w (w.alloc o)) := Lib.hid (fun o => al_)
    clear q0 q1 ht hn hT
    generalize nuV n wd = V at *
    generalize nuE n wd = E at *
    go_enter Tryd.func17, Tryd.ntmps17
    go_wp2_with fail
    refine (H7.out _ (HT1.out _)).mono ?_
    rintro e w1 ⟨rfl, hb⟩
    have HB := Lib.hid (below_call (HB0.out _) hb)
    clear hb
    go_wp2_with fail
    exact bodyPost_ret (v := .tuple #[.string V, .int .i64 E]) (by simp [results, Tryd.results17, go_sem]) rfl ⟨rfl, HB.out⟩
  · have q0 : (if d % 3 = 0 then nuV n wd else if d % 3 = 1 then alV t wd else vaV t wd) = alV t wd := by rw [if_neg (by omega), if_pos h]
    have q1 : (if d % 3 = 0 then nuE n wd else if d % 3 = 1 then alE t wd else vaE t wd) = alE t wd := by rw [if_neg (by omega), if_pos h]
    simp only [q0, q1]
    rw [h] at e0
    have HB0 : Hid (∀ o, Below w.heap.size w (w.alloc o)) := Lib.hid (fun o => al_)
    clear q0 q1 ht hn hT
    generalize alV t wd = V at *
    generalize alE t wd = E at *
    go_enter Tryd.func17, Tryd.ntmps17
    go_wp2_with fail
    refine (H9.out _).mono ?_
    rintro e w1 ⟨rfl, hb⟩
    have HB := Lib.hid (below_call (HB0.out _) hb)
    clear hb
    go_wp2_with fail
    exact bodyPost_ret (v := .tuple #[.string V, .int .i64 E]) (by simp [results, Tryd.results17, go_sem]) rfl ⟨rfl, HB.out⟩
  · have q0 : (if d % 3 = 0 then nuV n wd else if d % 3 = 1 then alV t wd else vaV t wd) = vaV t wd := by rw [if_neg (by omega), if_neg (by omega)]
    have q1 : (if d % 3 = 0 then nuE n wd else if d % 3 = 1 then alE t wd else vaE t wd) = vaE t wd := by rw [if_neg (by omega), if_neg (by omega)]
    simp only [q0, q1]
    rw [h] at e0
    have HB0 : Hid (∀ o, Below w.heap.size w (w.alloc o)) := Lib.hid (fun o => al_)
    clear q0 q1 ht hn hT
    generalize vaV t wd = V at *
    generalize vaE t wd = E at *
    go_enter Tryd.func17, Tryd.ntmps17
    go_wp2_with fail
    refine (H11.out _ (HT1.out _)).mono ?_
    rintro e w1 ⟨rfl, hb⟩
    have HB := Lib.hid (below_call (HB0.out _) hb)
    clear hb
    go_wp2_with fail
    exact bodyPost_ret (v := .tuple #[.string V, .int .i64 E]) (by simp [results, Tryd.results17, go_sem]) rfl ⟨rfl, HB.out⟩
end Go.Proofs.YtknipjjmpdnomaaDoor
