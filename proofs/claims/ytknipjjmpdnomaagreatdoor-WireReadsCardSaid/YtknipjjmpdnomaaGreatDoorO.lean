/- TrimRight at spaces; the reader's Alpha where the text is there. -/
import Derived.Test.YtknipjjmpdnomaaGreatDoorF
import Derived.Test.YtknipjjmpdnomaaGreatDoorH
set_option linter.unusedVariables false
set_option linter.unusedSimpArgs false
namespace Go.Proofs.YtknipjjmpdnomaaGreatDoor
open Go.Sort Go.ChangeShapes Go.WideShapes Go.ChangeAt Go.RowKit
def Keeps (g : Nat) (w w' : World) : Prop := ∀ f t cs, f ≠ g → Blk w f t cs → Blk w' f t cs
theorem spc_size (x : ByteArray) (k : Nat) : (spc x k).size = x.size + k := by unfold spc; rw [ByteArray.size_append, bst_size, List.length_replicate]
theorem spc_ls (x : ByteArray) (k : Nat) : ls (spc x k) = ls x ++ List.replicate k 32 := by unfold spc; rw [ls_app, ls_bst]
theorem spc_zero (x : ByteArray) : spc x 0 = x := ls_ext (by rw [spc_ls]; simp)
theorem spc_cut (x : ByteArray) (k : Nat) : (spc x (k + 1)).extract 0 (x.size + k) = spc x k := by
  refine ls_ext ?_
  rw [ls_ex, spc_ls, spc_ls, List.drop_zero, Nat.sub_zero, List.replicate_succ', ← List.append_assoc, List.take_append_of_le_length (by rw [List.length_append, List.length_replicate, ls_size]; omega), List.take_of_length_le (by rw [List.length_append, List.length_replicate, ls_size]; omega)]
theorem spc_at (x : ByteArray) (k : Nat) (h : x.size + k < (spc x (k + 1)).size) : (spc x (k + 1))[x.size + k] = 32 := by
  rw [← getD_at _ _ h, spc_ls, getD_app_ge _ _ _ (by rw [← ls_size]; omega), ← ls_size, show x.size + k - x.size = k by omega]
  simp [List.getD_eq_getElem?_getD, List.getElem?_replicate]
theorem beq32 {c : UInt8} (h : (c == 32) = false) : c.toNat ≠ 32 := by
  intro e
  rw [beq_eq_false_iff_ne] at h
  exact h (UInt8.toNat_inj.1 (by rw [e]; rfl))
set_option maxHeartbeats 1000000 in
theorem trb_any (x : ByteArray) (m : Nat) (hx : Lib.hasSuffix (ls x) [32] = false) (hs : x.size + m ≤ 2000) (w : World) :
    Calls Tryz.prog 48 #[.string (spc x m), .int .u8 32] w fun e w' => e = .returned (.string x) ∧ w' = w := by
  have HZ := Lib.hid (spc_size x)
  have HC := Lib.hid (spc_cut x)
  have HAT := Lib.hid (spc_at x)
  have H0 := Lib.hid (spc_zero x)
  have HSM := Lib.hid hs
  obtain ⟨g, hg⟩ : ∃ g, g = spc x := ⟨_, rfl⟩
  rw [← hg] at HZ HC HAT H0 ⊢
  clear hg hs
  go_enter Tryz.func48, Tryz.ntmps48
  go_wp2_with fail
  go_loopg [0] m (fun u y wr => wr = w ∧ Hid (u ≤ m) ∧ y = .string (g u))
  case atStart => exact ⟨rfl, Lib.hid (Nat.le_refl _), rfl⟩
  case round =>
    obtain ⟨rfl, hu, rfl⟩ := hrel
    have hsm := HSM.out
    have hul := hu.out
    rcases Nat.eq_zero_or_pos gk with hk | hk
    · subst hk
      rw [H0.out]
      rcases Nat.eq_zero_or_pos x.size with h0 | h0
      · have c1 : decide (0 < (x.size : Int)) = false := decide_eq_false (by omega)
        have c2 : ¬ 0 < x.size := by omega
        clear hx hul h0
        go_wp2_with fail
        exact bodyPost_ret (v := .string x) (by simp [results, Tryz.results48, go_sem]) rfl ⟨rfl, rfl⟩
      · obtain ⟨j, hj⟩ : ∃ j, x.size = j + 1 := ⟨x.size - 1, by omega⟩
        have hjl : j < x.size := by omega
        have hl := hs_last x j hj
        rw [hx] at hl
        have hv := beq32 hl.symm
        have hix := idx_at x j hjl
        have c1 : decide (0 < (x.size : Int)) = true := decide_eq_true (by omega)
        have c2 : 0 < x.size := h0
        have e1 : (x.size : Int) - 1 = (j : Int) := by omega
        have hsi : (x.size : Int) ≤ 2000 := by omega
        generalize x[j].toNat = v at *
        have c3 : ((v : Int) == 32) = false := by rw [beq_eq_false_iff_ne]; omega
        clear hx hl hul h0 hj hsm
        go_wp2_with fail
        exact bodyPost_ret (v := .string x) (by simp [results, Tryz.results48, go_sem]) rfl ⟨rfl, rfl⟩
    · obtain ⟨k, rfl⟩ : ∃ k, gk = k + 1 := ⟨gk - 1, by omega⟩
      have hz := HZ.out (k + 1)
      obtain ⟨j, hj⟩ : ∃ j, j = x.size + k := ⟨_, rfl⟩
      have hjl : j < (g (k + 1)).size := by omega
      have hcut := HC.out k
      rw [← hj] at hcut
      have hat : ((g (k + 1))[j]'hjl).toNat = 32 := by
        have h := HAT.out k (by omega)
        subst hj
        rw [h]; rfl
      have hix := idx_at (g (k + 1)) j hjl
      rw [hat] at hix
      have hch := cut_h (g (k + 1)) j (by omega)
      rw [hcut] at hch
      clear hat hcut
      generalize hG : g (k + 1) = G at *
      have HG := Lib.hid hG
      have c1 : decide (0 < (G.size : Int)) = true := decide_eq_true (by omega)
      have c2 : 0 < G.size := by omega
      have e1 : (G.size : Int) - 1 = (j : Int) := by omega
      have hsi : (G.size : Int) ≤ 2000 := by omega
      clear hG hz hj hx hul hk hsm
      go_wp2_with fail
      go_roundg k
      case measure => omega
      case rel => exact ⟨rfl, Lib.hid (by have := hu.out; omega), rfl⟩
set_option maxHeartbeats 1000000 in
theorem trim_any (x : ByteArray) (m : Nat) (hx : Lib.hasSuffix (ls x) [32] = false) (hs : x.size + m ≤ 2000) (w : World) :
    Calls Tryz.prog 31 #[.string (spc x m), .string ⟨#[32]⟩] w fun e w' => e = .returned (.string x) ∧ w' = w := by
  have HB := Lib.hid (fun w => trb_any x m hx hs w)
  have hz := spc_size x m
  have i0 : ∀ w : World, (Instr.index 9 (.string ⟨#[32]⟩) (.int .i64 0)).run Tryz.prog w = .ok (.int .u8 32) w := fun w => by kernel_rfl
  rcases Nat.eq_zero_or_pos (x.size + m) with h0 | h0
  · have hm0 : m = 0 := by omega
    subst hm0
    rw [spc_zero]
    have hemp := size_zero_list (s := x) (by omega)
    clear HB hz hx hs h0
    go_enter Tryz.func31, Tryz.ntmps31
    go_wp2_with fail
    exact bodyPost_ret (v := .string x) (by simp [results, Tryz.results31, go_sem]) rfl ⟨rfl, rfl⟩
  · have hemp := size_pos_list (s := spc x m) (by omega)
    generalize spc x m = G at *
    clear hz hx hs h0
    go_enter Tryz.func31, Tryz.ntmps31
    go_wp2_with (go_at_call 48; refine (HB.out _).mono ?_; rintro e w' ⟨rfl, rfl⟩)
    exact bodyPost_ret (v := .string x) (by simp [results, Tryz.results31, go_sem]) rfl ⟨rfl, rfl⟩
theorem prn_spc (x : ByteArray) (k : Nat) (h : prn (ls x) = true) : prn (ls (spc x k)) = true := by
  rw [spc_ls]
  unfold prn at *
  rw [List.all_append, h, Bool.true_and, List.all_eq_true]
  intro c hc
  rw [List.eq_of_mem_replicate hc]
  decide
set_option maxHeartbeats 1000000 in
theorem clo_alpha (c W : Nat) (l : ByteArray) (h1 : 1 ≤ W) (h2 : W ≤ 255) (hl : W ≤ l.size) (hd : prn (ls (l.extract 0 W)) = true) (w : World) (hc : w.cell? ⟨c, 0, none⟩ = some (.int .i64 (W : Nat))) :
    Calls Tryz.prog 29 #[.string l, .pointer (some ⟨c, 0, none⟩)] w fun e w' => e = .returned (.tuple #[.int .i64 (W : Nat), .int .i64 0, .int .i64 0]) ∧ w' = w := by
  have RD := Lib.hid (fun w => isprint_any (l.extract 0 W) (by rw [ByteArray.size_extract]; omega) w)
  rw [hd] at RD
  have q1 := cut_h l W hl
  have k1 : decide ((W : Int) < 1) = false := decide_eq_false (by omega)
  have k1b : ¬ W = 0 := by omega
  have k2 : decide (255 < (W : Int)) = false := decide_eq_false (by omega)
  have k3 : decide ((l.size : Int) < (W : Int)) = false := decide_eq_false (by omega)
  have k3b : ¬ l.size < W := by omega
  clear h1 h2 hl hd
  go_enter Tryz.func29, Tryz.ntmps29
  go_wp2_with (go_at_call 30; refine (RD.out _).mono ?_; rintro e w' ⟨rfl, rfl⟩)
  exact bodyPost_ret (v := .tuple #[.int .i64 (W : Nat), .int .i64 0, .int .i64 0]) (by simp [results, Tryz.results29, go_sem]) rfl ⟨rfl, rfl⟩
set_option maxHeartbeats 1000000 in
theorem fld_alpha (g c a W : Nat) (s : ByteArray) (h1 : 1 ≤ W) (h2 : W ≤ 255) (ha : a + W ≤ s.size) (hs : s.size ≤ 20000) (hd : prn (ls ((s.extract a s.size).extract 0 W)) = true) (w : World) (hk : Blk w g 42 (rd s a 0)) (hc : w.cell? ⟨c, 0, none⟩ = some (.int .i64 (W : Nat))) :
    Calls Tryz.prog 25 #[.pointer (some ⟨g, 0, none⟩), .func (Fn.func 29) #[] #[.pointer (some ⟨c, 0, none⟩)]] w fun e w' => e = .returned (.string ((s.extract a s.size).extract 0 W)) ∧ Blk w' g 42 (rd s ((a + W : Nat) : Int) 0) ∧ Below g w w' ∧ Keeps g w w' := by
  obtain ⟨c0, c1, c2, f1, f2, hl⟩ := cell3 hk
  have hle : (s.extract a s.size).size = s.size - a := by rw [ByteArray.size_extract]; omega
  have q1 := cut_l s a (by omega)
  have q2 := cut_00 (s.extract a s.size) W (by rw [hle]; omega)
  have HC := Lib.hid (fun n => clo_alpha c W (s.extract a s.size) h1 h2 (by rw [hle]; omega) hd (w.drewN n) hc)
  have g1 : (0 : Int) ≤ (a : Int) := by omega
  have g2 : (a : Int) ≤ (s.size : Int) := by omega
  have g3 : a ≤ s.size := by omega
  have e1 : (a : Int) + (W : Int) = ((a + W : Nat) : Int) := by omega
  have e2 : wrap64 ((a + W : Nat) : Int) = ((a + W : Nat) : Int) := IntWalk.wrap64_in _ (by omega)
  have HK := Lib.hid hk
  have E1 := Lib.hid e1
  have ha2 : (a : Int) ≤ 20000 := by omega
  have hw2 : (W : Int) ≤ 255 := by omega
  clear hd hle hk h1 h2 ha hs
  generalize s.extract a s.size = L at *
  generalize hAW : a + W = aw at *
  go_enter Tryz.func25, Tryz.ntmps25
  go_wp2_with fail
  go_quiet (fail)
  go_wp2_with (go_at_call 29; refine (HC.out _).mono ?_; rintro e w' ⟨rfl, rfl⟩)
  go_ret
  exact ⟨rfl, blk_set1 (blk_dn HK.out _) _, (bdn (Below.refl _ _) _).setCell (p := ⟨g, 1, none⟩) (Nat.le_refl _) _, fun f t cs hf hb => Blk.far (blk_dn hb _) hf _⟩
set_option maxHeartbeats 1000000 in
theorem ralpha_ok (g a W : Nat) (s x : ByteArray) (h1 : 1 ≤ W) (h2 : W ≤ 255) (ha : a + W ≤ s.size) (hs : s.size ≤ 20000) (hxW : x.size ≤ W) (hp : prn (ls x) = true) (hx : Lib.hasSuffix (ls x) [32] = false) (hd : (s.extract a s.size).extract 0 W = spc x (W - x.size)) (w : World) (hk : Blk w g 42 (rd s a 0)) :
    Calls Tryz.prog 8 #[.pointer (some ⟨g, 0, none⟩), .int .i64 (W : Nat)] w fun e w' => e = .returned (.string x) ∧ Blk w' g 42 (rd s ((a + W : Nat) : Int) 0) ∧ Below g w w' ∧ Keeps g w w' := by
  have hlt := hk.lt
  have HF := Lib.hid (fld_alpha g w.heap.size a W s h1 h2 ha hs (by rw [hd]; exact prn_spc _ _ hp) (w.alloc (.cells #[.int .i64 (W : Nat)] 3)) (hk.alloc _) ((Blk.new w 3 _).cell 0))
  rw [hd] at HF
  have HP := Lib.hid (fun w => trim_any x (W - x.size) hx (by omega) w)
  have HAW := Lib.hid (Nat.le_of_lt hlt)
  generalize spc x (W - x.size) = L at *
  clear hd hk ha hs h1 h2 hx hp hxW
  go_enter Tryz.func8, Tryz.ntmps8
  go_wp2_with fail
  refine HF.out.mono ?_
  rintro e w1 ⟨rfl, hk1, hb1, hp1⟩
  have HK1 := Lib.hid hk1
  have HKP : Hid (Keeps g w w1) := Lib.hid (fun f t cs hf hb => hp1 f t cs hf (hb.alloc _))
  have HB1 := Lib.hid ((((Below.refl w.heap.size w).alloc (Nat.le_refl _) _).mono HAW.out).trans hb1)
  clear hk1 hb1 hp1
  go_wp2_with (go_at_call 31; refine (HP.out _).mono ?_; rintro e w2 ⟨rfl, rfl⟩)
  go_ret
  exact ⟨rfl, HK1.out, HB1.out, HKP.out⟩
end Go.Proofs.YtknipjjmpdnomaaGreatDoor
