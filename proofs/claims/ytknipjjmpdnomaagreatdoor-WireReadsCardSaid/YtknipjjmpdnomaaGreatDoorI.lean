/- The reference's Num, Alpha, Take. -/
import Derived.Test.YtknipjjmpdnomaaGreatDoorO
set_option linter.unusedVariables false
set_option linter.unusedSimpArgs false
namespace Go.Proofs.YtknipjjmpdnomaaGreatDoor
open Go.Sort Go.ChangeShapes Go.WideShapes Go.ChangeAt Go.RowKit
def nBad (T : ByteArray) (n E : Int) : Prop := ((n < 1 ∨ 15 < n) ∧ E = 4) ∨ (1 ≤ n ∧ n ≤ 15 ∧ (T.size : Int) < n ∧ E = 1) ∨ (∃ W : Nat, n = W ∧ 1 ≤ W ∧ W ≤ 15 ∧ W ≤ T.size ∧ allD (ls (T.extract 0 W)) = false ∧ E = 2)
def aBad (T : ByteArray) (n E : Int) : Prop := ((n < 1 ∨ 255 < n) ∧ E = 4) ∨ (1 ≤ n ∧ n ≤ 255 ∧ (T.size : Int) < n ∧ E = 1) ∨ (∃ W : Nat, n = W ∧ 1 ≤ W ∧ W ≤ 255 ∧ W ≤ T.size ∧ prn (ls (T.extract 0 W)) = false ∧ E = 2)
def tBad (T : ByteArray) (n E : Int) : Prop := (n < 0 ∧ E = 4) ∨ (0 ≤ n ∧ (T.size : Int) < n ∧ E = 1)
def RP (h : Nat) (w : World) (v : Value) (T : ByteArray) (e : Int) (x : Ending) (w' : World) : Prop := x = .returned v ∧ Blk w' h 44 (rr T e) ∧ Below h w w' ∧ Keeps h w w'
theorem setK (h i : Nat) (w : World) (v : Value) : Keeps h w (w.setCell ⟨h, i, none⟩ v) := fun f t cs hf hb => Blk.far hb hf _
theorem setB (h i : Nat) (w : World) (v : Value) : Below h w (w.setCell ⟨h, i, none⟩ v) := (Below.refl h w).setCell (p := ⟨h, i, none⟩) (Nat.le_refl _) _
theorem rNum_dead (h : Nat) (T : ByteArray) (e n : Int) (he : e ≠ 0) (w : World) (hk : Blk w h 44 (rr T e)) : Calls Tryz.prog 14 #[.pointer (some ⟨h, 0, none⟩), .int .i64 n] w (RP h w (.int .i64 0) T e) := by
  obtain ⟨c0, c1, f0, f1, hl⟩ := cell2 hk
  have HK := Lib.hid hk
  have d1 : (e == 0) = false := by rw [beq_eq_false_iff_ne]; exact he
  have d2 : (e != 0) = true := by rw [bne_iff_ne]; exact he
  clear hk he
  go_enter Tryz.func14, Tryz.ntmps14
  go_wp2_with fail
  exact bodyPost_ret (v := .int .i64 0) (by simp [results, Tryz.results14, go_sem]) rfl ⟨rfl, HK.out, Below.refl _ _, fun _ _ _ _ hb => hb⟩
set_option maxHeartbeats 1000000 in
theorem rNum_bad (h : Nat) (T : ByteArray) (n E : Int) (hT : T.size ≤ 1000) (hE : nBad T n E) (w : World) (hk : Blk w h 44 (rr T 0)) : Calls Tryz.prog 14 #[.pointer (some ⟨h, 0, none⟩), .int .i64 n] w (RP h w (.int .i64 0) T E) := by
  have HFL := Lib.hid (rfail_any h T 0 E w hk)
  have HK := Lib.hid (rr_set1 hk E)
  obtain ⟨c0, c1, f0, f1, hl⟩ := cell2 hk
  clear hk
  rcases hE with ⟨h1 | h1, rfl⟩ | ⟨h1, h2, h3, rfl⟩ | ⟨W, rfl, h1, h2, h3, h4, rfl⟩
  · have k1 : decide (n < 1) = true := decide_eq_true h1
    go_enter Tryz.func14, Tryz.ntmps14
    go_wp2_with fail
    refine (HFL.out).mono ?_
    rintro x w1 ⟨rfl, rfl⟩
    go_wp2_with fail
    exact bodyPost_ret (v := .int .i64 0) (by simp [results, Tryz.results14, go_sem]) rfl ⟨rfl, HK.out, setB _ _ _ _, setK _ _ _ _⟩
  · have k1 : decide (n < 1) = false := decide_eq_false (by omega)
    have k2 : decide (15 < n) = true := decide_eq_true h1
    go_enter Tryz.func14, Tryz.ntmps14
    go_wp2_with fail
    refine (HFL.out).mono ?_
    rintro x w1 ⟨rfl, rfl⟩
    go_wp2_with fail
    exact bodyPost_ret (v := .int .i64 0) (by simp [results, Tryz.results14, go_sem]) rfl ⟨rfl, HK.out, setB _ _ _ _, setK _ _ _ _⟩
  · have k1 : decide (n < 1) = false := decide_eq_false (by omega)
    have k2 : decide (15 < n) = false := decide_eq_false (by omega)
    have k3 : decide ((T.size : Int) < n) = true := decide_eq_true h3
    clear h1 h2 h3
    go_enter Tryz.func14, Tryz.ntmps14
    go_wp2_with fail
    refine (HFL.out).mono ?_
    rintro x w1 ⟨rfl, rfl⟩
    go_wp2_with fail
    exact bodyPost_ret (v := .int .i64 0) (by simp [results, Tryz.results14, go_sem]) rfl ⟨rfl, HK.out, setB _ _ _ _, setK _ _ _ _⟩
  · have k1 : decide ((W : Int) < 1) = false := decide_eq_false (by omega)
    have k1b : ¬ W = 0 := by omega
    have k2 : decide (15 < (W : Int)) = false := decide_eq_false (by omega)
    have k3 : decide ((T.size : Int) < (W : Int)) = false := decide_eq_false (by omega)
    have k3b : ¬ T.size < W := by omega
    have q1 := cut_h T W h3
    have RD := Lib.hid (fun w => rdigits_any (T.extract 0 W) w (by rw [ByteArray.size_extract]; omega))
    rw [h4] at RD
    generalize T.extract 0 W = A at *
    clear h1 h2 h3 h4
    go_enter Tryz.func14, Tryz.ntmps14
    go_wp2_with (go_at_call 36; refine (RD.out _).mono ?_; rintro e w0 ⟨rfl, rfl⟩)
    refine (HFL.out).mono ?_
    rintro x w1 ⟨rfl, rfl⟩
    go_wp2_with fail
    exact bodyPost_ret (v := .int .i64 0) (by simp [results, Tryz.results14, go_sem]) rfl ⟨rfl, HK.out, setB _ _ _ _, setK _ _ _ _⟩
set_option maxHeartbeats 1000000 in
theorem rNum_ok (h W : Nat) (T : ByteArray) (h1 : 1 ≤ W) (h2 : W ≤ 15) (hT : T.size ≤ 1000) (hW : W ≤ T.size) (hd : allD (ls (T.extract 0 W)) = true) (w : World) (hk : Blk w h 44 (rr T 0)) : Calls Tryz.prog 14 #[.pointer (some ⟨h, 0, none⟩), .int .i64 W] w (RP h w (.int .i64 ((valF 0 (ls (T.extract 0 W)) : Nat) : Int)) (T.extract W T.size) 0) := by
  have HTK := Lib.hid (rtake_any h W T 0 hW (by omega) w hk)
  have HK := Lib.hid (rr_set0 hk (T.extract W T.size))
  have RD := Lib.hid (fun w => rdigits_any (T.extract 0 W) w (by rw [ByteArray.size_extract]; omega))
  have RN := Lib.hid (fun w => rnumber_any (T.extract 0 W) hd (by rw [ByteArray.size_extract]; omega) w)
  rw [hd] at RD
  obtain ⟨c0, c1, f0, f1, hl⟩ := cell2 hk
  have q1 := cut_h T W hW
  have k1 : decide ((W : Int) < 1) = false := decide_eq_false (by omega)
  have k1b : ¬ W = 0 := by omega
  have k2 : decide (15 < (W : Int)) = false := decide_eq_false (by omega)
  have k3 : decide ((T.size : Int) < (W : Int)) = false := decide_eq_false (by omega)
  have k3b : ¬ T.size < W := by omega
  generalize valF 0 (ls (T.extract 0 W)) = v at *
  generalize T.extract 0 W = A at *
  generalize T.extract W T.size = B at *
  clear hW hT hk hd h1 h2
  go_enter Tryz.func14, Tryz.ntmps14
  go_wp2_with (go_at_call 36; refine (RD.out _).mono ?_; rintro e w0 ⟨rfl, rfl⟩)
  refine (HTK.out).mono ?_
  rintro x w1 ⟨rfl, rfl⟩
  go_wp2_with (go_at_call 37; refine (RN.out _).mono ?_; rintro e w2 ⟨rfl, rfl⟩)
  exact bodyPost_ret (v := .int .i64 (v : Nat)) (by simp [results, Tryz.results14, go_sem]) rfl ⟨rfl, HK.out, setB _ _ _ _, setK _ _ _ _⟩
theorem rAlpha_dead (h : Nat) (T : ByteArray) (e n : Int) (he : e ≠ 0) (w : World) (hk : Blk w h 44 (rr T e)) : Calls Tryz.prog 15 #[.pointer (some ⟨h, 0, none⟩), .int .i64 n] w (RP h w (.string ⟨#[]⟩) T e) := by
  obtain ⟨c0, c1, f0, f1, hl⟩ := cell2 hk
  have HK := Lib.hid hk
  have d1 : (e == 0) = false := by rw [beq_eq_false_iff_ne]; exact he
  have d2 : (e != 0) = true := by rw [bne_iff_ne]; exact he
  clear hk he
  go_enter Tryz.func15, Tryz.ntmps15
  go_wp2_with fail
  exact bodyPost_ret (v := .string ⟨#[]⟩) (by simp [results, Tryz.results15, go_sem]) rfl ⟨rfl, HK.out, Below.refl _ _, fun _ _ _ _ hb => hb⟩
set_option maxHeartbeats 1000000 in
theorem rAlpha_bad (h : Nat) (T : ByteArray) (n E : Int) (hT : T.size ≤ 1000) (hE : aBad T n E) (w : World) (hk : Blk w h 44 (rr T 0)) : Calls Tryz.prog 15 #[.pointer (some ⟨h, 0, none⟩), .int .i64 n] w (RP h w (.string ⟨#[]⟩) T E) := by
  have HFL := Lib.hid (rfail_any h T 0 E w hk)
  have HK := Lib.hid (rr_set1 hk E)
  obtain ⟨c0, c1, f0, f1, hl⟩ := cell2 hk
  clear hk
  rcases hE with ⟨h1 | h1, rfl⟩ | ⟨h1, h2, h3, rfl⟩ | ⟨W, rfl, h1, h2, h3, h4, rfl⟩
  · have k1 : decide (n < 1) = true := decide_eq_true h1
    go_enter Tryz.func15, Tryz.ntmps15
    go_wp2_with fail
    refine (HFL.out).mono ?_
    rintro x w1 ⟨rfl, rfl⟩
    go_wp2_with fail
    exact bodyPost_ret (v := .string ⟨#[]⟩) (by simp [results, Tryz.results15, go_sem]) rfl ⟨rfl, HK.out, setB _ _ _ _, setK _ _ _ _⟩
  · have k1 : decide (n < 1) = false := decide_eq_false (by omega)
    have k2 : decide (255 < n) = true := decide_eq_true h1
    go_enter Tryz.func15, Tryz.ntmps15
    go_wp2_with fail
    refine (HFL.out).mono ?_
    rintro x w1 ⟨rfl, rfl⟩
    go_wp2_with fail
    exact bodyPost_ret (v := .string ⟨#[]⟩) (by simp [results, Tryz.results15, go_sem]) rfl ⟨rfl, HK.out, setB _ _ _ _, setK _ _ _ _⟩
  · have k1 : decide (n < 1) = false := decide_eq_false (by omega)
    have k2 : decide (255 < n) = false := decide_eq_false (by omega)
    have k3 : decide ((T.size : Int) < n) = true := decide_eq_true h3
    clear h1 h2 h3
    go_enter Tryz.func15, Tryz.ntmps15
    go_wp2_with fail
    refine (HFL.out).mono ?_
    rintro x w1 ⟨rfl, rfl⟩
    go_wp2_with fail
    exact bodyPost_ret (v := .string ⟨#[]⟩) (by simp [results, Tryz.results15, go_sem]) rfl ⟨rfl, HK.out, setB _ _ _ _, setK _ _ _ _⟩
  · have k1 : decide ((W : Int) < 1) = false := decide_eq_false (by omega)
    have k1b : ¬ W = 0 := by omega
    have k2 : decide (255 < (W : Int)) = false := decide_eq_false (by omega)
    have k3 : decide ((T.size : Int) < (W : Int)) = false := decide_eq_false (by omega)
    have k3b : ¬ T.size < W := by omega
    have q1 := cut_h T W h3
    have RD := Lib.hid (fun w => rprint_any (T.extract 0 W) (by rw [ByteArray.size_extract]; omega) w)
    rw [h4] at RD
    generalize T.extract 0 W = A at *
    clear h1 h2 h3 h4
    go_enter Tryz.func15, Tryz.ntmps15
    go_wp2_with (go_at_call 39; refine (RD.out _).mono ?_; rintro e w0 ⟨rfl, rfl⟩)
    refine (HFL.out).mono ?_
    rintro x w1 ⟨rfl, rfl⟩
    go_wp2_with fail
    exact bodyPost_ret (v := .string ⟨#[]⟩) (by simp [results, Tryz.results15, go_sem]) rfl ⟨rfl, HK.out, setB _ _ _ _, setK _ _ _ _⟩
set_option maxHeartbeats 2000000 in
theorem rAlpha_ok (h W m : Nat) (T x : ByteArray) (h1 : 1 ≤ W) (h2 : W ≤ 255) (hT : T.size ≤ 1000) (hW : W ≤ T.size) (hd : prn (ls (T.extract 0 W)) = true) (hx : T.extract 0 W = spc x m) (hxm : x.size + m = W) (hsf : Lib.hasSuffix (ls x) [32] = false) (w : World) (hk : Blk w h 44 (rr T 0)) : Calls Tryz.prog 15 #[.pointer (some ⟨h, 0, none⟩), .int .i64 W] w (RP h w (.string x) (T.extract W T.size) 0) := by
  have HTK := Lib.hid (rtake_any h W T 0 hW (by omega) w hk)
  have HK := Lib.hid (rr_set0 hk (T.extract W T.size))
  have RD := Lib.hid (fun w => rprint_any (T.extract 0 W) (by rw [ByteArray.size_extract]; omega) w)
  rw [hd] at RD
  obtain ⟨c0, c1, f0, f1, hl⟩ := cell2 hk
  have q1 := cut_h T W hW
  rw [hx] at HTK RD q1
  have k1 : decide ((W : Int) < 1) = false := decide_eq_false (by omega)
  have k1b : ¬ W = 0 := by omega
  have k2 : decide (255 < (W : Int)) = false := decide_eq_false (by omega)
  have k3 : decide ((T.size : Int) < (W : Int)) = false := decide_eq_false (by omega)
  have k3b : ¬ T.size < W := by omega
  have HZ := Lib.hid (spc_size x)
  have HC := Lib.hid (spc_cut x)
  have HAT := Lib.hid (spc_at x)
  have H0 := Lib.hid (spc_zero x)
  have HSM : Hid (x.size + m ≤ 255) := Lib.hid (by omega)
  obtain ⟨g, hg⟩ : ∃ g, g = spc x := ⟨_, rfl⟩
  rw [← hg] at HZ HC HAT H0 HTK RD q1
  generalize T.extract W T.size = B at *
  clear hW hT hk hd h1 h2 hx hxm hg
  go_enter Tryz.func15, Tryz.ntmps15
  go_wp2_with (go_at_call 39; refine (RD.out _).mono ?_; rintro e w0 ⟨rfl, rfl⟩)
  refine (HTK.out).mono ?_
  rintro e w1 ⟨rfl, hw1⟩
  have HK1 := Lib.hid (show Blk w1 h 44 (rr B 0) by rw [hw1]; exact HK.out)
  have HB1 := Lib.hid (show Below h _ w1 by rw [hw1]; exact setB _ _ _ _)
  have HP1 := Lib.hid (show Keeps h _ w1 by rw [hw1]; exact setK _ _ _ _)
  clear hw1
  go_wp2_with fail
  go_loopg [5] m (fun u y wr => wr = w1 ∧ Hid (u ≤ m) ∧ y = .string (g u))
  case atStart => exact ⟨rfl, Lib.hid (Nat.le_refl _), rfl⟩
  case round =>
    obtain ⟨rfl, hu, rfl⟩ := hrel
    have hsm := HSM.out
    have hul := hu.out
    rcases Nat.eq_zero_or_pos gk with hk | hk
    · subst hk
      rw [H0.out]
      rcases Nat.eq_zero_or_pos x.size with h0 | h0
      · have hemp := size_zero_list h0
        clear hsf hul h0
        go_wp2_with fail
        exact bodyPost_ret (v := .string x) (by simp [results, Tryz.results15, go_sem]) rfl ⟨rfl, HK1.out, HB1.out, HP1.out⟩
      · obtain ⟨j, hj⟩ : ∃ j, x.size = j + 1 := ⟨x.size - 1, by omega⟩
        have hemp := size_pos_list (s := x) (by omega)
        have hjl : j < x.size := by omega
        have hl := hs_last x j hj
        rw [hsf] at hl
        have hv := beq32 hl.symm
        have hix := idx_at x j hjl
        have e1 : (x.size : Int) - 1 = (j : Int) := by omega
        have hsi : (x.size : Int) ≤ 2000 := by omega
        generalize x[j].toNat = v at *
        have c3 : ((v : Int) == 32) = false := by rw [beq_eq_false_iff_ne]; omega
        clear hsf hl hul h0 hj hsm
        go_wp2_with fail
        exact bodyPost_ret (v := .string x) (by simp [results, Tryz.results15, go_sem]) rfl ⟨rfl, HK1.out, HB1.out, HP1.out⟩
    · obtain ⟨k, rfl⟩ : ∃ k, gk = k + 1 := ⟨gk - 1, by omega⟩
      have hz := HZ.out (k + 1)
      have hemp := size_pos_list (s := g (k + 1)) (by omega)
      obtain ⟨j, hj⟩ : ∃ j, j = x.size + k := ⟨_, rfl⟩
      have hjl : j < (g (k + 1)).size := by omega
      have hcut := HC.out k
      rw [← hj] at hcut
      have hat : ((g (k + 1))[j]'hjl).toNat = 32 := by
        have h := HAT.out k (by omega)
        subst hj
        rw [h]; rfl
      have hix := idx_at (g (k + 1)) j hjl
      rw [hat] at hix
      have hch := cut_h (g (k + 1)) j (by omega)
      rw [hcut] at hch
      clear hat hcut
      generalize hG : g (k + 1) = G at *
      have e1 : (G.size : Int) - 1 = (j : Int) := by omega
      have hsi : (G.size : Int) ≤ 2000 := by omega
      clear hG hz hj hsf hul hk hsm
      go_wp2_with fail
      go_roundg k
      case measure => omega
      case rel => exact ⟨rfl, Lib.hid (by have := hu.out; omega), rfl⟩
theorem rTake_dead (h : Nat) (T : ByteArray) (e n : Int) (he : e ≠ 0) (w : World) (hk : Blk w h 44 (rr T e)) : Calls Tryz.prog 17 #[.pointer (some ⟨h, 0, none⟩), .int .i64 n] w (RP h w (.string ⟨#[]⟩) T e) := by
  obtain ⟨c0, c1, f0, f1, hl⟩ := cell2 hk
  have HK := Lib.hid hk
  have d1 : (e == 0) = false := by rw [beq_eq_false_iff_ne]; exact he
  have d2 : (e != 0) = true := by rw [bne_iff_ne]; exact he
  clear hk he
  go_enter Tryz.func17, Tryz.ntmps17
  go_wp2_with fail
  exact bodyPost_ret (v := .string ⟨#[]⟩) (by simp [results, Tryz.results17, go_sem]) rfl ⟨rfl, HK.out, Below.refl _ _, fun _ _ _ _ hb => hb⟩
set_option maxHeartbeats 1000000 in
theorem rTake_bad (h : Nat) (T : ByteArray) (n E : Int) (hT : T.size ≤ 1000) (hE : tBad T n E) (w : World) (hk : Blk w h 44 (rr T 0)) : Calls Tryz.prog 17 #[.pointer (some ⟨h, 0, none⟩), .int .i64 n] w (RP h w (.string ⟨#[]⟩) T E) := by
  have HFL := Lib.hid (rfail_any h T 0 E w hk)
  have HK := Lib.hid (rr_set1 hk E)
  obtain ⟨c0, c1, f0, f1, hl⟩ := cell2 hk
  clear hk
  rcases hE with ⟨h1, rfl⟩ | ⟨h1, h2, rfl⟩
  · have k1 : decide (n < 0) = true := decide_eq_true h1
    go_enter Tryz.func17, Tryz.ntmps17
    go_wp2_with fail
    refine (HFL.out).mono ?_
    rintro x w1 ⟨rfl, rfl⟩
    go_wp2_with fail
    exact bodyPost_ret (v := .string ⟨#[]⟩) (by simp [results, Tryz.results17, go_sem]) rfl ⟨rfl, HK.out, setB _ _ _ _, setK _ _ _ _⟩
  · have k1 : decide (n < 0) = false := decide_eq_false (by omega)
    have k2 : decide ((T.size : Int) < n) = true := decide_eq_true h2
    clear h1 h2
    go_enter Tryz.func17, Tryz.ntmps17
    go_wp2_with fail
    refine (HFL.out).mono ?_
    rintro x w1 ⟨rfl, rfl⟩
    go_wp2_with fail
    exact bodyPost_ret (v := .string ⟨#[]⟩) (by simp [results, Tryz.results17, go_sem]) rfl ⟨rfl, HK.out, setB _ _ _ _, setK _ _ _ _⟩
set_option maxHeartbeats 1000000 in
theorem rTake_ok (h W : Nat) (T : ByteArray) (hT : T.size ≤ 1000) (hW : W ≤ T.size) (w : World) (hk : Blk w h 44 (rr T 0)) : Calls Tryz.prog 17 #[.pointer (some ⟨h, 0, none⟩), .int .i64 W] w (RP h w (.string (T.extract 0 W)) (T.extract W T.size) 0) := by
  have HTK := Lib.hid (rtake_any h W T 0 hW (by omega) w hk)
  have HK := Lib.hid (rr_set0 hk (T.extract W T.size))
  obtain ⟨c0, c1, f0, f1, hl⟩ := cell2 hk
  have k1 : decide ((W : Int) < 0) = false := decide_eq_false (by omega)
  have k3 : decide ((T.size : Int) < (W : Int)) = false := decide_eq_false (by omega)
  have k3b : ¬ T.size < W := by omega
  clear hk
  generalize T.extract 0 W = A at *
  generalize T.extract W T.size = B at *
  clear hW hT
  go_enter Tryz.func17, Tryz.ntmps17
  go_wp2_with fail
  refine (HTK.out).mono ?_
  rintro x w1 ⟨rfl, rfl⟩
  go_wp2_with fail
  exact bodyPost_ret (v := .string A) (by simp [results, Tryz.results17, go_sem]) rfl ⟨rfl, HK.out, setB _ _ _ _, setK _ _ _ _⟩
end Go.Proofs.YtknipjjmpdnomaaGreatDoor
