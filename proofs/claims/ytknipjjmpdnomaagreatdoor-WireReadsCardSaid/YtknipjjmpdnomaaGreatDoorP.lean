/- Num, Alpha, Var, Take of the program's reader. -/
import Derived.Test.YtknipjjmpdnomaaGreatDoorL
import Derived.Test.YtknipjjmpdnomaaGreatDoorM
set_option linter.unusedVariables false
set_option linter.unusedSimpArgs false
namespace Go.Proofs.YtknipjjmpdnomaaGreatDoor
open Go.Sort Go.ChangeShapes Go.WideShapes Go.ChangeAt Go.RowKit
def ErP (w : World) : Prop := ∃ tp p, w.var? Tryz.prog "strconv.ErrSyntax" = some #[.iface tp p]
theorem gSyn : ∃ k, Tryz.prog.globalNamed "strconv.ErrSyntax" = some k ∧ k < 3 := ⟨0, by kernel_rfl, by decide⟩
theorem ErP.under {g : Nat} {w w' : World} (h : ErP w) (hb : Below g w w') (hg : 3 ≤ g) : ErP w' := by
  obtain ⟨tp, p, hv⟩ := h
  obtain ⟨k, hk, hk3⟩ := gSyn
  exact ⟨tp, p, var?_below hb hk (by omega) hv⟩
theorem ErP.call {w w' : World} (h : ErP w) (hb : Below w.heap.size w w') : ErP w' := by
  obtain ⟨tp, p, hv⟩ := h
  obtain ⟨k, hk, _⟩ := gSyn
  exact ⟨tp, p, Go.Joins.var_stays hk hv hb (Nat.le_refl _)⟩
theorem pi_blank (w : World) (h : ErP w) : Calls Tryz.prog 28 #[.string ⟨#[]⟩, .int .i64 10, .int .i64 64] w fun e w' => ∃ x, e = .returned (.tuple #[.int .i64 0, x]) ∧ Below w.heap.size w w' := by
  obtain ⟨tp, p, hv⟩ := h
  exact (Tryz.strconv_ParseInt_blank tp p w hv).mono fun e w' ⟨n, he, _, _, hb⟩ => ⟨_, he, hb⟩
theorem pi_num (X : ByteArray) (hz : X.size ≤ 15) (h0 : 0 < X.size) (hd : allD (ls X) = true) (w : World) : Calls Tryz.prog 28 #[.string X, .int .i64 10, .int .i64 64] w fun e w' => ∃ x, e = .returned (.tuple #[.int .i64 ((valF 0 (ls X) : Nat) : Int), x]) ∧ Below w.heap.size w w' := by
  have hb := valF_lt _ hd
  have h1 := pib (ls X) hd (fun e => by rw [ls_size, e] at h0; exact absurd h0 (Nat.lt_irrefl _))
  rw [if_pos (Nat.lt_trans hb (Nat.lt_of_le_of_lt (Nat.pow_le_pow_right (by omega) (show (ls X).length ≤ 15 by rw [← ls_size]; exact hz)) (by decide)))] at h1
  refine (Tryz.strconv_ParseInt_10_at64_ok X (by omega) _ h1 w).mono fun e w' ⟨he, hw⟩ => ⟨_, he, ?_⟩
  rcases hw with rfl | ⟨t, rfl⟩
  · exact Below.refl _ _
  · exact Go.Joins.below_bytesWorld w.heap.size w 5 t (Nat.le_refl _)
def PP (g : Nat) (w : World) (v : Value) (s : ByteArray) (a e : Int) (x : Ending) (w' : World) : Prop := x = .returned v ∧ Blk w' g 42 (rd s a e) ∧ Below g w w' ∧ Keeps g w w'
def FP (g : Nat) (w : World) (X : ByteArray) (s : ByteArray) (a e : Int) (x : Ending) (w' : World) : Prop := x = .returned (.string X) ∧ Blk w' g 42 (rd s a e) ∧ Below g w w' ∧ Keeps g w w'
theorem fp_dead {g : Nat} {s : ByteArray} {a e : Int} (f : Value) (he : e ≠ 0) (w : World) (hk : Blk w g 42 (rd s a e)) : Calls Tryz.prog 25 #[.pointer (some ⟨g, 0, none⟩), f] w (FP g w ⟨#[]⟩ s a e) :=
  (fld_dead g s a e f he w hk).mono fun x w' ⟨hx, hw⟩ => ⟨hx, hw ▸ hk, hw ▸ Below.refl _ _, hw ▸ fun _ _ _ _ hb => hb⟩
set_option maxHeartbeats 1000000 in
theorem opNum_of (g : Nat) (n a e : Int) (s X : ByteArray) (w : World) (hg : g < w.heap.size) (HF : Hid (Calls Tryz.prog 25 #[.pointer (some ⟨g, 0, none⟩), .func (Fn.func 26) #[] #[.pointer (some ⟨w.heap.size, 0, none⟩)]] (w.alloc (.cells #[.int .i64 n] 3)) (FP g (w.alloc (.cells #[.int .i64 n] 3)) X s a e))) (v : Int) (hE : ErP w) (h3 : 3 ≤ g) (HP : Hid (∀ W, ErP W → Calls Tryz.prog 28 #[.string X, .int .i64 10, .int .i64 64] W fun e w' => ∃ x, e = .returned (.tuple #[.int .i64 v, x]) ∧ Below W.heap.size W w')) : Calls Tryz.prog 7 #[.pointer (some ⟨g, 0, none⟩), .int .i64 n] w (PP g w (.int .i64 v) s a e) := by
  have HG := Lib.hid (Nat.le_of_lt hg)
  have HER := Lib.hid hE
  clear hE
  clear hg
  go_enter Tryz.func7, Tryz.ntmps7
  go_wp2_with fail
  refine (HF.out).mono ?_
  rintro x w1 ⟨rfl, hk1, hb1, hp1⟩
  have HK1 := Lib.hid hk1
  have HB1 := Lib.hid ((((Below.refl w.heap.size w).alloc (Nat.le_refl _) _).mono HG.out).trans hb1)
  have HKP : Hid (Keeps g w w1) := Lib.hid (fun f t cs hf hb => hp1 f t cs hf (hb.alloc _))
  clear hk1 hb1 hp1
  have HE1 := Lib.hid (HER.out.under HB1.out h3)
  go_wp2_with fail
  refine (HP.out _ HE1.out).mono ?_
  rintro z w2 ⟨x, rfl, hb2⟩
  have HK2 := Lib.hid (HK1.out.call hb2)
  have HB2 := Lib.hid (HB1.out.trans (hb2.mono (Nat.le_of_lt HK1.out.lt)))
  have HKP2 : Hid (Keeps g w w2) := Lib.hid (fun f t cs hf hb => (HKP.out f t cs hf hb).call hb2)
  clear hb2
  go_wp2_with fail
  go_ret
  exact ⟨rfl, HK2.out, HB2.out, HKP2.out⟩
theorem opNum_dead (g : Nat) (n a e : Int) (s : ByteArray) (he : e ≠ 0) (w : World) (hE : ErP w) (h3 : 3 ≤ g) (hk : Blk w g 42 (rd s a e)) : Calls Tryz.prog 7 #[.pointer (some ⟨g, 0, none⟩), .int .i64 n] w (PP g w (.int .i64 0) s a e) :=
  opNum_of g n a e s ⟨#[]⟩ w hk.lt (Lib.hid (fp_dead _ he _ (hk.alloc _))) 0 hE h3 (Lib.hid fun W h => pi_blank W h)
theorem opNum_bad (g a : Nat) (n E : Int) (s : ByteArray) (hs : s.size ≤ 1000) (ha : a ≤ s.size) (hB : nBad (s.extract a s.size) n E) (hE0 : E ≠ 0) (w : World) (hE : ErP w) (h3 : 3 ≤ g) (hk : Blk w g 42 (rd s a 0)) : Calls Tryz.prog 7 #[.pointer (some ⟨g, 0, none⟩), .int .i64 n] w (PP g w (.int .i64 0) s a E) :=
  opNum_of g n a E s ⟨#[]⟩ w hk.lt (Lib.hid (fld26_bad g a s E ⟨w.heap.size, 0, none⟩ ha (by omega) hE0 (w.alloc (.cells #[.int .i64 n] 3)) (hk.alloc _) (Lib.hid fun q => clo26_bad w.heap.size (s.extract a s.size) n E (by rw [ByteArray.size_extract]; omega) hB ((w.alloc (.cells #[.int .i64 n] 3)).drewN q) ((Blk.new w 3 #[.int .i64 n]).cell 0)))) 0 hE h3 (Lib.hid fun W h => pi_blank W h)
theorem opNum_ok (g a W : Nat) (s : ByteArray) (hs : s.size ≤ 1000) (h1 : 1 ≤ W) (h2 : W ≤ 15) (ha : a + W ≤ s.size) (hd : allD (ls ((s.extract a s.size).extract 0 W)) = true) (w : World) (hE : ErP w) (h3 : 3 ≤ g) (hk : Blk w g 42 (rd s a 0)) : Calls Tryz.prog 7 #[.pointer (some ⟨g, 0, none⟩), .int .i64 W] w (PP g w (.int .i64 ((valF 0 (ls ((s.extract a s.size).extract 0 W)) : Nat) : Int)) s ((a + W : Nat) : Int) 0) :=
  opNum_of g W ((a + W : Nat) : Int) 0 s ((s.extract a s.size).extract 0 W) w hk.lt (Lib.hid (fld26_ok g a W 0 s ⟨w.heap.size, 0, none⟩ ha (Nat.zero_le _) (by omega) (w.alloc (.cells #[.int .i64 W] 3)) (hk.alloc _) (Lib.hid fun q => (clo_num w.heap.size W (s.extract a s.size) h1 h2 (by rw [ByteArray.size_extract]; omega) (by unfold isD; rw [size_pos_list (by rw [ByteArray.size_extract, ByteArray.size_extract]; omega), show allD ((s.extract a s.size).extract 0 W).data.toList = true from hd]; rfl) ((w.alloc (.cells #[.int .i64 W] 3)).drewN q) ((Blk.new w 3 #[.int .i64 W]).cell 0)).mono fun e w' ⟨he, hw⟩ => ⟨he, hw ▸ Below.refl _ _⟩))) _ hE h3 (Lib.hid fun W0 _ => pi_num _ (by rw [ByteArray.size_extract, ByteArray.size_extract]; omega) (by rw [ByteArray.size_extract, ByteArray.size_extract]; omega) hd W0)
set_option maxHeartbeats 1000000 in
theorem opAlpha_of (g : Nat) (n a e : Int) (s X : ByteArray) (w : World) (hg : g < w.heap.size) (HF : Hid (Calls Tryz.prog 25 #[.pointer (some ⟨g, 0, none⟩), .func (Fn.func 29) #[] #[.pointer (some ⟨w.heap.size, 0, none⟩)]] (w.alloc (.cells #[.int .i64 n] 3)) (FP g (w.alloc (.cells #[.int .i64 n] 3)) X s a e))) (x : ByteArray) (HP : Hid (∀ W, Calls Tryz.prog 31 #[.string X, .string ⟨#[32]⟩] W fun e w' => e = .returned (.string x) ∧ w' = W)) : Calls Tryz.prog 8 #[.pointer (some ⟨g, 0, none⟩), .int .i64 n] w (PP g w (.string x) s a e) := by
  have HG := Lib.hid (Nat.le_of_lt hg)
  clear hg
  go_enter Tryz.func8, Tryz.ntmps8
  go_wp2_with fail
  refine (HF.out).mono ?_
  rintro x w1 ⟨rfl, hk1, hb1, hp1⟩
  have HK1 := Lib.hid hk1
  have HB1 := Lib.hid ((((Below.refl w.heap.size w).alloc (Nat.le_refl _) _).mono HG.out).trans hb1)
  have HKP : Hid (Keeps g w w1) := Lib.hid (fun f t cs hf hb => hp1 f t cs hf (hb.alloc _))
  clear hk1 hb1 hp1
  go_wp2_with (go_at_call 31; refine (HP.out _).mono ?_; rintro e w2 ⟨rfl, rfl⟩)
  go_ret
  exact ⟨rfl, HK1.out, HB1.out, HKP.out⟩
theorem trim0 (w : World) : Calls Tryz.prog 31 #[.string ⟨#[]⟩, .string ⟨#[32]⟩] w fun e w' => e = .returned (.string ⟨#[]⟩) ∧ w' = w := by
  have h := trim_any ⟨#[]⟩ 0 (by decide) (by decide) w
  rw [spc_zero] at h
  exact h
theorem opAlpha_dead (g : Nat) (n a e : Int) (s : ByteArray) (he : e ≠ 0) (w : World) (hk : Blk w g 42 (rd s a e)) : Calls Tryz.prog 8 #[.pointer (some ⟨g, 0, none⟩), .int .i64 n] w (PP g w (.string ⟨#[]⟩) s a e) :=
  opAlpha_of g n a e s ⟨#[]⟩ w hk.lt (Lib.hid (fp_dead _ he _ (hk.alloc _))) ⟨#[]⟩ (Lib.hid fun W => trim0 W)
theorem opAlpha_bad (g a : Nat) (n E : Int) (s : ByteArray) (hs : s.size ≤ 1000) (ha : a ≤ s.size) (hB : aBad (s.extract a s.size) n E) (hE0 : E ≠ 0) (w : World) (hk : Blk w g 42 (rd s a 0)) : Calls Tryz.prog 8 #[.pointer (some ⟨g, 0, none⟩), .int .i64 n] w (PP g w (.string ⟨#[]⟩) s a E) :=
  opAlpha_of g n a E s ⟨#[]⟩ w hk.lt (Lib.hid (fld29_bad g a s E ⟨w.heap.size, 0, none⟩ ha (by omega) hE0 (w.alloc (.cells #[.int .i64 n] 3)) (hk.alloc _) (Lib.hid fun q => clo29_bad w.heap.size (s.extract a s.size) n E (by rw [ByteArray.size_extract]; omega) hB ((w.alloc (.cells #[.int .i64 n] 3)).drewN q) ((Blk.new w 3 #[.int .i64 n]).cell 0)))) ⟨#[]⟩ (Lib.hid fun W => trim0 W)
theorem opAlpha_ok (g a W : Nat) (s : ByteArray) (hs : s.size ≤ 1000) (h1 : 1 ≤ W) (h2 : W ≤ 255) (ha : a + W ≤ s.size) (x : ByteArray) (m : Nat) (hd : prn (ls ((s.extract a s.size).extract 0 W)) = true) (hx : (s.extract a s.size).extract 0 W = spc x m) (hxm : x.size + m = W) (hsf : Lib.hasSuffix (ls x) [32] = false) (w : World) (hk : Blk w g 42 (rd s a 0)) : Calls Tryz.prog 8 #[.pointer (some ⟨g, 0, none⟩), .int .i64 W] w (PP g w (.string x) s ((a + W : Nat) : Int) 0) :=
  opAlpha_of g W ((a + W : Nat) : Int) 0 s ((s.extract a s.size).extract 0 W) w hk.lt (Lib.hid (fld29_ok g a W 0 s ⟨w.heap.size, 0, none⟩ ha (Nat.zero_le _) (by omega) (w.alloc (.cells #[.int .i64 W] 3)) (hk.alloc _) (Lib.hid fun q => (clo_alpha w.heap.size W (s.extract a s.size) h1 h2 (by rw [ByteArray.size_extract]; omega) hd ((w.alloc (.cells #[.int .i64 W] 3)).drewN q) ((Blk.new w 3 #[.int .i64 W]).cell 0)).mono fun e w' ⟨he, hw⟩ => ⟨he, hw ▸ Below.refl _ _⟩))) x (Lib.hid fun W0 => by rw [hx]; exact trim_any x m hsf (by omega) W0)
set_option maxHeartbeats 1000000 in
theorem opVar_of (g : Nat) (n m a e : Int) (s X : ByteArray) (w : World) (hg : g < w.heap.size) (HF : Hid (Calls Tryz.prog 25 #[.pointer (some ⟨g, 0, none⟩), .func (Fn.func 32) #[] #[.pointer (some ⟨w.heap.size, 0, none⟩), .pointer (some ⟨w.heap.size + 1, 0, none⟩)]] ((w.alloc (.cells #[.int .i64 n] 3)).alloc (.cells #[.int .i64 m] 3)) (FP g ((w.alloc (.cells #[.int .i64 n] 3)).alloc (.cells #[.int .i64 m] 3)) X s a e)))  : Calls Tryz.prog 9 #[.pointer (some ⟨g, 0, none⟩), .int .i64 n, .int .i64 m] w (PP g w (.string X) s a e) := by
  have HG := Lib.hid (Nat.le_of_lt hg)
  clear hg
  go_enter Tryz.func9, Tryz.ntmps9
  go_wp2_with fail
  refine (HF.out).mono ?_
  rintro x w1 ⟨rfl, hk1, hb1, hp1⟩
  have HK1 := Lib.hid hk1
  have HB1 := Lib.hid (((((Below.refl w.heap.size w).alloc (Nat.le_refl _) _).alloc (by simp) _).mono HG.out).trans hb1)
  have HKP : Hid (Keeps g w w1) := Lib.hid (fun f t cs hf hb => hp1 f t cs hf ((hb.alloc _).alloc _))
  clear hk1 hb1 hp1
  go_wp2_with fail
  go_ret
  exact ⟨rfl, HK1.out, HB1.out, HKP.out⟩
theorem opVar_dead (g : Nat) (n m a e : Int) (s : ByteArray) (he : e ≠ 0) (w : World) (hk : Blk w g 42 (rd s a e)) : Calls Tryz.prog 9 #[.pointer (some ⟨g, 0, none⟩), .int .i64 n, .int .i64 m] w (PP g w (.string ⟨#[]⟩) s a e) :=
  opVar_of g n m a e s ⟨#[]⟩ w hk.lt (Lib.hid (fp_dead _ he _ ((hk.alloc _).alloc _)))
theorem opVar_bad (g a : Nat) (n m E : Int) (s : ByteArray) (hs : s.size ≤ 1000) (ha : a ≤ s.size) (hB : vBad (s.extract a s.size) n m E) (hE0 : E ≠ 0) (w : World) (hk : Blk w g 42 (rd s a 0)) : Calls Tryz.prog 9 #[.pointer (some ⟨g, 0, none⟩), .int .i64 n, .int .i64 m] w (PP g w (.string ⟨#[]⟩) s a E) :=
  opVar_of g n m a E s ⟨#[]⟩ w hk.lt (Lib.hid (fld32_bad g a s E ⟨w.heap.size, 0, none⟩ ⟨w.heap.size + 1, 0, none⟩ ha (by omega) hE0 ((w.alloc (.cells #[.int .i64 n] 3)).alloc (.cells #[.int .i64 m] 3)) ((hk.alloc _).alloc _) (Lib.hid fun q => clo32_bad w.heap.size (w.heap.size + 1) (s.extract a s.size) n m E (by rw [ByteArray.size_extract]; omega) hB (((w.alloc (.cells #[.int .i64 n] 3)).alloc (.cells #[.int .i64 m] 3)).drewN q) (((Blk.new w 3 #[.int .i64 n]).alloc _).cell 0) (by
    have h := (Blk.new (w.alloc (.cells #[.int .i64 n] 3)) 3 #[.int .i64 m]).cell 0
    rw [show (w.alloc (.cells #[.int .i64 n] 3)).heap.size = w.heap.size + 1 by simp] at h
    exact h))))
theorem opVar2_ok (g a v aw : Nat) (s : ByteArray) (m : Int) (hs : s.size ≤ 1000) (hm : (v : Int) ≤ m) (h2 : allD (ls ((s.extract a s.size).extract 0 2)) = true) (hv : v = valF 0 (ls ((s.extract a s.size).extract 0 2))) (haw : 2 + v = aw) (hv2 : v ≤ 255) (ha : a + aw ≤ s.size) (w : World) (hk : Blk w g 42 (rd s a 0)) : Calls Tryz.prog 9 #[.pointer (some ⟨g, 0, none⟩), .int .i64 2, .int .i64 m] w (PP g w (.string ((s.extract a s.size).extract 2 aw)) s ((a + aw : Nat) : Int) 0) :=
  opVar_of g 2 m ((a + aw : Nat) : Int) 0 s ((s.extract a s.size).extract 2 aw) w hk.lt (Lib.hid (fld32_ok g a aw 2 s ⟨w.heap.size, 0, none⟩ ⟨w.heap.size + 1, 0, none⟩ ha (by omega) (by omega) ((w.alloc (.cells #[.int .i64 2] 3)).alloc (.cells #[.int .i64 m] 3)) ((hk.alloc _).alloc _) (Lib.hid fun q => clo32_ok2 w.heap.size (w.heap.size + 1) v aw (s.extract a s.size) m (by rw [ByteArray.size_extract]; omega) hm h2 hv haw hv2 (by rw [ByteArray.size_extract]; omega) (((w.alloc (.cells #[.int .i64 2] 3)).alloc (.cells #[.int .i64 m] 3)).drewN q) (((Blk.new w 3 #[.int .i64 2]).alloc _).cell 0) (by
    have h := (Blk.new (w.alloc (.cells #[.int .i64 2] 3)) 3 #[.int .i64 m]).cell 0
    rw [show (w.alloc (.cells #[.int .i64 2] 3)).heap.size = w.heap.size + 1 by simp] at h
    exact h))))
theorem opVar3_ok (g a v aw : Nat) (s : ByteArray) (m : Int) (hs : s.size ≤ 1000) (hm : (v : Int) ≤ m) (h2 : allD (ls ((s.extract a s.size).extract 0 3)) = true) (hv : v = valF 0 (ls ((s.extract a s.size).extract 0 3))) (haw : 3 + v = aw) (hv2 : v ≤ 255) (ha : a + aw ≤ s.size) (w : World) (hk : Blk w g 42 (rd s a 0)) : Calls Tryz.prog 9 #[.pointer (some ⟨g, 0, none⟩), .int .i64 3, .int .i64 m] w (PP g w (.string ((s.extract a s.size).extract 3 aw)) s ((a + aw : Nat) : Int) 0) :=
  opVar_of g 3 m ((a + aw : Nat) : Int) 0 s ((s.extract a s.size).extract 3 aw) w hk.lt (Lib.hid (fld32_ok g a aw 3 s ⟨w.heap.size, 0, none⟩ ⟨w.heap.size + 1, 0, none⟩ ha (by omega) (by omega) ((w.alloc (.cells #[.int .i64 3] 3)).alloc (.cells #[.int .i64 m] 3)) ((hk.alloc _).alloc _) (Lib.hid fun q => clo32_ok3 w.heap.size (w.heap.size + 1) v aw (s.extract a s.size) m (by rw [ByteArray.size_extract]; omega) hm h2 hv haw hv2 (by rw [ByteArray.size_extract]; omega) (((w.alloc (.cells #[.int .i64 3] 3)).alloc (.cells #[.int .i64 m] 3)).drewN q) (((Blk.new w 3 #[.int .i64 3]).alloc _).cell 0) (by
    have h := (Blk.new (w.alloc (.cells #[.int .i64 3] 3)) 3 #[.int .i64 m]).cell 0
    rw [show (w.alloc (.cells #[.int .i64 3] 3)).heap.size = w.heap.size + 1 by simp] at h
    exact h))))
set_option maxHeartbeats 1000000 in
theorem opTake_of (g : Nat) (n a e : Int) (s X : ByteArray) (w : World) (hg : g < w.heap.size) (HF : Hid (Calls Tryz.prog 25 #[.pointer (some ⟨g, 0, none⟩), .func (Fn.func 34) #[] #[.pointer (some ⟨w.heap.size, 0, none⟩)]] (w.alloc (.cells #[.int .i64 n] 3)) (FP g (w.alloc (.cells #[.int .i64 n] 3)) X s a e)))  : Calls Tryz.prog 10 #[.pointer (some ⟨g, 0, none⟩), .int .i64 n] w (PP g w (.string X) s a e) := by
  have HG := Lib.hid (Nat.le_of_lt hg)
  clear hg
  go_enter Tryz.func10, Tryz.ntmps10
  go_wp2_with fail
  refine (HF.out).mono ?_
  rintro x w1 ⟨rfl, hk1, hb1, hp1⟩
  have HK1 := Lib.hid hk1
  have HB1 := Lib.hid ((((Below.refl w.heap.size w).alloc (Nat.le_refl _) _).mono HG.out).trans hb1)
  have HKP : Hid (Keeps g w w1) := Lib.hid (fun f t cs hf hb => hp1 f t cs hf (hb.alloc _))
  clear hk1 hb1 hp1
  go_wp2_with fail
  go_ret
  exact ⟨rfl, HK1.out, HB1.out, HKP.out⟩
theorem opTake_dead (g : Nat) (n a e : Int) (s : ByteArray) (he : e ≠ 0) (w : World) (hk : Blk w g 42 (rd s a e)) : Calls Tryz.prog 10 #[.pointer (some ⟨g, 0, none⟩), .int .i64 n] w (PP g w (.string ⟨#[]⟩) s a e) :=
  opTake_of g n a e s ⟨#[]⟩ w hk.lt (Lib.hid (fp_dead _ he _ (hk.alloc _)))
theorem opTake_bad (g a : Nat) (n E : Int) (s : ByteArray) (hs : s.size ≤ 1000) (ha : a ≤ s.size) (hB : tBad (s.extract a s.size) n E) (hE0 : E ≠ 0) (w : World) (hk : Blk w g 42 (rd s a 0)) : Calls Tryz.prog 10 #[.pointer (some ⟨g, 0, none⟩), .int .i64 n] w (PP g w (.string ⟨#[]⟩) s a E) :=
  opTake_of g n a E s ⟨#[]⟩ w hk.lt (Lib.hid (fld34_bad g a s E ⟨w.heap.size, 0, none⟩ ha (by omega) hE0 (w.alloc (.cells #[.int .i64 n] 3)) (hk.alloc _) (Lib.hid fun q => clo34_bad w.heap.size (s.extract a s.size) n E (by rw [ByteArray.size_extract]; omega) hB ((w.alloc (.cells #[.int .i64 n] 3)).drewN q) ((Blk.new w 3 #[.int .i64 n]).cell 0))))
theorem opTake_ok (g a W : Nat) (s : ByteArray) (hs : s.size ≤ 1000) (ha : a + W ≤ s.size) (w : World) (hk : Blk w g 42 (rd s a 0)) : Calls Tryz.prog 10 #[.pointer (some ⟨g, 0, none⟩), .int .i64 W] w (PP g w (.string ((s.extract a s.size).extract 0 W)) s ((a + W : Nat) : Int) 0) :=
  opTake_of g W ((a + W : Nat) : Int) 0 s ((s.extract a s.size).extract 0 W) w hk.lt (Lib.hid (fld34_ok g a W 0 s ⟨w.heap.size, 0, none⟩ ha (Nat.zero_le _) (by omega) (w.alloc (.cells #[.int .i64 W] 3)) (hk.alloc _) (Lib.hid fun q => clo34_ok w.heap.size W (s.extract a s.size) (by rw [ByteArray.size_extract]; omega) (by rw [ByteArray.size_extract]; omega) ((w.alloc (.cells #[.int .i64 W] 3)).drewN q) ((Blk.new w 3 #[.int .i64 W]).cell 0))))
end Go.Proofs.YtknipjjmpdnomaaGreatDoor
