/- The field of the program's reader, whatever the function that reads. -/
import Derived.Test.YtknipjjmpdnomaaGreatDoorJ
set_option linter.unusedVariables false
set_option linter.unusedSimpArgs false
namespace Go.Proofs.YtknipjjmpdnomaaGreatDoor
open Go.Sort Go.ChangeShapes Go.WideShapes Go.ChangeAt Go.RowKit
theorem fld_dead (g : Nat) (s : ByteArray) (a e : Int) (f : Value) (he : e ≠ 0) (w : World) (hk : Blk w g 42 (rd s a e)) : Calls Tryz.prog 25 #[.pointer (some ⟨g, 0, none⟩), f] w fun x w' => x = .returned (.string ⟨#[]⟩) ∧ w' = w := by
  obtain ⟨c0, c1, c2, f1, f2, hl⟩ := cell3 hk
  have d1 : (e == 0) = false := by rw [beq_eq_false_iff_ne]; exact he
  have d2 : (e != 0) = true := by rw [bne_iff_ne]; exact he
  clear hk he
  go_enter Tryz.func25, Tryz.ntmps25
  go_wp2_with fail
  exact bodyPost_ret (v := .string ⟨#[]⟩) (by simp [results, Tryz.results25, go_sem]) rfl ⟨rfl, rfl⟩
theorem fld_nil (f : Value) (w : World) : Calls Tryz.prog 25 #[.pointer none, f] w fun x w' => x = .returned (.string ⟨#[]⟩) ∧ w' = w := by
  go_enter Tryz.func25, Tryz.ntmps25
  go_wp2_with fail
  exact bodyPost_ret (v := .string ⟨#[]⟩) (by simp [results, Tryz.results25, go_sem]) rfl ⟨rfl, rfl⟩
set_option maxHeartbeats 1000000 in
theorem fld26_ok (g a k j : Nat) (s : ByteArray) (p1 : Addr) (ha : a + k ≤ s.size) (hj : j ≤ k) (hs : s.size ≤ 2000) (w : World) (hk : Blk w g 42 (rd s a 0))
    (HC : Hid (∀ m, Calls Tryz.prog 26 #[.string (s.extract a s.size), .pointer (some p1)] (w.drewN m) fun e w' => e = .returned (.tuple #[.int .i64 k, .int .i64 j, .int .i64 0]) ∧ Below (w.drewN m).heap.size (w.drewN m) w')) :
    Calls Tryz.prog 25 #[.pointer (some ⟨g, 0, none⟩), .func (Fn.func 26) #[] #[.pointer (some p1)]] w fun e w' => e = .returned (.string ((s.extract a s.size).extract j k)) ∧ Blk w' g 42 (rd s ((a + k : Nat) : Int) 0) ∧ Below g w w' ∧ Keeps g w w' := by
  obtain ⟨c0, c1, c2, f1, f2, hl⟩ := cell3 hk
  have hle : (s.extract a s.size).size = s.size - a := by rw [ByteArray.size_extract]; omega
  have q1 := cut_l s a (by omega)
  have q2 := cut_lh (s.extract a s.size) j k hj (by rw [hle]; omega)
  have g1 : (0 : Int) ≤ (a : Int) := by omega
  have g2 : (a : Int) ≤ (s.size : Int) := by omega
  have g3 : a ≤ s.size := by omega
  have e1 : (a : Int) + (k : Int) = ((a + k : Nat) : Int) := by omega
  have e2 : wrap64 ((a + k : Nat) : Int) = ((a + k : Nat) : Int) := IntWalk.wrap64_in _ (by omega)
  have HK := Lib.hid hk
  have ha2 : (a : Int) ≤ 2000 := by omega
  have hw2 : (k : Int) ≤ 2000 := by omega
  clear hle hk ha hs
  generalize s.extract a s.size = L at *
  generalize L.extract j k = X at *
  generalize hAW : a + k = aw at *
  clear hAW
  go_enter Tryz.func25, Tryz.ntmps25
  go_wp2_with fail
  go_quiet (fail)
  go_wp2_with fail
  refine (HC.out _).mono ?_
  rintro e w1 ⟨rfl, hb⟩
  have hk1 := Blk.call (blk_dn HK.out nq) hb
  have HK1 := Lib.hid hk1
  have HB := Lib.hid ((bdn (Below.refl g w) nq).trans (hb.mono (Nat.le_of_lt hl)))
  have HKP : Hid (Keeps g w w1) := Lib.hid (fun f t cs hf hx => (blk_dn hx nq).call hb)
  obtain ⟨d0, d1', d2, h1, h2, hl2⟩ := cell3 hk1
  clear hk1 hb c0 c1 c2 f1 f2 hl
  go_wp2_with fail
  go_ret
  exact ⟨rfl, blk_set1 HK1.out _, HB.out.setCell (p := ⟨g, 1, none⟩) (Nat.le_refl _) _, fun f t cs hf hx => Blk.far (HKP.out f t cs hf hx) hf _⟩
set_option maxHeartbeats 1000000 in
theorem fld26_bad (g a : Nat) (s : ByteArray) (E : Int) (p1 : Addr) (ha : a ≤ s.size) (hs : s.size ≤ 2000) (hE : E ≠ 0) (w : World) (hk : Blk w g 42 (rd s a 0))
    (HC : Hid (∀ m, Calls Tryz.prog 26 #[.string (s.extract a s.size), .pointer (some p1)] (w.drewN m) fun e w' => e = .returned (.tuple #[.int .i64 0, .int .i64 0, .int .i64 E]) ∧ Below (w.drewN m).heap.size (w.drewN m) w')) :
    Calls Tryz.prog 25 #[.pointer (some ⟨g, 0, none⟩), .func (Fn.func 26) #[] #[.pointer (some p1)]] w fun e w' => e = .returned (.string ⟨#[]⟩) ∧ Blk w' g 42 (rd s a E) ∧ Below g w w' ∧ Keeps g w w' := by
  obtain ⟨c0, c1, c2, f1, f2, hl⟩ := cell3 hk
  have q1 := cut_l s a (by omega)
  have g1 : (0 : Int) ≤ (a : Int) := by omega
  have g2 : (a : Int) ≤ (s.size : Int) := by omega
  have g3 : a ≤ s.size := by omega
  have HK := Lib.hid hk
  have hE1 : (E == 0) = false := by rw [beq_eq_false_iff_ne]; exact hE
  have hE2 : (E != 0) = true := by rw [bne_iff_ne]; exact hE
  have ha2 : (a : Int) ≤ 2000 := by omega
  clear hk ha hs hE
  generalize s.extract a s.size = L at *
  go_enter Tryz.func25, Tryz.ntmps25
  go_wp2_with fail
  go_quiet (fail)
  go_wp2_with fail
  refine (HC.out _).mono ?_
  rintro e w1 ⟨rfl, hb⟩
  have hk1 := Blk.call (blk_dn HK.out nq) hb
  have HK1 := Lib.hid hk1
  have HB := Lib.hid ((bdn (Below.refl g w) nq).trans (hb.mono (Nat.le_of_lt hl)))
  have HKP : Hid (Keeps g w w1) := Lib.hid (fun f t cs hf hx => (blk_dn hx nq).call hb)
  obtain ⟨d0, d1', d2, h1, h2, hl2⟩ := cell3 hk1
  clear hk1 hb c0 c1 c2 f1 f2 hl
  go_wp2_with fail
  go_ret
  exact ⟨rfl, blk_set2 HK1.out E, HB.out.setCell (p := ⟨g, 2, none⟩) (Nat.le_refl _) _, fun f t cs hf hx => Blk.far (HKP.out f t cs hf hx) hf _⟩
set_option maxHeartbeats 1000000 in
theorem fld29_ok (g a k j : Nat) (s : ByteArray) (p1 : Addr) (ha : a + k ≤ s.size) (hj : j ≤ k) (hs : s.size ≤ 2000) (w : World) (hk : Blk w g 42 (rd s a 0))
    (HC : Hid (∀ m, Calls Tryz.prog 29 #[.string (s.extract a s.size), .pointer (some p1)] (w.drewN m) fun e w' => e = .returned (.tuple #[.int .i64 k, .int .i64 j, .int .i64 0]) ∧ Below (w.drewN m).heap.size (w.drewN m) w')) :
    Calls Tryz.prog 25 #[.pointer (some ⟨g, 0, none⟩), .func (Fn.func 29) #[] #[.pointer (some p1)]] w fun e w' => e = .returned (.string ((s.extract a s.size).extract j k)) ∧ Blk w' g 42 (rd s ((a + k : Nat) : Int) 0) ∧ Below g w w' ∧ Keeps g w w' := by
  obtain ⟨c0, c1, c2, f1, f2, hl⟩ := cell3 hk
  have hle : (s.extract a s.size).size = s.size - a := by rw [ByteArray.size_extract]; omega
  have q1 := cut_l s a (by omega)
  have q2 := cut_lh (s.extract a s.size) j k hj (by rw [hle]; omega)
  have g1 : (0 : Int) ≤ (a : Int) := by omega
  have g2 : (a : Int) ≤ (s.size : Int) := by omega
  have g3 : a ≤ s.size := by omega
  have e1 : (a : Int) + (k : Int) = ((a + k : Nat) : Int) := by omega
  have e2 : wrap64 ((a + k : Nat) : Int) = ((a + k : Nat) : Int) := IntWalk.wrap64_in _ (by omega)
  have HK := Lib.hid hk
  have ha2 : (a : Int) ≤ 2000 := by omega
  have hw2 : (k : Int) ≤ 2000 := by omega
  clear hle hk ha hs
  generalize s.extract a s.size = L at *
  generalize L.extract j k = X at *
  generalize hAW : a + k = aw at *
  clear hAW
  go_enter Tryz.func25, Tryz.ntmps25
  go_wp2_with fail
  go_quiet (fail)
  go_wp2_with fail
  refine (HC.out _).mono ?_
  rintro e w1 ⟨rfl, hb⟩
  have hk1 := Blk.call (blk_dn HK.out nq) hb
  have HK1 := Lib.hid hk1
  have HB := Lib.hid ((bdn (Below.refl g w) nq).trans (hb.mono (Nat.le_of_lt hl)))
  have HKP : Hid (Keeps g w w1) := Lib.hid (fun f t cs hf hx => (blk_dn hx nq).call hb)
  obtain ⟨d0, d1', d2, h1, h2, hl2⟩ := cell3 hk1
  clear hk1 hb c0 c1 c2 f1 f2 hl
  go_wp2_with fail
  go_ret
  exact ⟨rfl, blk_set1 HK1.out _, HB.out.setCell (p := ⟨g, 1, none⟩) (Nat.le_refl _) _, fun f t cs hf hx => Blk.far (HKP.out f t cs hf hx) hf _⟩
set_option maxHeartbeats 1000000 in
theorem fld29_bad (g a : Nat) (s : ByteArray) (E : Int) (p1 : Addr) (ha : a ≤ s.size) (hs : s.size ≤ 2000) (hE : E ≠ 0) (w : World) (hk : Blk w g 42 (rd s a 0))
    (HC : Hid (∀ m, Calls Tryz.prog 29 #[.string (s.extract a s.size), .pointer (some p1)] (w.drewN m) fun e w' => e = .returned (.tuple #[.int .i64 0, .int .i64 0, .int .i64 E]) ∧ Below (w.drewN m).heap.size (w.drewN m) w')) :
    Calls Tryz.prog 25 #[.pointer (some ⟨g, 0, none⟩), .func (Fn.func 29) #[] #[.pointer (some p1)]] w fun e w' => e = .returned (.string ⟨#[]⟩) ∧ Blk w' g 42 (rd s a E) ∧ Below g w w' ∧ Keeps g w w' := by
  obtain ⟨c0, c1, c2, f1, f2, hl⟩ := cell3 hk
  have q1 := cut_l s a (by omega)
  have g1 : (0 : Int) ≤ (a : Int) := by omega
  have g2 : (a : Int) ≤ (s.size : Int) := by omega
  have g3 : a ≤ s.size := by omega
  have HK := Lib.hid hk
  have hE1 : (E == 0) = false := by rw [beq_eq_false_iff_ne]; exact hE
  have hE2 : (E != 0) = true := by rw [bne_iff_ne]; exact hE
  have ha2 : (a : Int) ≤ 2000 := by omega
  clear hk ha hs hE
  generalize s.extract a s.size = L at *
  go_enter Tryz.func25, Tryz.ntmps25
  go_wp2_with fail
  go_quiet (fail)
  go_wp2_with fail
  refine (HC.out _).mono ?_
  rintro e w1 ⟨rfl, hb⟩
  have hk1 := Blk.call (blk_dn HK.out nq) hb
  have HK1 := Lib.hid hk1
  have HB := Lib.hid ((bdn (Below.refl g w) nq).trans (hb.mono (Nat.le_of_lt hl)))
  have HKP : Hid (Keeps g w w1) := Lib.hid (fun f t cs hf hx => (blk_dn hx nq).call hb)
  obtain ⟨d0, d1', d2, h1, h2, hl2⟩ := cell3 hk1
  clear hk1 hb c0 c1 c2 f1 f2 hl
  go_wp2_with fail
  go_ret
  exact ⟨rfl, blk_set2 HK1.out E, HB.out.setCell (p := ⟨g, 2, none⟩) (Nat.le_refl _) _, fun f t cs hf hx => Blk.far (HKP.out f t cs hf hx) hf _⟩
set_option maxHeartbeats 1000000 in
theorem fld34_ok (g a k j : Nat) (s : ByteArray) (p1 : Addr) (ha : a + k ≤ s.size) (hj : j ≤ k) (hs : s.size ≤ 2000) (w : World) (hk : Blk w g 42 (rd s a 0))
    (HC : Hid (∀ m, Calls Tryz.prog 34 #[.string (s.extract a s.size), .pointer (some p1)] (w.drewN m) fun e w' => e = .returned (.tuple #[.int .i64 k, .int .i64 j, .int .i64 0]) ∧ Below (w.drewN m).heap.size (w.drewN m) w')) :
    Calls Tryz.prog 25 #[.pointer (some ⟨g, 0, none⟩), .func (Fn.func 34) #[] #[.pointer (some p1)]] w fun e w' => e = .returned (.string ((s.extract a s.size).extract j k)) ∧ Blk w' g 42 (rd s ((a + k : Nat) : Int) 0) ∧ Below g w w' ∧ Keeps g w w' := by
  obtain ⟨c0, c1, c2, f1, f2, hl⟩ := cell3 hk
  have hle : (s.extract a s.size).size = s.size - a := by rw [ByteArray.size_extract]; omega
  have q1 := cut_l s a (by omega)
  have q2 := cut_lh (s.extract a s.size) j k hj (by rw [hle]; omega)
  have g1 : (0 : Int) ≤ (a : Int) := by omega
  have g2 : (a : Int) ≤ (s.size : Int) := by omega
  have g3 : a ≤ s.size := by omega
  have e1 : (a : Int) + (k : Int) = ((a + k : Nat) : Int) := by omega
  have e2 : wrap64 ((a + k : Nat) : Int) = ((a + k : Nat) : Int) := IntWalk.wrap64_in _ (by omega)
  have HK := Lib.hid hk
  have ha2 : (a : Int) ≤ 2000 := by omega
  have hw2 : (k : Int) ≤ 2000 := by omega
  clear hle hk ha hs
  generalize s.extract a s.size = L at *
  generalize L.extract j k = X at *
  generalize hAW : a + k = aw at *
  clear hAW
  go_enter Tryz.func25, Tryz.ntmps25
  go_wp2_with fail
  go_quiet (fail)
  go_wp2_with fail
  refine (HC.out _).mono ?_
  rintro e w1 ⟨rfl, hb⟩
  have hk1 := Blk.call (blk_dn HK.out nq) hb
  have HK1 := Lib.hid hk1
  have HB := Lib.hid ((bdn (Below.refl g w) nq).trans (hb.mono (Nat.le_of_lt hl)))
  have HKP : Hid (Keeps g w w1) := Lib.hid (fun f t cs hf hx => (blk_dn hx nq).call hb)
  obtain ⟨d0, d1', d2, h1, h2, hl2⟩ := cell3 hk1
  clear hk1 hb c0 c1 c2 f1 f2 hl
  go_wp2_with fail
  go_ret
  exact ⟨rfl, blk_set1 HK1.out _, HB.out.setCell (p := ⟨g, 1, none⟩) (Nat.le_refl _) _, fun f t cs hf hx => Blk.far (HKP.out f t cs hf hx) hf _⟩
set_option maxHeartbeats 1000000 in
theorem fld34_bad (g a : Nat) (s : ByteArray) (E : Int) (p1 : Addr) (ha : a ≤ s.size) (hs : s.size ≤ 2000) (hE : E ≠ 0) (w : World) (hk : Blk w g 42 (rd s a 0))
    (HC : Hid (∀ m, Calls Tryz.prog 34 #[.string (s.extract a s.size), .pointer (some p1)] (w.drewN m) fun e w' => e = .returned (.tuple #[.int .i64 0, .int .i64 0, .int .i64 E]) ∧ Below (w.drewN m).heap.size (w.drewN m) w')) :
    Calls Tryz.prog 25 #[.pointer (some ⟨g, 0, none⟩), .func (Fn.func 34) #[] #[.pointer (some p1)]] w fun e w' => e = .returned (.string ⟨#[]⟩) ∧ Blk w' g 42 (rd s a E) ∧ Below g w w' ∧ Keeps g w w' := by
  obtain ⟨c0, c1, c2, f1, f2, hl⟩ := cell3 hk
  have q1 := cut_l s a (by omega)
  have g1 : (0 : Int) ≤ (a : Int) := by omega
  have g2 : (a : Int) ≤ (s.size : Int) := by omega
  have g3 : a ≤ s.size := by omega
  have HK := Lib.hid hk
  have hE1 : (E == 0) = false := by rw [beq_eq_false_iff_ne]; exact hE
  have hE2 : (E != 0) = true := by rw [bne_iff_ne]; exact hE
  have ha2 : (a : Int) ≤ 2000 := by omega
  clear hk ha hs hE
  generalize s.extract a s.size = L at *
  go_enter Tryz.func25, Tryz.ntmps25
  go_wp2_with fail
  go_quiet (fail)
  go_wp2_with fail
  refine (HC.out _).mono ?_
  rintro e w1 ⟨rfl, hb⟩
  have hk1 := Blk.call (blk_dn HK.out nq) hb
  have HK1 := Lib.hid hk1
  have HB := Lib.hid ((bdn (Below.refl g w) nq).trans (hb.mono (Nat.le_of_lt hl)))
  have HKP : Hid (Keeps g w w1) := Lib.hid (fun f t cs hf hx => (blk_dn hx nq).call hb)
  obtain ⟨d0, d1', d2, h1, h2, hl2⟩ := cell3 hk1
  clear hk1 hb c0 c1 c2 f1 f2 hl
  go_wp2_with fail
  go_ret
  exact ⟨rfl, blk_set2 HK1.out E, HB.out.setCell (p := ⟨g, 2, none⟩) (Nat.le_refl _) _, fun f t cs hf hx => Blk.far (HKP.out f t cs hf hx) hf _⟩
set_option maxHeartbeats 1000000 in
theorem fld32_ok (g a k j : Nat) (s : ByteArray) (p1 p2 : Addr) (ha : a + k ≤ s.size) (hj : j ≤ k) (hs : s.size ≤ 2000) (w : World) (hk : Blk w g 42 (rd s a 0))
    (HC : Hid (∀ m, Calls Tryz.prog 32 #[.string (s.extract a s.size), .pointer (some p1), .pointer (some p2)] (w.drewN m) fun e w' => e = .returned (.tuple #[.int .i64 k, .int .i64 j, .int .i64 0]) ∧ Below (w.drewN m).heap.size (w.drewN m) w')) :
    Calls Tryz.prog 25 #[.pointer (some ⟨g, 0, none⟩), .func (Fn.func 32) #[] #[.pointer (some p1), .pointer (some p2)]] w fun e w' => e = .returned (.string ((s.extract a s.size).extract j k)) ∧ Blk w' g 42 (rd s ((a + k : Nat) : Int) 0) ∧ Below g w w' ∧ Keeps g w w' := by
  obtain ⟨c0, c1, c2, f1, f2, hl⟩ := cell3 hk
  have hle : (s.extract a s.size).size = s.size - a := by rw [ByteArray.size_extract]; omega
  have q1 := cut_l s a (by omega)
  have q2 := cut_lh (s.extract a s.size) j k hj (by rw [hle]; omega)
  have g1 : (0 : Int) ≤ (a : Int) := by omega
  have g2 : (a : Int) ≤ (s.size : Int) := by omega
  have g3 : a ≤ s.size := by omega
  have e1 : (a : Int) + (k : Int) = ((a + k : Nat) : Int) := by omega
  have e2 : wrap64 ((a + k : Nat) : Int) = ((a + k : Nat) : Int) := IntWalk.wrap64_in _ (by omega)
  have HK := Lib.hid hk
  have ha2 : (a : Int) ≤ 2000 := by omega
  have hw2 : (k : Int) ≤ 2000 := by omega
  clear hle hk ha hs
  generalize s.extract a s.size = L at *
  generalize L.extract j k = X at *
  generalize hAW : a + k = aw at *
  clear hAW
  go_enter Tryz.func25, Tryz.ntmps25
  go_wp2_with fail
  go_quiet (fail)
  go_wp2_with fail
  refine (HC.out _).mono ?_
  rintro e w1 ⟨rfl, hb⟩
  have hk1 := Blk.call (blk_dn HK.out nq) hb
  have HK1 := Lib.hid hk1
  have HB := Lib.hid ((bdn (Below.refl g w) nq).trans (hb.mono (Nat.le_of_lt hl)))
  have HKP : Hid (Keeps g w w1) := Lib.hid (fun f t cs hf hx => (blk_dn hx nq).call hb)
  obtain ⟨d0, d1', d2, h1, h2, hl2⟩ := cell3 hk1
  clear hk1 hb c0 c1 c2 f1 f2 hl
  go_wp2_with fail
  go_ret
  exact ⟨rfl, blk_set1 HK1.out _, HB.out.setCell (p := ⟨g, 1, none⟩) (Nat.le_refl _) _, fun f t cs hf hx => Blk.far (HKP.out f t cs hf hx) hf _⟩
set_option maxHeartbeats 1000000 in
theorem fld32_bad (g a : Nat) (s : ByteArray) (E : Int) (p1 p2 : Addr) (ha : a ≤ s.size) (hs : s.size ≤ 2000) (hE : E ≠ 0) (w : World) (hk : Blk w g 42 (rd s a 0))
    (HC : Hid (∀ m, Calls Tryz.prog 32 #[.string (s.extract a s.size), .pointer (some p1), .pointer (some p2)] (w.drewN m) fun e w' => e = .returned (.tuple #[.int .i64 0, .int .i64 0, .int .i64 E]) ∧ Below (w.drewN m).heap.size (w.drewN m) w')) :
    Calls Tryz.prog 25 #[.pointer (some ⟨g, 0, none⟩), .func (Fn.func 32) #[] #[.pointer (some p1), .pointer (some p2)]] w fun e w' => e = .returned (.string ⟨#[]⟩) ∧ Blk w' g 42 (rd s a E) ∧ Below g w w' ∧ Keeps g w w' := by
  obtain ⟨c0, c1, c2, f1, f2, hl⟩ := cell3 hk
  have q1 := cut_l s a (by omega)
  have g1 : (0 : Int) ≤ (a : Int) := by omega
  have g2 : (a : Int) ≤ (s.size : Int) := by omega
  have g3 : a ≤ s.size := by omega
  have HK := Lib.hid hk
  have hE1 : (E == 0) = false := by rw [beq_eq_false_iff_ne]; exact hE
  have hE2 : (E != 0) = true := by rw [bne_iff_ne]; exact hE
  have ha2 : (a : Int) ≤ 2000 := by omega
  clear hk ha hs hE
  generalize s.extract a s.size = L at *
  go_enter Tryz.func25, Tryz.ntmps25
  go_wp2_with fail
  go_quiet (fail)
  go_wp2_with fail
  refine (HC.out _).mono ?_
  rintro e w1 ⟨rfl, hb⟩
  have hk1 := Blk.call (blk_dn HK.out nq) hb
  have HK1 := Lib.hid hk1
  have HB := Lib.hid ((bdn (Below.refl g w) nq).trans (hb.mono (Nat.le_of_lt hl)))
  have HKP : Hid (Keeps g w w1) := Lib.hid (fun f t cs hf hx => (blk_dn hx nq).call hb)
  obtain ⟨d0, d1', d2, h1, h2, hl2⟩ := cell3 hk1
  clear hk1 hb c0 c1 c2 f1 f2 hl
  go_wp2_with fail
  go_ret
  exact ⟨rfl, blk_set2 HK1.out E, HB.out.setCell (p := ⟨g, 2, none⟩) (Nat.le_refl _) _, fun f t cs hf hx => Blk.far (HKP.out f t cs hf hx) hf _⟩
end Go.Proofs.YtknipjjmpdnomaaGreatDoor
