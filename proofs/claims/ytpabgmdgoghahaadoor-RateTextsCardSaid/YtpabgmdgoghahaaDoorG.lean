/- Cross of both. -/
import Derived.Test.YtpabgmdgoghahaaDoorF
set_option linter.unusedVariables false
set_option linter.unusedSimpArgs false
namespace Go.Proofs.YtpabgmdgoghahaaDoor
open Go.Sort Go.ChangeShapes Go.WideShapes Go.ChangeAt Go.RowKit
theorem rprod_ok {an ad bn bd x1 x2 y1 y2 : Int} {A B C D : Nat} (w : World) (h : Parts an ad bn bd x1 x2 y1 y2 A B C D)
    (k1 : 1 ≤ an ∧ an ≤ 1099511627776) (k2 : 1 ≤ ad ∧ ad ≤ 1099511627776) (k3 : 1 ≤ bn ∧ bn ≤ 1099511627776) (k4 : 1 ≤ bd ∧ bd ≤ 1099511627776) (hok : prodOk A B C D = true) :
    Calls Tryd.prog 39 #[.int .i64 an, .int .i64 ad, .int .i64 bn, .int .i64 bd] w fun e w' => e = .returned (.tuple #[.int .i64 ((A * C : Nat) : Int), .int .i64 ((B * D : Nat) : Int), .bool true]) ∧ Below w.heap.size w w' := by
  have := rprod_any an ad bn bd x1 x2 y1 y2 A B C D w h k1 k2 k3 k4
  rw [hok, if_pos rfl] at this
  exact this
theorem rprod_no {an ad bn bd x1 x2 y1 y2 : Int} {A B C D : Nat} (w : World) (h : Parts an ad bn bd x1 x2 y1 y2 A B C D)
    (k1 : 1 ≤ an ∧ an ≤ 1099511627776) (k2 : 1 ≤ ad ∧ ad ≤ 1099511627776) (k3 : 1 ≤ bn ∧ bn ≤ 1099511627776) (k4 : 1 ≤ bd ∧ bd ≤ 1099511627776) (hok : prodOk A B C D = false) :
    Calls Tryd.prog 39 #[.int .i64 an, .int .i64 ad, .int .i64 bn, .int .i64 bd] w fun e w' => e = .returned (.tuple #[.int .i64 0, .int .i64 0, .bool false]) ∧ Below w.heap.size w w' := by
  have := rprod_any an ad bn bd x1 x2 y1 y2 A B C D w h k1 k2 k3 k4
  rw [hok, if_neg (by simp)] at this
  exact this
set_option maxHeartbeats 1000000 in
theorem cross_1 (f1 t1 f2 t2 : ByteArray) (an ad bn bd : Int) (w : World) (hf1 : f1.size ≤ maxLen) (ht1 : t1.size ≤ maxLen) (hf2 : f2.size ≤ maxLen) (ht2 : t2.size ≤ maxLen) (E : Int) (h1 : chkR f1 t1 an ad = E) (h0 : E ≠ 0) :
    Calls Tryd.prog 21 #[rt f1 t1 an ad, rt f2 t2 bn bd] w fun e w' => e = .returned (.tuple #[rt0, .int .i64 E]) ∧ Below w.heap.size w w' := by
  have hc1 := fun w => check_any f1 t1 an ad w hf1 ht1
  rw [h1] at hc1
  have HC1 := Lib.hid hc1
  have hE : (E != 0) = true := by rw [bne_iff_ne]; exact h0
  unfold rt0 rt at *
  clear hc1 h1 h0 hf1 ht1 hf2 ht2
  go_enter Tryd.func21, Tryd.ntmps21
  go_wp2_with fail
  refine (HC1.out _).mono ?_
  rintro e w1 ⟨rfl, hb⟩
  obtain ⟨d1, o1, rfl⟩ := regrow_of hb
  clear hb
  go_wp2_with fail
  exact bodyPost_ret (v := .tuple #[.agg #[.string ⟨#[]⟩, .string ⟨#[]⟩, .int .i64 0, .int .i64 0], .int .i64 E]) (by simp [results, Tryd.results21, go_sem]) rfl ⟨rfl, bre (al (al (al (Below.refl _ _)))) _ _⟩
set_option maxHeartbeats 1000000 in
theorem cross_2 (f1 t1 f2 t2 : ByteArray) (an ad bn bd : Int) (w : World) (hf1 : f1.size ≤ maxLen) (ht1 : t1.size ≤ maxLen) (hf2 : f2.size ≤ maxLen) (ht2 : t2.size ≤ maxLen) (E : Int) (h1 : chkR f1 t1 an ad = 0) (h2 : chkR f2 t2 bn bd = E) (h0 : E ≠ 0) :
    Calls Tryd.prog 21 #[rt f1 t1 an ad, rt f2 t2 bn bd] w fun e w' => e = .returned (.tuple #[rt0, .int .i64 E]) ∧ Below w.heap.size w w' := by
  have hc1 := fun w => check_any f1 t1 an ad w hf1 ht1
  rw [h1] at hc1
  have HC1 := Lib.hid hc1
  have hc2 := fun w => check_any f2 t2 bn bd w hf2 ht2
  rw [h2] at hc2
  have HC2 := Lib.hid hc2
  have hE : (E != 0) = true := by rw [bne_iff_ne]; exact h0
  unfold rt0 rt at *
  clear hc1 h1 hc2 h2 h0 hf1 ht1 hf2 ht2
  go_enter Tryd.func21, Tryd.ntmps21
  go_wp2_with fail
  refine (HC1.out _).mono ?_
  rintro e w1 ⟨rfl, hb⟩
  obtain ⟨d1, o1, rfl⟩ := regrow_of hb
  clear hb
  go_wp2_with fail
  refine (HC2.out _).mono ?_
  rintro e w2 ⟨rfl, hb⟩
  obtain ⟨d2, o2, rfl⟩ := regrow_of hb
  clear hb
  go_wp2_with fail
  exact bodyPost_ret (v := .tuple #[.agg #[.string ⟨#[]⟩, .string ⟨#[]⟩, .int .i64 0, .int .i64 0], .int .i64 E]) (by simp [results, Tryd.results21, go_sem]) rfl ⟨rfl, bre (al (al (al (Below.refl _ _)))) _ _⟩
set_option maxHeartbeats 1000000 in
theorem cross_3 (f1 t1 f2 t2 : ByteArray) (an ad bn bd : Int) (w : World) (hf1 : f1.size ≤ maxLen) (ht1 : t1.size ≤ maxLen) (hf2 : f2.size ≤ maxLen) (ht2 : t2.size ≤ maxLen) (h1 : chkR f1 t1 an ad = 0) (h2 : chkR f2 t2 bn bd = 0) (hs : (t1.toList == f2.toList) = false ∨ (f1.toList == t2.toList) = true) :
    Calls Tryd.prog 21 #[rt f1 t1 an ad, rt f2 t2 bn bd] w fun e w' => e = .returned (.tuple #[rt0, .int .i64 11]) ∧ Below w.heap.size w w' := by
  have hc1 := fun w => check_any f1 t1 an ad w hf1 ht1
  rw [h1] at hc1
  have HC1 := Lib.hid hc1
  have hc2 := fun w => check_any f2 t2 bn bd w hf2 ht2
  rw [h2] at hc2
  have HC2 := Lib.hid hc2
  unfold rt0 rt at *
  clear hc1 h1 hc2 h2 hf1 ht1 hf2 ht2
  cases hs1 : (t1.toList == f2.toList)
  · clear hs
    go_enter Tryd.func21, Tryd.ntmps21
    go_wp2_with fail
    refine (HC1.out _).mono ?_
    rintro e w1 ⟨rfl, hb⟩
    obtain ⟨d1, o1, rfl⟩ := regrow_of hb
    clear hb
    go_wp2_with fail
    refine (HC2.out _).mono ?_
    rintro e w2 ⟨rfl, hb⟩
    obtain ⟨d2, o2, rfl⟩ := regrow_of hb
    clear hb
    go_wp2_with fail
    exact bodyPost_ret (v := .tuple #[.agg #[.string ⟨#[]⟩, .string ⟨#[]⟩, .int .i64 0, .int .i64 0], .int .i64 11]) (by simp [results, Tryd.results21, go_sem]) rfl ⟨rfl, bre (al (al (al (Below.refl _ _)))) _ _⟩
  · have hs2 : (f1.toList == t2.toList) = true := by rcases hs with hs | hs; rw [hs1] at hs; cases hs; exact hs
    clear hs
    go_enter Tryd.func21, Tryd.ntmps21
    go_wp2_with fail
    refine (HC1.out _).mono ?_
    rintro e w1 ⟨rfl, hb⟩
    obtain ⟨d1, o1, rfl⟩ := regrow_of hb
    clear hb
    go_wp2_with fail
    refine (HC2.out _).mono ?_
    rintro e w2 ⟨rfl, hb⟩
    obtain ⟨d2, o2, rfl⟩ := regrow_of hb
    clear hb
    go_wp2_with fail
    exact bodyPost_ret (v := .tuple #[.agg #[.string ⟨#[]⟩, .string ⟨#[]⟩, .int .i64 0, .int .i64 0], .int .i64 11]) (by simp [results, Tryd.results21, go_sem]) rfl ⟨rfl, bre (al (al (al (Below.refl _ _)))) _ _⟩
set_option maxHeartbeats 1000000 in
theorem cross_4 (f1 t1 f2 t2 : ByteArray) (an ad bn bd : Int) (w : World) (hf1 : f1.size ≤ maxLen) (ht1 : t1.size ≤ maxLen) (hf2 : f2.size ≤ maxLen) (ht2 : t2.size ≤ maxLen) {x1 x2 y1 y2 : Int} {A B C D : Nat} (h1 : chkR f1 t1 an ad = 0) (h2 : chkR f2 t2 bn bd = 0) (hs1 : (t1.toList == f2.toList) = true) (hs2 : (f1.toList == t2.toList) = false)
    (hp : Parts an ad bn bd x1 x2 y1 y2 A B C D) (hok : prodOk A B C D = false) :
    Calls Tryd.prog 21 #[rt f1 t1 an ad, rt f2 t2 bn bd] w fun e w' => e = .returned (.tuple #[rt0, .int .i64 4]) ∧ Below w.heap.size w w' := by
  have hc1 := fun w => check_any f1 t1 an ad w hf1 ht1
  rw [h1] at hc1
  have HC1 := Lib.hid hc1
  have hc2 := fun w => check_any f2 t2 bn bd w hf2 ht2
  rw [h2] at hc2
  have HC2 := Lib.hid hc2
  obtain ⟨-, k1, k2⟩ := chk_zero h1
  obtain ⟨-, k3, k4⟩ := chk_zero h2
  have HP : Hid (∀ w, _) := Lib.hid (fun w => prod_no f1 t1 f2 t2 an ad bn bd x1 x2 y1 y2 A B C D w hp k1 k2 k3 k4 hok)
  unfold rt0 rt at *
  clear hc1 h1 hc2 h2 hf1 ht1 hf2 ht2 k1 k2 k3 k4 hp hok
  go_enter Tryd.func21, Tryd.ntmps21
  go_wp2_with fail
  refine (HC1.out _).mono ?_
  rintro e w1 ⟨rfl, hb⟩
  obtain ⟨d1, o1, rfl⟩ := regrow_of hb
  clear hb
  go_wp2_with fail
  refine (HC2.out _).mono ?_
  rintro e w2 ⟨rfl, hb⟩
  obtain ⟨d2, o2, rfl⟩ := regrow_of hb
  clear hb
  go_wp2_with fail
  refine (HP.out _).mono ?_
  rintro e w3 ⟨rfl, hb⟩
  obtain ⟨d3, o3, rfl⟩ := regrow_of hb
  clear hb
  go_wp2_with fail
  exact bodyPost_ret (v := .tuple #[.agg #[.string ⟨#[]⟩, .string ⟨#[]⟩, .int .i64 0, .int .i64 0], .int .i64 4]) (by simp [results, Tryd.results21, go_sem]) rfl ⟨rfl, bre (al (al (al (Below.refl _ _)))) _ _⟩
set_option maxHeartbeats 1000000 in
theorem cross_5 (f1 t1 f2 t2 : ByteArray) (an ad bn bd : Int) (w : World) (hf1 : f1.size ≤ maxLen) (ht1 : t1.size ≤ maxLen) (hf2 : f2.size ≤ maxLen) (ht2 : t2.size ≤ maxLen) {x1 x2 y1 y2 : Int} {A B C D : Nat} (h1 : chkR f1 t1 an ad = 0) (h2 : chkR f2 t2 bn bd = 0) (hs1 : (t1.toList == f2.toList) = true) (hs2 : (f1.toList == t2.toList) = false)
    (hp : Parts an ad bn bd x1 x2 y1 y2 A B C D) (hok : prodOk A B C D = true) :
    Calls Tryd.prog 21 #[rt f1 t1 an ad, rt f2 t2 bn bd] w fun e w' => e = .returned (.tuple #[rt f1 t2 ((A * C : Nat) : Int) ((B * D : Nat) : Int), .int .i64 0]) ∧ Below w.heap.size w w' := by
  have hc1 := fun w => check_any f1 t1 an ad w hf1 ht1
  rw [h1] at hc1
  have HC1 := Lib.hid hc1
  have hc2 := fun w => check_any f2 t2 bn bd w hf2 ht2
  rw [h2] at hc2
  have HC2 := Lib.hid hc2
  obtain ⟨-, k1, k2⟩ := chk_zero h1
  obtain ⟨-, k3, k4⟩ := chk_zero h2
  have HP : Hid (∀ w, _) := Lib.hid (fun w => prod_ok f1 t1 f2 t2 an ad bn bd x1 x2 y1 y2 A B C D w hp k1 k2 k3 k4 hok)
  generalize A * C = P at *
  generalize B * D = Q at *
  unfold rt at *
  clear hc1 h1 hc2 h2 hf1 ht1 hf2 ht2 k1 k2 k3 k4 hp hok
  go_enter Tryd.func21, Tryd.ntmps21
  go_wp2_with fail
  refine (HC1.out _).mono ?_
  rintro e w1 ⟨rfl, hb⟩
  obtain ⟨d1, o1, rfl⟩ := regrow_of hb
  clear hb
  go_wp2_with fail
  refine (HC2.out _).mono ?_
  rintro e w2 ⟨rfl, hb⟩
  obtain ⟨d2, o2, rfl⟩ := regrow_of hb
  clear hb
  go_wp2_with fail
  refine (HP.out _).mono ?_
  rintro e w3 ⟨rfl, hb⟩
  obtain ⟨d3, o3, rfl⟩ := regrow_of hb
  clear hb
  go_wp2_with fail
  exact bodyPost_ret (v := .tuple #[.agg #[.string f1, .string t2, .int .i64 (P : Nat), .int .i64 (Q : Nat)], .int .i64 0]) (by simp [results, Tryd.results21, go_sem]) rfl ⟨rfl, bre (al (al (al (Below.refl _ _)))) _ _⟩
set_option maxHeartbeats 1000000 in
theorem rcross_1 (f1 t1 f2 t2 : ByteArray) (an ad bn bd : Int) (w : World) (hf1 : f1.size ≤ maxLen) (ht1 : t1.size ≤ maxLen) (hf2 : f2.size ≤ maxLen) (ht2 : t2.size ≤ maxLen) (E : Int) (h1 : chkR f1 t1 an ad = E) (h0 : E ≠ 0) :
    Calls Tryd.prog 22 #[rt f1 t1 an ad, rt f2 t2 bn bd] w fun e w' => e = .returned (.tuple #[rt0, .int .i64 E]) ∧ Below w.heap.size w w' := by
  have hc1 := fun w => rcheck_any f1 t1 an ad w hf1 ht1
  rw [h1] at hc1
  have HC1 := Lib.hid hc1
  have hE : (E != 0) = true := by rw [bne_iff_ne]; exact h0
  unfold rt0 rt at *
  clear hc1 h1 h0 hf1 ht1 hf2 ht2
  go_enter Tryd.func22, Tryd.ntmps22
  go_wp2_with fail
  refine (HC1.out _).mono ?_
  rintro e w1 ⟨rfl, hb⟩
  obtain ⟨d1, o1, rfl⟩ := regrow_of hb
  clear hb
  go_wp2_with fail
  exact bodyPost_ret (v := .tuple #[.agg #[.string ⟨#[]⟩, .string ⟨#[]⟩, .int .i64 0, .int .i64 0], .int .i64 E]) (by simp [results, Tryd.results22, go_sem]) rfl ⟨rfl, bre (al (al (al (Below.refl _ _)))) _ _⟩
set_option maxHeartbeats 1000000 in
theorem rcross_2 (f1 t1 f2 t2 : ByteArray) (an ad bn bd : Int) (w : World) (hf1 : f1.size ≤ maxLen) (ht1 : t1.size ≤ maxLen) (hf2 : f2.size ≤ maxLen) (ht2 : t2.size ≤ maxLen) (E : Int) (h1 : chkR f1 t1 an ad = 0) (h2 : chkR f2 t2 bn bd = E) (h0 : E ≠ 0) :
    Calls Tryd.prog 22 #[rt f1 t1 an ad, rt f2 t2 bn bd] w fun e w' => e = .returned (.tuple #[rt0, .int .i64 E]) ∧ Below w.heap.size w w' := by
  have hc1 := fun w => rcheck_any f1 t1 an ad w hf1 ht1
  rw [h1] at hc1
  have HC1 := Lib.hid hc1
  have hc2 := fun w => rcheck_any f2 t2 bn bd w hf2 ht2
  rw [h2] at hc2
  have HC2 := Lib.hid hc2
  have hE : (E != 0) = true := by rw [bne_iff_ne]; exact h0
  unfold rt0 rt at *
  clear hc1 h1 hc2 h2 h0 hf1 ht1 hf2 ht2
  go_enter Tryd.func22, Tryd.ntmps22
  go_wp2_with fail
  refine (HC1.out _).mono ?_
  rintro e w1 ⟨rfl, hb⟩
  obtain ⟨d1, o1, rfl⟩ := regrow_of hb
  clear hb
  go_wp2_with fail
  refine (HC2.out _).mono ?_
  rintro e w2 ⟨rfl, hb⟩
  obtain ⟨d2, o2, rfl⟩ := regrow_of hb
  clear hb
  go_wp2_with fail
  exact bodyPost_ret (v := .tuple #[.agg #[.string ⟨#[]⟩, .string ⟨#[]⟩, .int .i64 0, .int .i64 0], .int .i64 E]) (by simp [results, Tryd.results22, go_sem]) rfl ⟨rfl, bre (al (al (al (Below.refl _ _)))) _ _⟩
set_option maxHeartbeats 1000000 in
theorem rcross_3 (f1 t1 f2 t2 : ByteArray) (an ad bn bd : Int) (w : World) (hf1 : f1.size ≤ maxLen) (ht1 : t1.size ≤ maxLen) (hf2 : f2.size ≤ maxLen) (ht2 : t2.size ≤ maxLen) (h1 : chkR f1 t1 an ad = 0) (h2 : chkR f2 t2 bn bd = 0) (hs : (t1.toList == f2.toList) = false ∨ (f1.toList == t2.toList) = true) :
    Calls Tryd.prog 22 #[rt f1 t1 an ad, rt f2 t2 bn bd] w fun e w' => e = .returned (.tuple #[rt0, .int .i64 11]) ∧ Below w.heap.size w w' := by
  have hc1 := fun w => rcheck_any f1 t1 an ad w hf1 ht1
  rw [h1] at hc1
  have HC1 := Lib.hid hc1
  have hc2 := fun w => rcheck_any f2 t2 bn bd w hf2 ht2
  rw [h2] at hc2
  have HC2 := Lib.hid hc2
  unfold rt0 rt at *
  clear hc1 h1 hc2 h2 hf1 ht1 hf2 ht2
  cases hs1 : (t1.toList == f2.toList)
  · clear hs
    go_enter Tryd.func22, Tryd.ntmps22
    go_wp2_with fail
    refine (HC1.out _).mono ?_
    rintro e w1 ⟨rfl, hb⟩
    obtain ⟨d1, o1, rfl⟩ := regrow_of hb
    clear hb
    go_wp2_with fail
    refine (HC2.out _).mono ?_
    rintro e w2 ⟨rfl, hb⟩
    obtain ⟨d2, o2, rfl⟩ := regrow_of hb
    clear hb
    go_wp2_with fail
    exact bodyPost_ret (v := .tuple #[.agg #[.string ⟨#[]⟩, .string ⟨#[]⟩, .int .i64 0, .int .i64 0], .int .i64 11]) (by simp [results, Tryd.results22, go_sem]) rfl ⟨rfl, bre (al (al (al (Below.refl _ _)))) _ _⟩
  · have hs2 : (f1.toList == t2.toList) = true := by rcases hs with hs | hs; rw [hs1] at hs; cases hs; exact hs
    clear hs
    go_enter Tryd.func22, Tryd.ntmps22
    go_wp2_with fail
    refine (HC1.out _).mono ?_
    rintro e w1 ⟨rfl, hb⟩
    obtain ⟨d1, o1, rfl⟩ := regrow_of hb
    clear hb
    go_wp2_with fail
    refine (HC2.out _).mono ?_
    rintro e w2 ⟨rfl, hb⟩
    obtain ⟨d2, o2, rfl⟩ := regrow_of hb
    clear hb
    go_wp2_with fail
    exact bodyPost_ret (v := .tuple #[.agg #[.string ⟨#[]⟩, .string ⟨#[]⟩, .int .i64 0, .int .i64 0], .int .i64 11]) (by simp [results, Tryd.results22, go_sem]) rfl ⟨rfl, bre (al (al (al (Below.refl _ _)))) _ _⟩
set_option maxHeartbeats 1000000 in
theorem rcross_4 (f1 t1 f2 t2 : ByteArray) (an ad bn bd : Int) (w : World) (hf1 : f1.size ≤ maxLen) (ht1 : t1.size ≤ maxLen) (hf2 : f2.size ≤ maxLen) (ht2 : t2.size ≤ maxLen) {x1 x2 y1 y2 : Int} {A B C D : Nat} (h1 : chkR f1 t1 an ad = 0) (h2 : chkR f2 t2 bn bd = 0) (hs1 : (t1.toList == f2.toList) = true) (hs2 : (f1.toList == t2.toList) = false)
    (hp : Parts an ad bn bd x1 x2 y1 y2 A B C D) (hok : prodOk A B C D = false) :
    Calls Tryd.prog 22 #[rt f1 t1 an ad, rt f2 t2 bn bd] w fun e w' => e = .returned (.tuple #[rt0, .int .i64 4]) ∧ Below w.heap.size w w' := by
  have hc1 := fun w => rcheck_any f1 t1 an ad w hf1 ht1
  rw [h1] at hc1
  have HC1 := Lib.hid hc1
  have hc2 := fun w => rcheck_any f2 t2 bn bd w hf2 ht2
  rw [h2] at hc2
  have HC2 := Lib.hid hc2
  obtain ⟨-, k1, k2⟩ := chk_zero h1
  obtain ⟨-, k3, k4⟩ := chk_zero h2
  have HP : Hid (∀ w, _) := Lib.hid (fun w => rprod_no w hp k1 k2 k3 k4 hok)
  unfold rt0 rt at *
  clear hc1 h1 hc2 h2 hf1 ht1 hf2 ht2 k1 k2 k3 k4 hp hok
  go_enter Tryd.func22, Tryd.ntmps22
  go_wp2_with fail
  refine (HC1.out _).mono ?_
  rintro e w1 ⟨rfl, hb⟩
  obtain ⟨d1, o1, rfl⟩ := regrow_of hb
  clear hb
  go_wp2_with fail
  refine (HC2.out _).mono ?_
  rintro e w2 ⟨rfl, hb⟩
  obtain ⟨d2, o2, rfl⟩ := regrow_of hb
  clear hb
  go_wp2_with fail
  refine (HP.out _).mono ?_
  rintro e w3 ⟨rfl, hb⟩
  obtain ⟨d3, o3, rfl⟩ := regrow_of hb
  clear hb
  go_wp2_with fail
  exact bodyPost_ret (v := .tuple #[.agg #[.string ⟨#[]⟩, .string ⟨#[]⟩, .int .i64 0, .int .i64 0], .int .i64 4]) (by simp [results, Tryd.results22, go_sem]) rfl ⟨rfl, bre (al (al (al (Below.refl _ _)))) _ _⟩
set_option maxHeartbeats 1000000 in
theorem rcross_5 (f1 t1 f2 t2 : ByteArray) (an ad bn bd : Int) (w : World) (hf1 : f1.size ≤ maxLen) (ht1 : t1.size ≤ maxLen) (hf2 : f2.size ≤ maxLen) (ht2 : t2.size ≤ maxLen) {x1 x2 y1 y2 : Int} {A B C D : Nat} (h1 : chkR f1 t1 an ad = 0) (h2 : chkR f2 t2 bn bd = 0) (hs1 : (t1.toList == f2.toList) = true) (hs2 : (f1.toList == t2.toList) = false)
    (hp : Parts an ad bn bd x1 x2 y1 y2 A B C D) (hok : prodOk A B C D = true) :
    Calls Tryd.prog 22 #[rt f1 t1 an ad, rt f2 t2 bn bd] w fun e w' => e = .returned (.tuple #[rt f1 t2 ((A * C : Nat) : Int) ((B * D : Nat) : Int), .int .i64 0]) ∧ Below w.heap.size w w' := by
  have hc1 := fun w => rcheck_any f1 t1 an ad w hf1 ht1
  rw [h1] at hc1
  have HC1 := Lib.hid hc1
  have hc2 := fun w => rcheck_any f2 t2 bn bd w hf2 ht2
  rw [h2] at hc2
  have HC2 := Lib.hid hc2
  obtain ⟨-, k1, k2⟩ := chk_zero h1
  obtain ⟨-, k3, k4⟩ := chk_zero h2
  have HP : Hid (∀ w, _) := Lib.hid (fun w => rprod_ok w hp k1 k2 k3 k4 hok)
  generalize A * C = P at *
  generalize B * D = Q at *
  unfold rt at *
  clear hc1 h1 hc2 h2 hf1 ht1 hf2 ht2 k1 k2 k3 k4 hp hok
  go_enter Tryd.func22, Tryd.ntmps22
  go_wp2_with fail
  refine (HC1.out _).mono ?_
  rintro e w1 ⟨rfl, hb⟩
  obtain ⟨d1, o1, rfl⟩ := regrow_of hb
  clear hb
  go_wp2_with fail
  refine (HC2.out _).mono ?_
  rintro e w2 ⟨rfl, hb⟩
  obtain ⟨d2, o2, rfl⟩ := regrow_of hb
  clear hb
  go_wp2_with fail
  refine (HP.out _).mono ?_
  rintro e w3 ⟨rfl, hb⟩
  obtain ⟨d3, o3, rfl⟩ := regrow_of hb
  clear hb
  go_wp2_with fail
  exact bodyPost_ret (v := .tuple #[.agg #[.string f1, .string t2, .int .i64 (P : Nat), .int .i64 (Q : Nat)], .int .i64 0]) (by simp [results, Tryd.results22, go_sem]) rfl ⟨rfl, bre (al (al (al (Below.refl _ _)))) _ _⟩
end Go.Proofs.YtpabgmdgoghahaaDoor
