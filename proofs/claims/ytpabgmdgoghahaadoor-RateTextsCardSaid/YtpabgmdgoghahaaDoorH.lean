/- Markup of both. -/
import Derived.Test.YtpabgmdgoghahaaDoorG
set_option linter.unusedVariables false
set_option linter.unusedSimpArgs false
namespace Go.Proofs.YtpabgmdgoghahaaDoor
open Go.Sort Go.ChangeShapes Go.WideShapes Go.ChangeAt Go.RowKit
set_option maxHeartbeats 1000000 in
theorem mark_1 (f1 t1 : ByteArray) (an ad p : Int) (w : World) (hf1 : f1.size ≤ maxLen) (ht1 : t1.size ≤ maxLen) (E : Int) (h1 : chkR f1 t1 an ad = E) (h0 : E ≠ 0) :
    Calls Tryd.prog 23 #[rt f1 t1 an ad, .int .i64 p] w fun e w' => e = .returned (.tuple #[rt0, .int .i64 E]) ∧ Below w.heap.size w w' := by
  have hc1 := fun w => check_any f1 t1 an ad w hf1 ht1
  rw [h1] at hc1
  have HC1 := Lib.hid hc1
  have hE : (E != 0) = true := by rw [bne_iff_ne]; exact h0
  unfold rt0 rt at *
  clear hc1 h1 h0 hf1 ht1
  go_enter Tryd.func23, Tryd.ntmps23
  go_wp2_with fail
  refine (HC1.out _).mono ?_
  rintro e w1 ⟨rfl, hb⟩
  obtain ⟨d1, o1, rfl⟩ := regrow_of hb
  clear hb
  go_wp2_with fail
  exact bodyPost_ret (v := .tuple #[.agg #[.string ⟨#[]⟩, .string ⟨#[]⟩, .int .i64 0, .int .i64 0], .int .i64 E]) (by simp [results, Tryd.results23, go_sem]) rfl ⟨rfl, bre (al (al (Below.refl _ _))) _ _⟩
set_option maxHeartbeats 1000000 in
theorem mark_2 (f1 t1 : ByteArray) (an ad p : Int) (w : World) (hf1 : f1.size ≤ maxLen) (ht1 : t1.size ≤ maxLen) (h1 : chkR f1 t1 an ad = 0) (hp : p < -9999 ∨ 100000 < p) :
    Calls Tryd.prog 23 #[rt f1 t1 an ad, .int .i64 p] w fun e w' => e = .returned (.tuple #[rt0, .int .i64 4]) ∧ Below w.heap.size w w' := by
  have hc1 := fun w => check_any f1 t1 an ad w hf1 ht1
  rw [h1] at hc1
  have HC1 := Lib.hid hc1
  unfold rt0 rt at *
  clear hc1 h1 hf1 ht1
  by_cases g : p < -9999
  · have g2 : p ≤ -10000 := by omega
    clear hp
    go_enter Tryd.func23, Tryd.ntmps23
    go_wp2_with fail
    refine (HC1.out _).mono ?_
    rintro e w1 ⟨rfl, hb⟩
    obtain ⟨d1, o1, rfl⟩ := regrow_of hb
    clear hb
    go_wp2_with fail
    exact bodyPost_ret (v := .tuple #[.agg #[.string ⟨#[]⟩, .string ⟨#[]⟩, .int .i64 0, .int .i64 0], .int .i64 4]) (by simp [results, Tryd.results23, go_sem]) rfl ⟨rfl, bre (al (al (Below.refl _ _))) _ _⟩
  · have g2 : 100000 < p := by omega
    have g3 : ¬ p ≤ -10000 := by omega
    clear hp
    go_enter Tryd.func23, Tryd.ntmps23
    go_wp2_with fail
    refine (HC1.out _).mono ?_
    rintro e w1 ⟨rfl, hb⟩
    obtain ⟨d1, o1, rfl⟩ := regrow_of hb
    clear hb
    go_wp2_with fail
    exact bodyPost_ret (v := .tuple #[.agg #[.string ⟨#[]⟩, .string ⟨#[]⟩, .int .i64 0, .int .i64 0], .int .i64 4]) (by simp [results, Tryd.results23, go_sem]) rfl ⟨rfl, bre (al (al (Below.refl _ _))) _ _⟩
set_option maxHeartbeats 1000000 in
theorem mark_4 (f1 t1 : ByteArray) (an ad p : Int) (w : World) (hf1 : f1.size ≤ maxLen) (ht1 : t1.size ≤ maxLen) {x1 x2 y1 y2 : Int} {A B C D : Nat} (h1 : chkR f1 t1 an ad = 0) (g1 : -9999 ≤ p) (g2 : p ≤ 100000)
    (hp : Parts an ad (10000 + p) 10000 x1 x2 y1 y2 A B C D) (hok : prodOk A B C D = false) :
    Calls Tryd.prog 23 #[rt f1 t1 an ad, .int .i64 p] w fun e w' => e = .returned (.tuple #[rt0, .int .i64 4]) ∧ Below w.heap.size w w' := by
  have hc1 := fun w => check_any f1 t1 an ad w hf1 ht1
  rw [h1] at hc1
  have HC1 := Lib.hid hc1
  obtain ⟨-, k1, k2⟩ := chk_zero h1
  have k3 : 1 ≤ 10000 + p ∧ 10000 + p ≤ 1099511627776 := by omega
  have k4 : (1 : Int) ≤ 10000 ∧ (10000 : Int) ≤ 1099511627776 := by omega
  have HP : Hid (∀ w, _) := Lib.hid (fun w => prod_no f1 t1 ⟨#[]⟩ t1 an ad (10000 + p) 10000 x1 x2 y1 y2 A B C D w hp k1 k2 k3 k4 hok)
  unfold rt0 rt at *
  clear hc1 h1 hf1 ht1 k1 k2 k3 k4 hp hok
  have g3 : ¬ p ≤ -10000 := by omega
  go_enter Tryd.func23, Tryd.ntmps23
  go_wp2_with fail
  refine (HC1.out _).mono ?_
  rintro e w1 ⟨rfl, hb⟩
  obtain ⟨d1, o1, rfl⟩ := regrow_of hb
  clear hb
  go_wp2_with fail
  refine (HP.out _).mono ?_
  rintro e w3 ⟨rfl, hb⟩
  obtain ⟨d3, o3, rfl⟩ := regrow_of hb
  clear hb
  go_wp2_with fail
  exact bodyPost_ret (v := .tuple #[.agg #[.string ⟨#[]⟩, .string ⟨#[]⟩, .int .i64 0, .int .i64 0], .int .i64 4]) (by simp [results, Tryd.results23, go_sem]) rfl ⟨rfl, bre (al (al (Below.refl _ _))) _ _⟩
set_option maxHeartbeats 1000000 in
theorem mark_5 (f1 t1 : ByteArray) (an ad p : Int) (w : World) (hf1 : f1.size ≤ maxLen) (ht1 : t1.size ≤ maxLen) {x1 x2 y1 y2 : Int} {A B C D : Nat} (h1 : chkR f1 t1 an ad = 0) (g1 : -9999 ≤ p) (g2 : p ≤ 100000)
    (hp : Parts an ad (10000 + p) 10000 x1 x2 y1 y2 A B C D) (hok : prodOk A B C D = true) :
    Calls Tryd.prog 23 #[rt f1 t1 an ad, .int .i64 p] w fun e w' => e = .returned (.tuple #[rt f1 t1 ((A * C : Nat) : Int) ((B * D : Nat) : Int), .int .i64 0]) ∧ Below w.heap.size w w' := by
  have hc1 := fun w => check_any f1 t1 an ad w hf1 ht1
  rw [h1] at hc1
  have HC1 := Lib.hid hc1
  obtain ⟨-, k1, k2⟩ := chk_zero h1
  have k3 : 1 ≤ 10000 + p ∧ 10000 + p ≤ 1099511627776 := by omega
  have k4 : (1 : Int) ≤ 10000 ∧ (10000 : Int) ≤ 1099511627776 := by omega
  have HP : Hid (∀ w, _) := Lib.hid (fun w => prod_ok f1 t1 ⟨#[]⟩ t1 an ad (10000 + p) 10000 x1 x2 y1 y2 A B C D w hp k1 k2 k3 k4 hok)
  generalize A * C = P at *
  generalize B * D = Q at *
  unfold rt at *
  clear hc1 h1 hf1 ht1 k1 k2 k3 k4 hp hok
  have g3 : ¬ p ≤ -10000 := by omega
  go_enter Tryd.func23, Tryd.ntmps23
  go_wp2_with fail
  refine (HC1.out _).mono ?_
  rintro e w1 ⟨rfl, hb⟩
  obtain ⟨d1, o1, rfl⟩ := regrow_of hb
  clear hb
  go_wp2_with fail
  refine (HP.out _).mono ?_
  rintro e w3 ⟨rfl, hb⟩
  obtain ⟨d3, o3, rfl⟩ := regrow_of hb
  clear hb
  go_wp2_with fail
  exact bodyPost_ret (v := .tuple #[.agg #[.string f1, .string t1, .int .i64 (P : Nat), .int .i64 (Q : Nat)], .int .i64 0]) (by simp [results, Tryd.results23, go_sem]) rfl ⟨rfl, bre (al (al (Below.refl _ _))) _ _⟩
set_option maxHeartbeats 1000000 in
theorem rmark_1 (f1 t1 : ByteArray) (an ad p : Int) (w : World) (hf1 : f1.size ≤ maxLen) (ht1 : t1.size ≤ maxLen) (E : Int) (h1 : chkR f1 t1 an ad = E) (h0 : E ≠ 0) :
    Calls Tryd.prog 24 #[rt f1 t1 an ad, .int .i64 p] w fun e w' => e = .returned (.tuple #[rt0, .int .i64 E]) ∧ Below w.heap.size w w' := by
  have hc1 := fun w => rcheck_any f1 t1 an ad w hf1 ht1
  rw [h1] at hc1
  have HC1 := Lib.hid hc1
  have hE : (E != 0) = true := by rw [bne_iff_ne]; exact h0
  unfold rt0 rt at *
  clear hc1 h1 h0 hf1 ht1
  go_enter Tryd.func24, Tryd.ntmps24
  go_wp2_with fail
  refine (HC1.out _).mono ?_
  rintro e w1 ⟨rfl, hb⟩
  obtain ⟨d1, o1, rfl⟩ := regrow_of hb
  clear hb
  go_wp2_with fail
  exact bodyPost_ret (v := .tuple #[.agg #[.string ⟨#[]⟩, .string ⟨#[]⟩, .int .i64 0, .int .i64 0], .int .i64 E]) (by simp [results, Tryd.results24, go_sem]) rfl ⟨rfl, bre (al (al (Below.refl _ _))) _ _⟩
set_option maxHeartbeats 1000000 in
theorem rmark_2 (f1 t1 : ByteArray) (an ad p : Int) (w : World) (hf1 : f1.size ≤ maxLen) (ht1 : t1.size ≤ maxLen) (h1 : chkR f1 t1 an ad = 0) (hp : p < -9999 ∨ 100000 < p) :
    Calls Tryd.prog 24 #[rt f1 t1 an ad, .int .i64 p] w fun e w' => e = .returned (.tuple #[rt0, .int .i64 4]) ∧ Below w.heap.size w w' := by
  have hc1 := fun w => rcheck_any f1 t1 an ad w hf1 ht1
  rw [h1] at hc1
  have HC1 := Lib.hid hc1
  unfold rt0 rt at *
  clear hc1 h1 hf1 ht1
  by_cases g : p < -9999
  · have g2 : p ≤ -10000 := by omega
    clear hp
    go_enter Tryd.func24, Tryd.ntmps24
    go_wp2_with fail
    refine (HC1.out _).mono ?_
    rintro e w1 ⟨rfl, hb⟩
    obtain ⟨d1, o1, rfl⟩ := regrow_of hb
    clear hb
    go_wp2_with fail
    exact bodyPost_ret (v := .tuple #[.agg #[.string ⟨#[]⟩, .string ⟨#[]⟩, .int .i64 0, .int .i64 0], .int .i64 4]) (by simp [results, Tryd.results24, go_sem]) rfl ⟨rfl, bre (al (al (Below.refl _ _))) _ _⟩
  · have g2 : 100000 < p := by omega
    have g3 : ¬ p ≤ -10000 := by omega
    clear hp
    go_enter Tryd.func24, Tryd.ntmps24
    go_wp2_with fail
    refine (HC1.out _).mono ?_
    rintro e w1 ⟨rfl, hb⟩
    obtain ⟨d1, o1, rfl⟩ := regrow_of hb
    clear hb
    go_wp2_with fail
    exact bodyPost_ret (v := .tuple #[.agg #[.string ⟨#[]⟩, .string ⟨#[]⟩, .int .i64 0, .int .i64 0], .int .i64 4]) (by simp [results, Tryd.results24, go_sem]) rfl ⟨rfl, bre (al (al (Below.refl _ _))) _ _⟩
set_option maxHeartbeats 1000000 in
theorem rmark_4 (f1 t1 : ByteArray) (an ad p : Int) (w : World) (hf1 : f1.size ≤ maxLen) (ht1 : t1.size ≤ maxLen) {x1 x2 y1 y2 : Int} {A B C D : Nat} (h1 : chkR f1 t1 an ad = 0) (g1 : -9999 ≤ p) (g2 : p ≤ 100000)
    (hp : Parts an ad (10000 + p) 10000 x1 x2 y1 y2 A B C D) (hok : prodOk A B C D = false) :
    Calls Tryd.prog 24 #[rt f1 t1 an ad, .int .i64 p] w fun e w' => e = .returned (.tuple #[rt0, .int .i64 4]) ∧ Below w.heap.size w w' := by
  have hc1 := fun w => rcheck_any f1 t1 an ad w hf1 ht1
  rw [h1] at hc1
  have HC1 := Lib.hid hc1
  obtain ⟨-, k1, k2⟩ := chk_zero h1
  have k3 : 1 ≤ 10000 + p ∧ 10000 + p ≤ 1099511627776 := by omega
  have k4 : (1 : Int) ≤ 10000 ∧ (10000 : Int) ≤ 1099511627776 := by omega
  have HP : Hid (∀ w, _) := Lib.hid (fun w => rprod_no w hp k1 k2 k3 k4 hok)
  unfold rt0 rt at *
  clear hc1 h1 hf1 ht1 k1 k2 k3 k4 hp hok
  have g3 : ¬ p ≤ -10000 := by omega
  go_enter Tryd.func24, Tryd.ntmps24
  go_wp2_with fail
  refine (HC1.out _).mono ?_
  rintro e w1 ⟨rfl, hb⟩
  obtain ⟨d1, o1, rfl⟩ := regrow_of hb
  clear hb
  go_wp2_with fail
  refine (HP.out _).mono ?_
  rintro e w3 ⟨rfl, hb⟩
  obtain ⟨d3, o3, rfl⟩ := regrow_of hb
  clear hb
  go_wp2_with fail
  exact bodyPost_ret (v := .tuple #[.agg #[.string ⟨#[]⟩, .string ⟨#[]⟩, .int .i64 0, .int .i64 0], .int .i64 4]) (by simp [results, Tryd.results24, go_sem]) rfl ⟨rfl, bre (al (al (Below.refl _ _))) _ _⟩
set_option maxHeartbeats 1000000 in
theorem rmark_5 (f1 t1 : ByteArray) (an ad p : Int) (w : World) (hf1 : f1.size ≤ maxLen) (ht1 : t1.size ≤ maxLen) {x1 x2 y1 y2 : Int} {A B C D : Nat} (h1 : chkR f1 t1 an ad = 0) (g1 : -9999 ≤ p) (g2 : p ≤ 100000)
    (hp : Parts an ad (10000 + p) 10000 x1 x2 y1 y2 A B C D) (hok : prodOk A B C D = true) :
    Calls Tryd.prog 24 #[rt f1 t1 an ad, .int .i64 p] w fun e w' => e = .returned (.tuple #[rt f1 t1 ((A * C : Nat) : Int) ((B * D : Nat) : Int), .int .i64 0]) ∧ Below w.heap.size w w' := by
  have hc1 := fun w => rcheck_any f1 t1 an ad w hf1 ht1
  rw [h1] at hc1
  have HC1 := Lib.hid hc1
  obtain ⟨-, k1, k2⟩ := chk_zero h1
  have k3 : 1 ≤ 10000 + p ∧ 10000 + p ≤ 1099511627776 := by omega
  have k4 : (1 : Int) ≤ 10000 ∧ (10000 : Int) ≤ 1099511627776 := by omega
  have HP : Hid (∀ w, _) := Lib.hid (fun w => rprod_ok w hp k1 k2 k3 k4 hok)
  generalize A * C = P at *
  generalize B * D = Q at *
  unfold rt at *
  clear hc1 h1 hf1 ht1 k1 k2 k3 k4 hp hok
  have g3 : ¬ p ≤ -10000 := by omega
  go_enter Tryd.func24, Tryd.ntmps24
  go_wp2_with fail
  refine (HC1.out _).mono ?_
  rintro e w1 ⟨rfl, hb⟩
  obtain ⟨d1, o1, rfl⟩ := regrow_of hb
  clear hb
  go_wp2_with fail
  refine (HP.out _).mono ?_
  rintro e w3 ⟨rfl, hb⟩
  obtain ⟨d3, o3, rfl⟩ := regrow_of hb
  clear hb
  go_wp2_with fail
  exact bodyPost_ret (v := .tuple #[.agg #[.string f1, .string t1, .int .i64 (P : Nat), .int .i64 (Q : Nat)], .int .i64 0]) (by simp [results, Tryd.results24, go_sem]) rfl ⟨rfl, bre (al (al (Below.refl _ _))) _ _⟩
end Go.Proofs.YtpabgmdgoghahaaDoor
