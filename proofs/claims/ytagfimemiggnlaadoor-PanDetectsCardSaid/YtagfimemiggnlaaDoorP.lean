/- Make of both. -/
import Derived.Test.YtagfimemiggnlaaDoorO
import Derived.Lib.LaidTab
import Derived.Lib.SmallJoins
set_option linter.unusedVariables false
set_option linter.unusedSimpArgs false
namespace Go.Proofs.YtagfimemiggnlaaDoor
open Go.Sort Go.ChangeShapes Go.WideShapes Go.ChangeAt Go.RowKit
def mkw (p : ByteArray) (len : Int) : Nat := (len - 1 - p.size).toNat
def mkBad (p : ByteArray) (n len : Int) : Bool := decide (len < 12) || (decide (19 < len) || (decide (p.size < 1) || (decide (10 < p.size) || (!allD p.data.toList || (decide (n < 0) || decide (10 ^ mkw p len ≤ n.toNat))))))
def mkE (p : ByteArray) (n len : Int) : Int := if mkBad p n len = true then 4 else 0
def mkS (p : ByteArray) (n len : Int) : ByteArray := p ++ bst (dgw (mkw p len) n.toNat)
def mkV (p : ByteArray) (n len : Int) : ByteArray := if mkBad p n len = true then ⟨#[]⟩ else mkS p n len ++ d1 (cdV (mkS p n len))
theorem mkBad_of {p : ByteArray} {n len : Int} (h : mkBad p n len = true) : mkE p n len = 4 ∧ mkV p n len = ⟨#[]⟩ := by
  unfold mkE mkV; rw [h, if_pos rfl, if_pos rfl]; exact ⟨rfl, rfl⟩
theorem mkGood_of {p : ByteArray} {n len : Int} (h : mkBad p n len = false) : mkE p n len = 0 ∧ mkV p n len = mkS p n len ++ d1 (cdV (mkS p n len)) := by
  unfold mkE mkV; rw [h, if_neg (by simp), if_neg (by simp)]; exact ⟨rfl, rfl⟩
theorem ten_run (r : Nat) (h : r < 10) : ∀ w : World, (Instr.slice 9 (.string ⟨#[48, 49, 50, 51, 52, 53, 54, 55, 56, 57]⟩) (some (.int .i64 r)) (some (.int .i64 (r + 1))) none).run Tryd.prog w = .ok (.string (d1 (48 + r))) w := by
  have : r = 0 ∨ r = 1 ∨ r = 2 ∨ r = 3 ∨ r = 4 ∨ r = 5 ∨ r = 6 ∨ r = 7 ∨ r = 8 ∨ r = 9 := by omega
  rcases this with rfl | rfl | rfl | rfl | rfl | rfl | rfl | rfl | rfl | rfl <;> (intro w; kernel_rfl)
/-- what the check digit of prefix and number is -/
theorem mkS_cd (p : ByteArray) (n len : Int) (h1 : 12 ≤ len) (h2 : len ≤ 19) (h3 : 1 ≤ p.size) (h4 : p.size ≤ 10) (h5 : allD p.data.toList = true) :
    (mkS p n len).size = (len - 1).toNat ∧ allD (mkS p n len).data.toList = true ∧ cdE (mkS p n len) = 0 ∧ 48 ≤ cdV (mkS p n len) ∧ cdV (mkS p n len) ≤ 57 := by
  have hsz : (mkS p n len).size = (len - 1).toNat := by
    unfold mkS mkw; rw [ByteArray.size_append, bst_size, dgw_len]; omega
  have hA : allD (mkS p n len).data.toList = true := by
    show allD (ls (mkS p n len)) = true
    unfold mkS; rw [ls_app, ls_bst]
    unfold allD; rw [List.all_append, Bool.and_eq_true]
    exact ⟨h5, dgw_all _ _⟩
  have hE : cdE (mkS p n len) = 0 := by
    unfold cdE
    rw [size_pos_list (by omega), if_neg (by simp), if_neg (by omega), hA, if_neg (by simp)]
  refine ⟨hsz, hA, hE, ?_, ?_⟩ <;> (unfold cdV; rw [if_pos hE]; omega)
set_option maxHeartbeats 1000000 in
theorem rmake_bad (p : ByteArray) (n len : Int) (hs : p.size ≤ 100) (w : World) (hE : len < 12 ∨ 19 < len ∨ p.size < 1 ∨ 10 < p.size ∨ allD p.data.toList = false ∨ n < 0) :
    Calls Tryd.prog 22 #[.string p, .int .i64 n, .int .i64 len] w fun e w' => e = .returned (.tuple #[.string (mkV p n len), .int .i64 (mkE p n len)]) ∧ Below w.heap.size w w' := by
  have RD := Lib.hid (fun w => rdigits_any p w (by unfold maxLen; omega))
  have hB : mkBad p n len = true := by
    unfold mkBad
    rcases hE with h | h | h | h | h | h <;> simp [h]
  obtain ⟨e1, e2⟩ := mkBad_of hB
  rw [e1, e2]
  have hsi : (p.size : Int) ≤ 100 := by omega
  clear hB e1 e2
  by_cases h1 : len < 12
  · have c1 : decide (len < 12) = true := decide_eq_true h1
    clear hE h1
    go_enter Tryd.func22, Tryd.ntmps22
    go_wp2_with (go_at_call 30; refine (RD.out _).mono ?_; rintro e w' ⟨rfl, rfl⟩)
    exact bodyPost_ret (v := .tuple #[.string ⟨#[]⟩, .int .i64 4]) (by simp [results, Tryd.results22, go_sem]) rfl ⟨rfl, Below.refl _ _⟩
  by_cases h2 : 19 < len
  · have c1 : decide (len < 12) = false := decide_eq_false h1
    have c2 : decide (19 < len) = true := decide_eq_true h2
    clear hE h1 h2
    go_enter Tryd.func22, Tryd.ntmps22
    go_wp2_with (go_at_call 30; refine (RD.out _).mono ?_; rintro e w' ⟨rfl, rfl⟩)
    exact bodyPost_ret (v := .tuple #[.string ⟨#[]⟩, .int .i64 4]) (by simp [results, Tryd.results22, go_sem]) rfl ⟨rfl, Below.refl _ _⟩
  by_cases h3 : p.size < 1
  · have c1 : decide (len < 12) = false := decide_eq_false h1
    have c2 : decide (19 < len) = false := decide_eq_false h2
    have c3 : decide ((p.size : Int) < 1) = true := decide_eq_true (by omega)
    have c3b : p.size = 0 := by omega
    clear hE h1 h2 h3
    go_enter Tryd.func22, Tryd.ntmps22
    go_wp2_with (go_at_call 30; refine (RD.out _).mono ?_; rintro e w' ⟨rfl, rfl⟩)
    exact bodyPost_ret (v := .tuple #[.string ⟨#[]⟩, .int .i64 4]) (by simp [results, Tryd.results22, go_sem]) rfl ⟨rfl, Below.refl _ _⟩
  by_cases h4 : 10 < p.size
  · have c1 : decide (len < 12) = false := decide_eq_false h1
    have c2 : decide (19 < len) = false := decide_eq_false h2
    have c3 : decide ((p.size : Int) < 1) = false := decide_eq_false (by omega)
    have c3b : ¬ p.size = 0 := by omega
    have c4 : decide (10 < (p.size : Int)) = true := decide_eq_true (by omega)
    clear hE h1 h2 h3 h4
    go_enter Tryd.func22, Tryd.ntmps22
    go_wp2_with (go_at_call 30; refine (RD.out _).mono ?_; rintro e w' ⟨rfl, rfl⟩)
    exact bodyPost_ret (v := .tuple #[.string ⟨#[]⟩, .int .i64 4]) (by simp [results, Tryd.results22, go_sem]) rfl ⟨rfl, Below.refl _ _⟩
  cases hd : allD p.data.toList
  · have c1 : decide (len < 12) = false := decide_eq_false h1
    have c2 : decide (19 < len) = false := decide_eq_false h2
    have c3 : decide ((p.size : Int) < 1) = false := decide_eq_false (by omega)
    have c3b : ¬ p.size = 0 := by omega
    have c4 : decide (10 < (p.size : Int)) = false := decide_eq_false (by omega)
    rw [hd] at RD
    clear hE hd h1 h2 h3 h4
    go_enter Tryd.func22, Tryd.ntmps22
    go_wp2_with (go_at_call 30; refine (RD.out _).mono ?_; rintro e w' ⟨rfl, rfl⟩)
    exact bodyPost_ret (v := .tuple #[.string ⟨#[]⟩, .int .i64 4]) (by simp [results, Tryd.results22, go_sem]) rfl ⟨rfl, Below.refl _ _⟩
  · have c1 : decide (len < 12) = false := decide_eq_false h1
    have c2 : decide (19 < len) = false := decide_eq_false h2
    have c3 : decide ((p.size : Int) < 1) = false := decide_eq_false (by omega)
    have c3b : ¬ p.size = 0 := by omega
    have c4 : decide (10 < (p.size : Int)) = false := decide_eq_false (by omega)
    rw [hd] at RD
    have c5 : decide (n < 0) = true := decide_eq_true (hE.elim (fun h => absurd h h1) (fun h => h.elim (fun h => absurd h h2) (fun h => h.elim (fun h => absurd h h3) (fun h => h.elim (fun h => absurd h h4) (fun h => h.elim (fun h => absurd (hd.symm.trans h) (by simp)) (fun h => h))))))
    clear hE hd h1 h2 h3 h4
    go_enter Tryd.func22, Tryd.ntmps22
    go_wp2_with (go_at_call 30; refine (RD.out _).mono ?_; rintro e w' ⟨rfl, rfl⟩)
    exact bodyPost_ret (v := .tuple #[.string ⟨#[]⟩, .int .i64 4]) (by simp [results, Tryd.results22, go_sem]) rfl ⟨rfl, Below.refl _ _⟩
def isP (p : ByteArray) : Bool := isD p && decide (p.size ≤ 10)
theorem isP_any (p : ByteArray) (hs : p.size ≤ 100) (w : World) : Calls Tryd.prog 36 #[.string p] w fun e w' => e = .returned (.bool (isP p)) ∧ w' = w := by
  have RD := Lib.hid (fun w => isdigits_any p w (by unfold maxLen; omega))
  unfold isP
  cases hd : isD p
  · rw [hd] at RD
    clear hd hs
    go_enter Tryd.func36, Tryd.ntmps36
    go_wp2_with (go_at_call 32; refine (RD.out _).mono ?_; rintro e w' ⟨rfl, rfl⟩)
    go_ret
    exact ⟨rfl, rfl⟩
  · rw [hd] at RD
    have hi : (p.size : Int) ≤ 100 := by omega
    by_cases h : p.size ≤ 10
    · have c : decide ((p.size : Int) ≤ 10) = true := decide_eq_true (by omega)
      have HV := Lib.hid (decide_eq_true h)
      clear hd hs h
      go_enter Tryd.func36, Tryd.ntmps36
      go_wp2_with (go_at_call 32; refine (RD.out _).mono ?_; rintro e w' ⟨rfl, rfl⟩)
      go_ret
      exact ⟨by rw [HV.out]; rfl, rfl⟩
    · have c : decide ((p.size : Int) ≤ 10) = false := decide_eq_false (by omega)
      have HV := Lib.hid (decide_eq_false h)
      clear hd hs h
      go_enter Tryd.func36, Tryd.ntmps36
      go_wp2_with (go_at_call 32; refine (RD.out _).mono ?_; rintro e w' ⟨rfl, rfl⟩)
      go_ret
      exact ⟨by rw [HV.out]; rfl, rfl⟩
theorem isP_of {p : ByteArray} (h3 : ¬ p.size < 1) (h4 : ¬ 10 < p.size) : isP p = allD p.data.toList := by
  unfold isP isD
  rw [size_pos_list (by omega), show decide (p.size ≤ 10) = true from decide_eq_true (by omega)]
  simp
theorem isP_no {p : ByteArray} (h : p.size < 1 ∨ 10 < p.size) : isP p = false := by
  unfold isP isD
  rcases h with h | h
  · rw [size_zero_list (by omega)]; simp
  · rw [show decide (p.size ≤ 10) = false from decide_eq_false (by omega)]; simp
def TabP (w : World) : Prop := Lib.TabIs Tryd.prog w "internal/strconv.uint64pow10" .u64 Lib.pow10Tab
theorem gPow : ∃ g, Tryd.prog.globalNamed "internal/strconv.uint64pow10" = some g := by
  cases h : Tryd.prog.globalNamed "internal/strconv.uint64pow10" with
  | some g => exact ⟨g, rfl⟩
  | none =>
    have : (Tryd.prog.globalNamed "internal/strconv.uint64pow10").isSome = true := by kernel_rfl
    rw [h] at this; cases this
theorem TabP.call {w w1 : World} (h : TabP w) (hb : Below w.heap.size w w1) : TabP w1 := by
  obtain ⟨g, hg⟩ := gPow
  exact Go.Joins.tab_stays hg h hb (Nat.le_refl _)
set_option maxHeartbeats 1000000 in
theorem make_bad (p : ByteArray) (n len : Int) (hs : p.size ≤ 100) (w : World) (hT : TabP w) (hE : len < 12 ∨ 19 < len ∨ p.size < 1 ∨ 10 < p.size ∨ allD p.data.toList = false ∨ n < 0) :
    Calls Tryd.prog 21 #[.string p, .int .i64 n, .int .i64 len] w fun e w' => e = .returned (.tuple #[.string (mkV p n len), .int .i64 (mkE p n len)]) ∧ Below w.heap.size w w' := by
  have RD := Lib.hid (fun w => isP_any p hs w)
  have hB : mkBad p n len = true := by
    unfold mkBad
    rcases hE with h | h | h | h | h | h <;> simp [h]
  obtain ⟨e1, e2⟩ := mkBad_of hB
  rw [e1, e2]
  have hsi : (p.size : Int) ≤ 100 := by omega
  clear hB e1 e2 hT
  by_cases h1 : len < 12
  · have c1 : decide (len < 12) = true := decide_eq_true h1
    clear hE h1
    go_enter Tryd.func21, Tryd.ntmps21
    go_wp2_with (go_at_call 36; refine (RD.out _).mono ?_; rintro e w' ⟨rfl, rfl⟩)
    exact bodyPost_ret (v := .tuple #[.string ⟨#[]⟩, .int .i64 4]) (by simp [results, Tryd.results21, go_sem]) rfl ⟨rfl, Below.refl _ _⟩
  by_cases h2 : 19 < len
  · have c1 : decide (len < 12) = false := decide_eq_false h1
    have c2 : decide (19 < len) = true := decide_eq_true h2
    clear hE h1 h2
    go_enter Tryd.func21, Tryd.ntmps21
    go_wp2_with (go_at_call 36; refine (RD.out _).mono ?_; rintro e w' ⟨rfl, rfl⟩)
    exact bodyPost_ret (v := .tuple #[.string ⟨#[]⟩, .int .i64 4]) (by simp [results, Tryd.results21, go_sem]) rfl ⟨rfl, Below.refl _ _⟩
  by_cases h3 : p.size < 1 ∨ 10 < p.size
  · have c1 : decide (len < 12) = false := decide_eq_false h1
    have c2 : decide (19 < len) = false := decide_eq_false h2
    rw [isP_no h3] at RD
    clear hE h1 h2 h3
    go_enter Tryd.func21, Tryd.ntmps21
    go_wp2_with (go_at_call 36; refine (RD.out _).mono ?_; rintro e w' ⟨rfl, rfl⟩)
    exact bodyPost_ret (v := .tuple #[.string ⟨#[]⟩, .int .i64 4]) (by simp [results, Tryd.results21, go_sem]) rfl ⟨rfl, Below.refl _ _⟩
  rw [isP_of (fun h => h3 (.inl h)) (fun h => h3 (.inr h))] at RD
  cases hd : allD p.data.toList
  · have c1 : decide (len < 12) = false := decide_eq_false h1
    have c2 : decide (19 < len) = false := decide_eq_false h2
    rw [hd] at RD
    clear hE hd h1 h2 h3
    go_enter Tryd.func21, Tryd.ntmps21
    go_wp2_with (go_at_call 36; refine (RD.out _).mono ?_; rintro e w' ⟨rfl, rfl⟩)
    exact bodyPost_ret (v := .tuple #[.string ⟨#[]⟩, .int .i64 4]) (by simp [results, Tryd.results21, go_sem]) rfl ⟨rfl, Below.refl _ _⟩
  · have c1 : decide (len < 12) = false := decide_eq_false h1
    have c2 : decide (19 < len) = false := decide_eq_false h2
    rw [hd] at RD
    have c5 : decide (n < 0) = true := decide_eq_true (hE.elim (fun h => absurd h h1) (fun h => h.elim (fun h => absurd h h2) (fun h => h.elim (fun h => absurd (Or.inl h) h3) (fun h => h.elim (fun h => absurd (Or.inr h) h3) (fun h => h.elim (fun h => absurd (hd.symm.trans h) (by simp)) (fun h => h))))))
    clear hE hd h1 h2 h3
    go_enter Tryd.func21, Tryd.ntmps21
    go_wp2_with (go_at_call 36; refine (RD.out _).mono ?_; rintro e w' ⟨rfl, rfl⟩)
    exact bodyPost_ret (v := .tuple #[.string ⟨#[]⟩, .int .i64 4]) (by simp [results, Tryd.results21, go_sem]) rfl ⟨rfl, Below.refl _ _⟩
end Go.Proofs.YtagfimemiggnlaaDoor
