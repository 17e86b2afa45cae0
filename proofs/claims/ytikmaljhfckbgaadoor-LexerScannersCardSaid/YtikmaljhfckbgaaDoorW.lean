/- Print of both. -/
import Derived.Test.YtikmaljhfckbgaaDoorV
import Derived.Test.YtikmaljhfckbgaaDoorShelfJ
import Derived.Lib.Join
set_option linter.unusedVariables false
set_option linter.unusedSimpArgs false
namespace Go.Proofs.YtikmaljhfckbgaaDoor
open Go.Sort Go.ChangeShapes Go.WideShapes Go.ChangeAt Go.RowKit
/-- lexemes anywhere in memory -/
def LxO (w : World) (a : Option Addr) (l : List Lx) : Prop := ∀ (i : Nat) (h : i < l.length), ∃ g o, a = some ⟨g, o, none⟩ ∧ g < w.heap.size ∧ w.cell? ⟨g, o + i * 4, none⟩ = some (.int .i64 l[i].k) ∧ w.cell? ⟨g, o + i * 4 + 1, none⟩ = some (.string l[i].t) ∧ w.cell? ⟨g, o + i * 4 + 2, none⟩ = some (.int .i64 l[i].v) ∧ w.cell? ⟨g, o + i * 4 + 3, none⟩ = some (.int .i64 l[i].p)
theorem LxO.below {B : Nat} {w w1 : World} {a : Option Addr} {l : List Lx} (h : LxO w a l) (hB : w.heap.size ≤ B) (hb : Below B w w1) : LxO w1 a l := by
  intro i hi
  obtain ⟨g, o, ha, hg, c0, c1, c2, c3⟩ := h i hi
  have hgB : g < B := Nat.lt_of_lt_of_le hg hB
  exact ⟨g, o, ha, Nat.lt_of_lt_of_le hg hb.size, (hb.cell (p := ⟨g, _, none⟩) hgB).trans c0, (hb.cell (p := ⟨g, _, none⟩) hgB).trans c1, (hb.cell (p := ⟨g, _, none⟩) hgB).trans c2, (hb.cell (p := ⟨g, _, none⟩) hgB).trans c3⟩
theorem LxO.call {w w1 : World} {a : Option Addr} {l : List Lx} (h : LxO w a l) (hb : Below w.heap.size w w1) : LxO w1 a l := h.below (Nat.le_refl _) hb
theorem lxO_of {w : World} {v : Value} {l : List Lx} (h : LxAt w v l) : ∃ a cap, v = .slice a l.length cap ∧ l.length ≤ cap ∧ cap ≤ maxLen ∧ LxO w a l := by
  obtain ⟨a, cap, hv, h1, h2, h3⟩ := h
  refine ⟨a, cap, hv, h1, h2, fun i hi => ?_⟩
  obtain ⟨g, ha, hg, c⟩ := h3 i hi
  exact ⟨g, 0, ha, hg, by rw [Nat.zero_add]; exact c⟩
def wrd (x : Lx) : List ByteArray := if x.k = 1 ∨ x.k = 4 then [x.t] else if x.k = 2 then [bst (Lib.itoa x.v)] else if x.k = 3 then [(⟨#[34]⟩ : ByteArray) ++ x.t ++ ⟨#[34]⟩] else []
def wds (l : List Lx) : List ByteArray := l.flatMap wrd
def strs (l : List ByteArray) : List Value := l.map Value.string
theorem wds_k (l : List Lx) (k : Nat) (h : k < l.length) : wds (l.take (k + 1)) = wds (l.take k) ++ wrd l[k] := by
  unfold wds; rw [List.take_succ_eq_append_getElem h, List.flatMap_append]; simp
theorem wrd_len (x : Lx) : (wrd x).length ≤ 1 := by unfold wrd; repeat' split
                                                    all_goals simp
theorem wds_len (l : List Lx) : (wds l).length ≤ l.length := by
  induction l with
  | nil => exact Nat.le_refl _
  | cons x l ih =>
    have := wrd_len x
    show (wrd x ++ wds l).length ≤ _
    rw [List.length_append, List.length_cons]; omega
def prt (l : List Lx) : ByteArray := bst (Lib.join ((wds l).map (·.data.toList)) [32])
theorem join_le (M : Nat) (xs : List (List UInt8)) (h : ∀ x ∈ xs, x.length ≤ M) : (Lib.join xs [32]).length ≤ xs.length * (M + 1) := by
  unfold Lib.join
  induction xs with
  | nil => exact Nat.zero_le _
  | cons x xs ih =>
    have hx := h x List.mem_cons_self
    have ih2 := ih (fun y hy => h y (List.mem_cons_of_mem _ hy))
    cases xs with
    | nil => simp [List.intercalate]; omega
    | cons y ys =>
      have e : List.intercalate [32] (x :: y :: ys) = x ++ 32 :: List.intercalate [32] (y :: ys) := by simp [List.intercalate, List.intersperse]
      rw [e, List.length_append, List.length_cons, List.length_cons, Nat.add_mul]
      rw [List.length_cons] at ih2
      rw [List.length_cons]
      omega
theorem itoa_len (v : Int) (h1 : -9223372036854775808 ≤ v) (h2 : v ≤ 9223372036854775807) : (Lib.itoa v).length ≤ 21 := by
  have hd : ∀ n : Nat, n < 10 ^ 20 → (Lib.decDigits n).length ≤ 20 := fun n hn => (dec_len' 19 n hn).2
  unfold Lib.itoa
  split
  · rw [List.length_cons]; have := hd v.natAbs (by omega); omega
  · have := hd v.toNat (by omega); omega
def okL (l : List Lx) : Prop := l.length ≤ 5000 ∧ ∀ (i : Nat) (h : i < l.length), l[i].t.size ≤ 5000 ∧ -9223372036854775808 ≤ l[i].v ∧ l[i].v ≤ 9223372036854775807
theorem wrd_size (x : Lx) (h1 : x.t.size ≤ 5000) (h2 : -9223372036854775808 ≤ x.v) (h3 : x.v ≤ 9223372036854775807) : ∀ y ∈ wrd x, y.data.toList.length ≤ 5002 := by
  intro y hy
  have hs : ∀ z : ByteArray, z.data.toList.length = z.size := fun z => rfl
  unfold wrd at hy
  repeat' split at hy
  · rw [List.mem_singleton] at hy; rw [hy, hs]; omega
  · rw [List.mem_singleton] at hy; rw [hy, hs, bst_size]; have := itoa_len x.v h2 h3; omega
  · rw [List.mem_singleton] at hy; rw [hy, hs, ByteArray.size_append, ByteArray.size_append]; show 1 + x.t.size + 1 ≤ 5002; omega
  · cases hy
theorem join_ok (l : List Lx) (h : okL l) : (Lib.join ((wds l).map (·.data.toList)) (⟨#[32]⟩ : ByteArray).data.toList).length ≤ 140737488355328 := by
  have h1 := join_le 5002 ((wds l).map (·.data.toList)) (fun x hx => by
    obtain ⟨y, hy, rfl⟩ := List.mem_map.1 hx
    unfold wds at hy
    obtain ⟨z, hz, hyz⟩ := List.mem_flatMap.1 hy
    obtain ⟨i, hi, rfl⟩ := List.mem_iff_getElem.1 hz
    obtain ⟨a, b, c⟩ := h.2 i hi
    exact wrd_size _ a b c y hyz)
  rw [List.length_map] at h1
  have h2 := wds_len l
  have h3 := h.1
  have : (wds l).length * (5002 + 1) ≤ 5000 * 5003 := Nat.mul_le_mul (by omega) (Nat.le_refl _)
  show (Lib.join _ [32]).length ≤ _
  omega
theorem info9 : (Tryd.prog.info? 9).map (fun i => (i.zero, i.size, i.bytes)) = some (some (.string ByteArray.empty), 1, 16) := by kernel_rfl
theorem fint (v : Int) (h1 : -9223372036854775808 ≤ v) (h2 : v ≤ 9223372036854775807) (w : World) (hT : TabP w) : Calls Tryd.prog 32 #[.int .i64 v, .int .i64 10] w fun e w' => e = .returned (.string (bst (Lib.itoa v))) ∧ Below w.heap.size w w' :=
  (Tryd.strconv_FormatInt_10 v h1 h2 w hT).mono fun e w' ⟨he, k, os, hw⟩ => ⟨he, hw ▸ Lib.below_grow w.heap.size w (Nat.le_refl _) _ _⟩
theorem joins (B : Nat) (w : World) (v : Value) (xs : List ByteArray) (h : w.ownsRow B 9 1 v xs.length (strs xs)) (hn : xs.length ≤ 100000) (hlen : (Lib.join (xs.map (·.data.toList)) (⟨#[32]⟩ : ByteArray).data.toList).length ≤ 140737488355328) :
    Calls Tryd.prog 33 #[v, .string ⟨#[32]⟩] w fun e w' => e = .returned (.string (bst (Lib.join (xs.map (·.data.toList)) [32]))) ∧ Below w.heap.size w w' := by
  obtain ⟨hl, ⟨rfl, h0⟩ | ⟨g, cp, cur, rfl, hb, hg, h1, h2, h3, h4⟩⟩ := h
  · have : xs = [] := List.eq_nil_of_length_eq_zero h0
    subst this
    exact (Tryd.strings_Join_none none 0 ⟨#[32]⟩ w).mono fun e w' ⟨he, hw⟩ => ⟨he, hw ▸ Below.refl _ _⟩
  · refine Tryd.strings_Join g 0 cp xs ⟨#[32]⟩ w (fun j x hx => ?_) (Array.getElem?_eq_some_iff.1 hg).1 (by omega) h1 hlen
    have hj : j < xs.length := (List.getElem?_eq_some_iff.1 hx).1
    rw [Nat.zero_add, show w.cell? ⟨g, j, none⟩ = cur[j]? by simp [World.cell?, hg]]
    have h5 : (strs xs)[j]? = some (.string x) := by unfold strs; rw [List.getElem?_map, hx]; rfl
    rw [← h4, List.getElem?_take, if_pos (by omega)] at h5
    simpa using h5
theorem own9 {wr w1 : World} {B : Nat} {t : TypeId} {z n : Nat} {v : Value} {xs : List Value} (h : wr.ownsRow B t z v n xs) (hb : Below wr.heap.size wr w1) : w1.ownsRow B t z v n xs := own_below h hb
theorem strs_app (a b : List ByteArray) : strs (a ++ b) = strs a ++ strs b := List.map_append ..
theorem wrd_e {x : Lx} (h1 : x.k ≠ 1) (h4 : x.k ≠ 4) (h2 : x.k ≠ 2) (h3 : x.k ≠ 3) : wrd x = [] := by
  unfold wrd; rw [if_neg (by rintro (h | h); exact h1 h; exact h4 h), if_neg h2, if_neg h3]
set_option maxHeartbeats 2000000 in
set_option maxRecDepth 100000 in
theorem print_any (A : Option Addr) (cap : Nat) (l : List Lx) (hc : l.length ≤ cap) (hm : cap ≤ maxLen) (hok : okL l) (w : World) (hL : LxO w A l) (hT : LT w) :
    Calls Tryd.prog 13 #[.slice A l.length cap] w fun e w' => e = .returned (.string (prt l)) ∧ Below w.heap.size w w' := by
  obtain ⟨i0, hi, hz0, hz1, hz2⟩ := info_parts info9
  have HT := Lib.hid hT
  have HLX := Lib.hid hL
  have HOK := Lib.hid hok
  have HP := Lib.hid (show prt l = bst (Lib.join ((wds l).map (·.data.toList)) [32]) from rfl)
  have HJ := Lib.hid (fun w v h => joins w.heap.size w v (wds l) h (by have := wds_len l; have := hok.1; omega) (join_ok l hok))
  have HJ2 := Lib.hid (fun B w v h => joins B w v (wds l) h (by have := wds_len l; have := hok.1; omega) (join_ok l hok))
  have hn : l.length ≤ 5000 := hok.1
  have hni : (l.length : Int) ≤ 5000 := by omega
  unfold maxLen at hm
  clear hT hL hok HJ
  go_enter Tryd.func13, Tryd.ntmps13
  go_wp2_with fail
  go_loopw [3, 8] (fun v x wr => ∃ (k : Nat), k ≤ l.length ∧ x = .int .i64 k ∧ Hid (wr.ownsRow w.heap.size 9 1 v (wds (l.take k)).length (strs (wds (l.take k)))) ∧ Hid (Below w.heap.size w wr)) (fun _ x _ => l.length - (intOf x).toNat)
  case atStart => exact ⟨0, Nat.zero_le _, rfl, Lib.hid (World.ownsRow_nil _ _ _ _), Lib.hid (Below.refl _ _)⟩
  case round =>
    obtain ⟨k, hk, rfl, HO, HBW⟩ := hrel
    by_cases hlt : k < l.length
    · have hlt' : (k : Int) < (l.length : Int) := by omega
      obtain ⟨g, off, rfl, hg, c0, c1, c2, c3⟩ := HLX.out k hlt
      obtain ⟨hts, hv1, hv2⟩ := HOK.out.2 k hlt
      have HWL := Lib.hid (show (wds (l.take k)).length ≤ k by have := wds_len (l.take k); rw [List.length_take] at this; omega)
      have hwd := Lib.hid (wds_k l k hlt)
      have s0 : wr.cell? ⟨g, off + k * 4, none⟩ = some (.int .i64 l[k].k) := (HBW.out.cell (p := ⟨g, _, none⟩) hg).trans c0
      have s1 : wr.cell? ⟨g, off + k * 4 + 1, none⟩ = some (.string l[k].t) := (HBW.out.cell (p := ⟨g, _, none⟩) hg).trans c1
      have s2 : wr.cell? ⟨g, off + k * 4 + 2, none⟩ = some (.int .i64 l[k].v) := (HBW.out.cell (p := ⟨g, _, none⟩) hg).trans c2
      have s3 : wr.cell? ⟨g, off + k * 4 + 3, none⟩ = some (.int .i64 l[k].p) := (HBW.out.cell (p := ⟨g, _, none⟩) hg).trans c3
      have hgw : g < wr.heap.size := Nat.lt_of_lt_of_le hg HBW.out.size
      clear c0 c1 c2 c3
      generalize l[k] = X at *
      obtain ⟨K, T, V, P⟩ := X
      dsimp only at s0 s1 s2 s3 hts hv1 hv2
      by_cases hk1 : K = 1
      · subst hk1
        have HW := Lib.hid (show wds (l.take (k + 1)) = wds (l.take k) ++ [T] by rw [hwd.out]; rfl)
        go_wp2_with (at_builtin; refine wpList_append_own _ rfl _ _ 52 rfl w.heap.size 9 i0 (.string ByteArray.empty) 1 16 Tryd.underlying52 hi hz0 hz1 hz2 rfl (by decide) _ _ _ rfl ((HO.out.alloc _).alloc _) _ 1 1 [.string T] rfl rfl ?A1 ?A2 ?A3 ?A4 ?A5 ?_)
        any_goals (first | (intro j u hj; match j, hj with | 0, hj => (simp at hj; subst hj; simp [Addr.add])) | (intro u hu; simp at hu; subst hu; rfl) | rfl | (unfold maxLen; have := HWL.out; omega) | (have := HWL.out; omega) | (have := HBW.out.size; simp; omega) | (have := HBW.out.size; simp; omega) | skip)
        intro v' w2 hown' hgrow _
        have HO2 := Lib.hid hown'
        have HB2 := Lib.hid (((HBW.out.alloc HBW.out.size _).alloc (by have := HBW.out.size; simp; omega) _).grown hgrow (by have := HBW.out.size; have := HBW.out.size; simp; omega) (fun j hj => (HO.out.lt j hj).1))
        clear hown' hgrow
        go_wp2_with fail
        go_roundw
        case rel => exact ⟨k + 1, by omega, by go_num, Lib.hid (by rw [HW.out, List.length_append, strs_app]; exact HO2.out), HB2⟩
        case measure => simp [intOf]; omega
      by_cases hk4 : K = 4
      · subst hk4
        have HW := Lib.hid (show wds (l.take (k + 1)) = wds (l.take k) ++ [T] by rw [hwd.out]; rfl)
        go_wp2_with (at_builtin; refine wpList_append_own _ rfl _ _ 52 rfl w.heap.size 9 i0 (.string ByteArray.empty) 1 16 Tryd.underlying52 hi hz0 hz1 hz2 rfl (by decide) _ _ _ rfl ((HO.out.alloc _).alloc _) _ 1 1 [.string T] rfl rfl ?B1 ?B2 ?B3 ?B4 ?B5 ?_)
        any_goals (first | (intro j u hj; match j, hj with | 0, hj => (simp at hj; subst hj; simp [Addr.add])) | (intro u hu; simp at hu; subst hu; rfl) | rfl | (unfold maxLen; have := HWL.out; omega) | (have := HWL.out; omega) | (have := HBW.out.size; simp; omega) | (have := HBW.out.size; simp; omega) | skip)
        intro v' w2 hown' hgrow _
        have HO2 := Lib.hid hown'
        have HB2 := Lib.hid (((HBW.out.alloc HBW.out.size _).alloc (by have := HBW.out.size; simp; omega) _).grown hgrow (by have := HBW.out.size; have := HBW.out.size; simp; omega) (fun j hj => (HO.out.lt j hj).1))
        clear hown' hgrow
        go_wp2_with fail
        go_roundw
        case rel => exact ⟨k + 1, by omega, by go_num, Lib.hid (by rw [HW.out, List.length_append, strs_app]; exact HO2.out), HB2⟩
        case measure => simp [intOf]; omega
      by_cases hk2 : K = 2
      · subst hk2
        have HW := Lib.hid (show wds (l.take (k + 1)) = wds (l.take k) ++ [(bst (Lib.itoa V))] by rw [hwd.out]; rfl)
        have FI := Lib.hid (fun w hT => fint V hv1 hv2 w hT)
        go_wp2_with fail
        refine (FI.out _ (HT.out.1.call (HBW.out.alloc HBW.out.size _))).mono ?_
        rintro e w1 ⟨rfl, hb⟩
        have HO1 := Lib.hid (own9 (HO.out.alloc _) hb)
        have HB1 := Lib.hid (below_call (HBW.out.alloc HBW.out.size _) hb)
        clear hb
        go_wp2_with (at_builtin; refine wpList_append_own _ rfl _ _ 52 rfl w.heap.size 9 i0 (.string ByteArray.empty) 1 16 Tryd.underlying52 hi hz0 hz1 hz2 rfl (by decide) _ _ _ rfl (HO1.out.alloc _) _ 1 1 [.string (bst (Lib.itoa V))] rfl rfl ?C1 ?C2 ?C3 ?C4 ?C5 ?_)
        any_goals (first | (intro j u hj; match j, hj with | 0, hj => (simp at hj; subst hj; simp [Addr.add])) | (intro u hu; simp at hu; subst hu; rfl) | rfl | (unfold maxLen; have := HWL.out; omega) | (have := HWL.out; omega) | (have := HBW.out.size; simp; omega) | (have := HB1.out.size; simp; omega) | skip)
        intro v' w2 hown' hgrow _
        have HO2 := Lib.hid hown'
        have HB2 := Lib.hid ((HB1.out.alloc HB1.out.size _).grown hgrow (by have := HB1.out.size; have := HBW.out.size; simp; omega) (fun j hj => (HO1.out.lt j hj).1))
        clear hown' hgrow
        go_wp2_with fail
        go_roundw
        case rel => exact ⟨k + 1, by omega, by go_num, Lib.hid (by rw [HW.out, List.length_append, strs_app]; exact HO2.out), HB2⟩
        case measure => simp [intOf]; omega
      by_cases hk3 : K = 3
      · subst hk3
        have HW := Lib.hid (show wds (l.take (k + 1)) = wds (l.take k) ++ [((⟨#[34]⟩ : ByteArray) ++ T ++ ⟨#[34]⟩)] by rw [hwd.out]; rfl)
        have y1 : ((⟨#[34]⟩ : ByteArray) ++ T).size ≤ 5001 := by rw [ByteArray.size_append]; show 1 + T.size ≤ 5001; omega
        have y2 : (⟨#[34]⟩ : ByteArray).size = 1 := rfl
        clear y2
        go_wp2_with (at_builtin; refine wpList_append_own _ rfl _ _ 52 rfl w.heap.size 9 i0 (.string ByteArray.empty) 1 16 Tryd.underlying52 hi hz0 hz1 hz2 rfl (by decide) _ _ _ rfl ((HO.out.alloc _).alloc _) _ 1 1 [.string ((⟨#[34]⟩ : ByteArray) ++ T ++ ⟨#[34]⟩)] rfl rfl ?D1 ?D2 ?D3 ?D4 ?D5 ?_)
        any_goals (first | (intro j u hj; match j, hj with | 0, hj => (simp at hj; subst hj; simp [Addr.add])) | (intro u hu; simp at hu; subst hu; rfl) | rfl | (unfold maxLen; have := HWL.out; omega) | (have := HWL.out; omega) | (have := HBW.out.size; simp; omega) | (have := HBW.out.size; simp; omega) | skip)
        intro v' w2 hown' hgrow _
        have HO2 := Lib.hid hown'
        have HB2 := Lib.hid (((HBW.out.alloc HBW.out.size _).alloc (by have := HBW.out.size; simp; omega) _).grown hgrow (by have := HBW.out.size; have := HBW.out.size; simp; omega) (fun j hj => (HO.out.lt j hj).1))
        clear hown' hgrow
        go_wp2_with fail
        go_roundw
        case rel => exact ⟨k + 1, by omega, by go_num, Lib.hid (by rw [HW.out, List.length_append, strs_app]; exact HO2.out), HB2⟩
        case measure => simp [intOf]; omega
      have g1 : (K == 1) = false := by rw [beq_eq_false_iff_ne]; exact hk1
      have g4 : (K == 4) = false := by rw [beq_eq_false_iff_ne]; exact hk4
      have g2 : (K == 2) = false := by rw [beq_eq_false_iff_ne]; exact hk2
      have g3 : (K == 3) = false := by rw [beq_eq_false_iff_ne]; exact hk3
      have HW := Lib.hid (show wds (l.take (k + 1)) = wds (l.take k) by rw [hwd.out, wrd_e hk1 hk4 hk2 hk3, List.append_nil])
      clear hk1 hk4 hk2 hk3
      go_wp2_with fail
      go_roundw
      case rel => exact ⟨k + 1, by omega, by go_num, Lib.hid (by rw [HW.out]; exact (HO.out.alloc _)), Lib.hid (HBW.out.alloc HBW.out.size _)⟩
      case measure => simp [intOf]; omega
    · have hge : ¬ (k : Int) < (l.length : Int) := by omega
      obtain rfl : k = l.length := by omega
      have ho := HO.out
      rw [List.take_length] at ho
      have HC := Lib.hid (HJ2.out _ _ _ ho)
      clear hlt ho
      go_wp2_with fail
      refine HC.out.mono ?_
      rintro e w1 ⟨rfl, hb⟩
      have HB1 := Lib.hid (below_call HBW.out hb)
      clear hb
      go_wp2_with fail
      go_ret
      exact ⟨by rw [HP.out] <;> rfl, HB1.out⟩
set_option maxHeartbeats 2000000 in
set_option maxRecDepth 100000 in
theorem rprint_any (A : Option Addr) (cap : Nat) (l : List Lx) (hc : l.length ≤ cap) (hm : cap ≤ maxLen) (hok : okL l) (w : World) (hL : LxO w A l) (hT : LT w) :
    Calls Tryd.prog 14 #[.slice A l.length cap] w fun e w' => e = .returned (.string (prt l)) ∧ Below w.heap.size w w' := by
  obtain ⟨i0, hi, hz0, hz1, hz2⟩ := info_parts info9
  have HT := Lib.hid hT
  have HLX := Lib.hid hL
  have HOK := Lib.hid hok
  have HP := Lib.hid (show prt l = bst (Lib.join ((wds l).map (·.data.toList)) [32]) from rfl)
  have HJ := Lib.hid (fun w v h => joins w.heap.size w v (wds l) h (by have := wds_len l; have := hok.1; omega) (join_ok l hok))
  have HJ2 := Lib.hid (fun B w v h => joins B w v (wds l) h (by have := wds_len l; have := hok.1; omega) (join_ok l hok))
  have hn : l.length ≤ 5000 := hok.1
  have hni : (l.length : Int) ≤ 5000 := by omega
  unfold maxLen at hm
  clear hT hL hok HJ
  go_enter Tryd.func14, Tryd.ntmps14
  go_wp2_with fail
  go_loopw [3, 4] (fun v x wr => ∃ (k : Nat), k ≤ l.length ∧ x = .int .i64 k ∧ Hid (wr.ownsRow w.heap.size 9 1 v (wds (l.take k)).length (strs (wds (l.take k)))) ∧ Hid (Below w.heap.size w wr)) (fun _ x _ => l.length - (intOf x).toNat)
  case atStart => exact ⟨0, Nat.zero_le _, rfl, Lib.hid (World.ownsRow_nil _ _ _ _), Lib.hid (Below.refl _ _)⟩
  case round =>
    obtain ⟨k, hk, rfl, HO, HBW⟩ := hrel
    by_cases hlt : k < l.length
    · have hlt' : (k : Int) < (l.length : Int) := by omega
      obtain ⟨g, off, rfl, hg, c0, c1, c2, c3⟩ := HLX.out k hlt
      obtain ⟨hts, hv1, hv2⟩ := HOK.out.2 k hlt
      have HWL := Lib.hid (show (wds (l.take k)).length ≤ k by have := wds_len (l.take k); rw [List.length_take] at this; omega)
      have hwd := Lib.hid (wds_k l k hlt)
      have s0 : wr.cell? ⟨g, off + k * 4, none⟩ = some (.int .i64 l[k].k) := (HBW.out.cell (p := ⟨g, _, none⟩) hg).trans c0
      have s1 : wr.cell? ⟨g, off + k * 4 + 1, none⟩ = some (.string l[k].t) := (HBW.out.cell (p := ⟨g, _, none⟩) hg).trans c1
      have s2 : wr.cell? ⟨g, off + k * 4 + 2, none⟩ = some (.int .i64 l[k].v) := (HBW.out.cell (p := ⟨g, _, none⟩) hg).trans c2
      have s3 : wr.cell? ⟨g, off + k * 4 + 3, none⟩ = some (.int .i64 l[k].p) := (HBW.out.cell (p := ⟨g, _, none⟩) hg).trans c3
      have hgw : g < wr.heap.size := Nat.lt_of_lt_of_le hg HBW.out.size
      clear c0 c1 c2 c3
      generalize l[k] = X at *
      obtain ⟨K, T, V, P⟩ := X
      dsimp only at s0 s1 s2 s3 hts hv1 hv2
      by_cases hk1 : K = 1
      · subst hk1
        have HW := Lib.hid (show wds (l.take (k + 1)) = wds (l.take k) ++ [T] by rw [hwd.out]; rfl)
        go_wp2_with (at_builtin; refine wpList_append_own _ rfl _ _ 52 rfl w.heap.size 9 i0 (.string ByteArray.empty) 1 16 Tryd.underlying52 hi hz0 hz1 hz2 rfl (by decide) _ _ _ rfl (HO.out.alloc _) _ 1 1 [.string T] rfl rfl ?A1 ?A2 ?A3 ?A4 ?A5 ?_)
        any_goals (first | (intro j u hj; match j, hj with | 0, hj => (simp at hj; subst hj; simp [Addr.add])) | (intro u hu; simp at hu; subst hu; rfl) | rfl | (unfold maxLen; have := HWL.out; omega) | (have := HWL.out; omega) | (have := HBW.out.size; simp; omega) | (have := HBW.out.size; simp; omega) | skip)
        intro v' w2 hown' hgrow _
        have HO2 := Lib.hid hown'
        have HB2 := Lib.hid ((HBW.out.alloc (by have := HBW.out.size; simp; omega) _).grown hgrow (by have := HBW.out.size; have := HBW.out.size; simp; omega) (fun j hj => (HO.out.lt j hj).1))
        clear hown' hgrow
        go_wp2_with fail
        go_roundw
        case rel => exact ⟨k + 1, by omega, by go_num, Lib.hid (by rw [HW.out, List.length_append, strs_app]; exact HO2.out), HB2⟩
        case measure => simp [intOf]; omega
      by_cases hk4 : K = 4
      · subst hk4
        have HW := Lib.hid (show wds (l.take (k + 1)) = wds (l.take k) ++ [T] by rw [hwd.out]; rfl)
        go_wp2_with (at_builtin; refine wpList_append_own _ rfl _ _ 52 rfl w.heap.size 9 i0 (.string ByteArray.empty) 1 16 Tryd.underlying52 hi hz0 hz1 hz2 rfl (by decide) _ _ _ rfl (HO.out.alloc _) _ 1 1 [.string T] rfl rfl ?B1 ?B2 ?B3 ?B4 ?B5 ?_)
        any_goals (first | (intro j u hj; match j, hj with | 0, hj => (simp at hj; subst hj; simp [Addr.add])) | (intro u hu; simp at hu; subst hu; rfl) | rfl | (unfold maxLen; have := HWL.out; omega) | (have := HWL.out; omega) | (have := HBW.out.size; simp; omega) | (have := HBW.out.size; simp; omega) | skip)
        intro v' w2 hown' hgrow _
        have HO2 := Lib.hid hown'
        have HB2 := Lib.hid ((HBW.out.alloc (by have := HBW.out.size; simp; omega) _).grown hgrow (by have := HBW.out.size; have := HBW.out.size; simp; omega) (fun j hj => (HO.out.lt j hj).1))
        clear hown' hgrow
        go_wp2_with fail
        go_roundw
        case rel => exact ⟨k + 1, by omega, by go_num, Lib.hid (by rw [HW.out, List.length_append, strs_app]; exact HO2.out), HB2⟩
        case measure => simp [intOf]; omega
      by_cases hk2 : K = 2
      · subst hk2
        have HW := Lib.hid (show wds (l.take (k + 1)) = wds (l.take k) ++ [(bst (Lib.itoa V))] by rw [hwd.out]; rfl)
        have FI := Lib.hid (fun w hT => fint V hv1 hv2 w hT)
        go_wp2_with fail
        refine (FI.out _ (HT.out.1.call HBW.out)).mono ?_
        rintro e w1 ⟨rfl, hb⟩
        have HO1 := Lib.hid (own9 HO.out hb)
        have HB1 := Lib.hid (below_call HBW.out hb)
        clear hb
        go_wp2_with (at_builtin; refine wpList_append_own _ rfl _ _ 52 rfl w.heap.size 9 i0 (.string ByteArray.empty) 1 16 Tryd.underlying52 hi hz0 hz1 hz2 rfl (by decide) _ _ _ rfl (HO1.out.alloc _) _ 1 1 [.string (bst (Lib.itoa V))] rfl rfl ?C1 ?C2 ?C3 ?C4 ?C5 ?_)
        any_goals (first | (intro j u hj; match j, hj with | 0, hj => (simp at hj; subst hj; simp [Addr.add])) | (intro u hu; simp at hu; subst hu; rfl) | rfl | (unfold maxLen; have := HWL.out; omega) | (have := HWL.out; omega) | (have := HBW.out.size; simp; omega) | (have := HB1.out.size; simp; omega) | skip)
        intro v' w2 hown' hgrow _
        have HO2 := Lib.hid hown'
        have HB2 := Lib.hid ((HB1.out.alloc HB1.out.size _).grown hgrow (by have := HB1.out.size; have := HBW.out.size; simp; omega) (fun j hj => (HO1.out.lt j hj).1))
        clear hown' hgrow
        go_wp2_with fail
        go_roundw
        case rel => exact ⟨k + 1, by omega, by go_num, Lib.hid (by rw [HW.out, List.length_append, strs_app]; exact HO2.out), HB2⟩
        case measure => simp [intOf]; omega
      by_cases hk3 : K = 3
      · subst hk3
        have HW := Lib.hid (show wds (l.take (k + 1)) = wds (l.take k) ++ [((⟨#[34]⟩ : ByteArray) ++ T ++ ⟨#[34]⟩)] by rw [hwd.out]; rfl)
        have y1 : ((⟨#[34]⟩ : ByteArray) ++ T).size ≤ 5001 := by rw [ByteArray.size_append]; show 1 + T.size ≤ 5001; omega
        have y2 : (⟨#[34]⟩ : ByteArray).size = 1 := rfl
        clear y2
        go_wp2_with (at_builtin; refine wpList_append_own _ rfl _ _ 52 rfl w.heap.size 9 i0 (.string ByteArray.empty) 1 16 Tryd.underlying52 hi hz0 hz1 hz2 rfl (by decide) _ _ _ rfl (HO.out.alloc _) _ 1 1 [.string ((⟨#[34]⟩ : ByteArray) ++ T ++ ⟨#[34]⟩)] rfl rfl ?D1 ?D2 ?D3 ?D4 ?D5 ?_)
        any_goals (first | (intro j u hj; match j, hj with | 0, hj => (simp at hj; subst hj; simp [Addr.add])) | (intro u hu; simp at hu; subst hu; rfl) | rfl | (unfold maxLen; have := HWL.out; omega) | (have := HWL.out; omega) | (have := HBW.out.size; simp; omega) | (have := HBW.out.size; simp; omega) | skip)
        intro v' w2 hown' hgrow _
        have HO2 := Lib.hid hown'
        have HB2 := Lib.hid ((HBW.out.alloc (by have := HBW.out.size; simp; omega) _).grown hgrow (by have := HBW.out.size; have := HBW.out.size; simp; omega) (fun j hj => (HO.out.lt j hj).1))
        clear hown' hgrow
        go_wp2_with fail
        go_roundw
        case rel => exact ⟨k + 1, by omega, by go_num, Lib.hid (by rw [HW.out, List.length_append, strs_app]; exact HO2.out), HB2⟩
        case measure => simp [intOf]; omega
      have g1 : (K == 1) = false := by rw [beq_eq_false_iff_ne]; exact hk1
      have g4 : (K == 4) = false := by rw [beq_eq_false_iff_ne]; exact hk4
      have g2 : (K == 2) = false := by rw [beq_eq_false_iff_ne]; exact hk2
      have g3 : (K == 3) = false := by rw [beq_eq_false_iff_ne]; exact hk3
      have HW := Lib.hid (show wds (l.take (k + 1)) = wds (l.take k) by rw [hwd.out, wrd_e hk1 hk4 hk2 hk3, List.append_nil])
      clear hk1 hk4 hk2 hk3
      go_wp2_with fail
      go_roundw
      case rel => exact ⟨k + 1, by omega, by go_num, Lib.hid (by rw [HW.out]; exact HO.out), Lib.hid HBW.out⟩
      case measure => simp [intOf]; omega
    · have hge : ¬ (k : Int) < (l.length : Int) := by omega
      obtain rfl : k = l.length := by omega
      have ho := HO.out
      rw [List.take_length] at ho
      have HC := Lib.hid (HJ2.out _ _ _ ho)
      clear hlt ho
      go_wp2_with fail
      refine HC.out.mono ?_
      rintro e w1 ⟨rfl, hb⟩
      have HB1 := Lib.hid (below_call HBW.out hb)
      clear hb
      go_wp2_with fail
      go_ret
      exact ⟨by rw [HP.out] <;> rfl, HB1.out⟩
end Go.Proofs.YtikmaljhfckbgaaDoor
