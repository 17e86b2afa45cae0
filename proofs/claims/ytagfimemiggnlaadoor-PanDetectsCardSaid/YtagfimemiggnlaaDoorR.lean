/- Make of both, whatever comes in; Index: plain facts; Index of the reference. -/
import Derived.Test.YtagfimemiggnlaaDoorQa
set_option linter.unusedVariables false
set_option linter.unusedSimpArgs false
namespace Go.Proofs.YtagfimemiggnlaaDoor
open Go.Sort Go.ChangeShapes Go.WideShapes Go.ChangeAt Go.RowKit
theorem tl_inj {a b : ByteArray} (h : a.toList = b.toList) : a = b := by
  rw [ByteArray.toList_eq, ByteArray.toList_eq] at h
  exact ls_ext h
theorem mk_parts (p : ByteArray) (n len : Int) : (len < 12 ∨ 19 < len ∨ p.size < 1 ∨ 10 < p.size ∨ allD p.data.toList = false ∨ n < 0) ∨ (12 ≤ len ∧ len ≤ 19 ∧ 1 ≤ p.size ∧ p.size ≤ 10 ∧ allD p.data.toList = true ∧ 0 ≤ n) := by
  cases h : allD p.data.toList
  · exact .inl (.inr (.inr (.inr (.inr (.inl rfl)))))
  · by_cases g : len < 12 ∨ 19 < len ∨ p.size < 1 ∨ 10 < p.size ∨ n < 0
    · exact .inl (by rcases g with g | g | g | g | g <;> simp [g])
    · exact .inr ⟨by omega, by omega, by omega, by omega, rfl, by omega⟩
theorem make_any (p : ByteArray) (n len : Int) (hs : p.size ≤ 100) (hn : n ≤ 9223372036854775807) (w : World) (hT : TabP w) :
    Calls Tryd.prog 21 #[.string p, .int .i64 n, .int .i64 len] w fun e w' => e = .returned (.tuple #[.string (mkV p n len), .int .i64 (mkE p n len)]) ∧ Below w.heap.size w w' := by
  rcases mk_parts p n len with h | ⟨h1, h2, h3, h4, h5, h6⟩
  · exact make_bad p n len hs w hT h
  · obtain ⟨N, rfl⟩ : ∃ N : Nat, n = N := ⟨n.toNat, by omega⟩
    exact make_ok p N (Lib.hid (by omega)) len h1 h2 h3 h4 h5 w hT
theorem rmake_any (p : ByteArray) (n len : Int) (hs : p.size ≤ 100) (hn : n ≤ 9223372036854775807) (w : World) :
    Calls Tryd.prog 22 #[.string p, .int .i64 n, .int .i64 len] w fun e w' => e = .returned (.tuple #[.string (mkV p n len), .int .i64 (mkE p n len)]) ∧ Below w.heap.size w w' := by
  rcases mk_parts p n len with h | ⟨h1, h2, h3, h4, h5, h6⟩
  · exact rmake_bad p n len hs w h
  · obtain ⟨N, rfl⟩ : ∃ N : Nat, n = N := ⟨n.toNat, by omega⟩
    exact rmake_ok p N (Lib.hid (by omega)) len h1 h2 h3 h4 h5 w
/- Index -/
theorem decFrom_valF (l : List UInt8) (h : allD l = true) : ∀ acc, Lib.decFrom acc l = some (valF acc l) := by
  induction l with
  | nil => intro acc; rw [valF_nil]; rfl
  | cons c r ih =>
    intro acc
    rw [allD_cons, Bool.and_eq_true] at h
    have h2 := (dgB_iff _).1 h.1
    unfold Lib.decFrom
    rw [show Lib.digitVal c = some (c.toNat - 48) by unfold Lib.digitVal; rw [if_pos h2]]
    rw [valF_cons]
    exact ih h.2 _
theorem atoi_valF (l : List UInt8) (h : allD l = true) (h0 : l ≠ []) : Lib.atoi l = some ((valF 0 l : Nat) : Int) := by
  cases l with
  | nil => exact absurd rfl h0
  | cons c r =>
    have hc := h
    rw [allD_cons, Bool.and_eq_true] at hc
    have h2 := (dgB_iff _).1 hc.1
    have n1 : (c == 45) = false := by
      rw [beq_eq_false_iff_ne]; intro e; rw [e] at h2; simp at h2
    have n2 : (c == 43) = false := by
      rw [beq_eq_false_iff_ne]; intro e; rw [e] at h2; simp at h2
    show (if (c == 45) = true then (Lib.decNat r).map fun (m : Nat) => -(m : Int) else if (c == 43) = true then (Lib.decNat r).map fun (m : Nat) => (m : Int) else (Lib.decNat (c :: r)).map fun (m : Nat) => (m : Int)) = _
    rw [n1, n2, if_neg (by simp), if_neg (by simp)]
    unfold Lib.decNat
    rw [List.isEmpty_cons, if_neg (by simp), decFrom_valF _ h]
    rfl
def mid (p s : ByteArray) : List UInt8 := ((ls s).drop p.size).take (s.size - 1 - p.size)
def idxB (p s : ByteArray) : Bool := isP p && ((chkP s == 0) && Lib.hasPrefix s.data.toList p.data.toList)
def idxV (p s : ByteArray) : Int := if idxB p s = true then ((valF 0 (mid p s) : Nat) : Int) else 0
theorem ls_allD {s : ByteArray} (h : allD s.data.toList = true) : allD (ls s) = true := h
theorem allD_drop {l : List UInt8} (h : allD l = true) (k : Nat) : allD (l.drop k) = true := by
  unfold allD at *; rw [List.all_eq_true] at *; exact fun x hx => h x (List.mem_of_mem_drop hx)
theorem allD_tk {l : List UInt8} (h : allD l = true) (k : Nat) : allD (l.take k) = true := by
  unfold allD at *; rw [List.all_eq_true] at *; exact fun x hx => h x (List.mem_of_mem_take hx)
theorem mid_all {p s : ByteArray} (h : allD s.data.toList = true) : allD (mid p s) = true := allD_tk (allD_drop (ls_allD h) _) _
theorem mid_len {p s : ByteArray} : (mid p s).length = s.size - 1 - p.size := by
  unfold mid; rw [List.length_take, List.length_drop, ← ls_size]; omega
theorem pre_iff (p s : ByteArray) (h : p.size ≤ s.size) : Lib.hasPrefix s.data.toList p.data.toList = true ↔ s.extract 0 p.size = p := by
  have e : ls (s.extract 0 p.size) = (ls s).take (ls p).length := by rw [ls_ex, List.drop_zero, Nat.sub_zero, ← ls_size]
  show (ls p).isPrefixOf (ls s) = true ↔ _
  rw [List.isPrefixOf_iff_prefix, List.prefix_iff_eq_take, ← e]
  exact ⟨fun h => ls_ext h.symm, fun h => by rw [h]⟩
theorem idx_no {p s : ByteArray} (h : idxB p s = false) : idxV p s = 0 := by unfold idxV; rw [h]; rfl
theorem idx_yes {p s : ByteArray} (h : idxB p s = true) : idxV p s = ((valF 0 (mid p s) : Nat) : Int) := by unfold idxV; rw [h, if_pos rfl]
theorem idxB_in {p s : ByteArray} (h : idxB p s = true) : isP p = true ∧ chkP s = 0 ∧ 1 ≤ p.size ∧ p.size ≤ 10 ∧ s.extract 0 p.size = p := by
  unfold idxB at h
  rw [Bool.and_eq_true, Bool.and_eq_true, beq_iff_eq] at h
  obtain ⟨h1, h2, h3⟩ := h
  have hc := chk_in s h2
  have hp : ¬ (p.size < 1 ∨ 10 < p.size) := fun h => by rw [isP_no h] at h1; cases h1
  exact ⟨h1, h2, by omega, by omega, (pre_iff p s (by omega)).1 h3⟩
theorem idxB_mk {p s : ByteArray} (h2 : chkP s = 0) (h3 : 1 ≤ p.size) (h4 : p.size ≤ 10) (h5 : s.extract 0 p.size = p) : idxB p s = true := by
  have hc := chk_in s h2
  have hd : allD p.data.toList = true := by
    have : allD (ls (s.extract 0 p.size)) = true := by rw [ls_ex, List.drop_zero]; exact allD_tk (ls_allD hc.2.2.1) _
    rw [h5] at this; exact this
  unfold idxB
  rw [isP_of (by omega) (by omega), hd, h2, (pre_iff p s (by omega)).2 h5]
  rfl
theorem mid_step {p s : ByteArray} (j : Nat) (hj : p.size + j + 1 < s.size) (hd : allD s.data.toList = true) :
    (valF 0 ((mid p s).take (j + 1)) : Int) = 10 * (valF 0 ((mid p s).take j) : Int) + ((s[p.size + j]'(by omega)).toNat - 48) ∧ valF 0 ((mid p s).take j) < 10 ^ j := by
  have hl : j < (mid p s).length := by rw [mid_len]; omega
  have he : (mid p s)[j] = s[p.size + j]'(by omega) := by
    have hq : (mid p s)[j]? = some (s[p.size + j]'(by omega)) := by
      unfold mid
      rw [List.getElem?_take_of_lt (by omega), List.getElem?_drop, List.getElem?_eq_getElem (by rw [← ls_size]; omega)]
      rfl
    rw [List.getElem?_eq_getElem hl] at hq
    exact Option.some.inj hq
  have hm := (dig_at hd (p.size + j) (by omega)).1
  constructor
  · rw [List.take_succ_eq_append_getElem hl, valF_app, he]
    show ((valF (valF 0 ((mid p s).take j)) [s[p.size + j]'(by omega)] : Nat) : Int) = _
    rw [valF_cons, valF_nil]
    omega
  · have := valF_lt _ (allD_tk (mid_all hd (p := p)) j)
    rw [List.length_take, Nat.min_eq_left (by omega)] at this
    exact this
set_option maxHeartbeats 1000000 in
theorem rindex_no (p s : ByteArray) (hp : p.size ≤ 100) (hs : s.size ≤ 200) (h : idxB p s = false) (w : World) :
    Calls Tryd.prog 24 #[.string p, .string s] w fun e w' => e = .returned (.tuple #[.int .i64 0, .bool false]) ∧ w' = w := by
  have RC := Lib.hid (fun w => rcheck_any s hs w)
  have hpi : (p.size : Int) ≤ 100 := by omega
  by_cases h1 : chkP s = 0
  · have hc := chk_in s h1
    rw [h1] at RC
    by_cases h2 : p.size < 1
    · have c2 : decide ((p.size : Int) < 1) = true := decide_eq_true (by omega)
      have c2b : p.size = 0 := by omega
      clear h h1 h2 hc
      go_enter Tryd.func24, Tryd.ntmps24
      go_wp2_with (go_at_call 16; refine (RC.out _).mono ?_; rintro e w' ⟨rfl, rfl⟩)
      exact bodyPost_ret (v := .tuple #[.int .i64 0, .bool false]) (by simp [results, Tryd.results24, go_sem]) rfl ⟨rfl, rfl⟩
    · have c2 : decide ((p.size : Int) < 1) = false := decide_eq_false (by omega)
      have c2b : ¬ p.size = 0 := by omega
      by_cases h3 : 10 < p.size
      · have c3 : decide (10 < (p.size : Int)) = true := decide_eq_true (by omega)
        clear h h1 h2 hc h3
        go_enter Tryd.func24, Tryd.ntmps24
        go_wp2_with (go_at_call 16; refine (RC.out _).mono ?_; rintro e w' ⟨rfl, rfl⟩)
        exact bodyPost_ret (v := .tuple #[.int .i64 0, .bool false]) (by simp [results, Tryd.results24, go_sem]) rfl ⟨rfl, rfl⟩
      · have c3 : decide (10 < (p.size : Int)) = false := decide_eq_false (by omega)
        have hne : ¬ s.extract 0 p.size = p := fun e => by rw [idxB_mk h1 (by omega) (by omega) e] at h; cases h
        have c4 : ((s.extract 0 p.size).toList != p.toList) = true := by
          rw [bne_iff_ne]; intro e; exact hne (tl_inj e)
        have c4b : ((s.extract 0 p.size).toList == p.toList) = false := by
          rw [beq_eq_false_iff_ne]; intro e; exact hne (tl_inj e)
        have q1 := cut_h s p.size (by omega)
        clear h h1 h2 hc h3 hne
        go_enter Tryd.func24, Tryd.ntmps24
        go_wp2_with (go_at_call 16; refine (RC.out _).mono ?_; rintro e w' ⟨rfl, rfl⟩)
        exact bodyPost_ret (v := .tuple #[.int .i64 0, .bool false]) (by simp [results, Tryd.results24, go_sem]) rfl ⟨rfl, rfl⟩
  · have c1 : (chkP s != 0) = true := by rw [bne_iff_ne]; exact h1
    have c1b : (chkP s == 0) = false := by rw [beq_eq_false_iff_ne]; exact h1
    generalize chkP s = P at *
    clear h h1
    go_enter Tryd.func24, Tryd.ntmps24
    go_wp2_with (go_at_call 16; refine (RC.out _).mono ?_; rintro e w' ⟨rfl, rfl⟩)
    exact bodyPost_ret (v := .tuple #[.int .i64 0, .bool false]) (by simp [results, Tryd.results24, go_sem]) rfl ⟨rfl, rfl⟩
set_option maxHeartbeats 1000000 in
theorem rindex_yes (p s : ByteArray) (h : idxB p s = true) (w : World) :
    Calls Tryd.prog 24 #[.string p, .string s] w fun e w' => e = .returned (.tuple #[.int .i64 (valF 0 (mid p s) : Nat), .bool true]) ∧ w' = w := by
  obtain ⟨_, h1, h2, h3, h4⟩ := idxB_in h
  obtain ⟨l0, l1, hd, _⟩ := chk_in s h1
  have RC := Lib.hid (fun w => rcheck_any s (by omega) w)
  rw [h1] at RC
  have c2 : decide ((p.size : Int) < 1) = false := decide_eq_false (by omega)
  have c2b : ¬ p.size = 0 := by omega
  have c3 : decide (10 < (p.size : Int)) = false := decide_eq_false (by omega)
  have c4 : ((s.extract 0 p.size).toList != p.toList) = false := by rw [h4]; simp
  have c4b : ((s.extract 0 p.size).toList == p.toList) = true := by rw [h4]; simp
  have q1 := cut_h s p.size (by omega)
  have hpi : (p.size : Int) ≤ 10 := by omega
  have hsi : (s.size : Int) ≤ 19 := by omega
  have hsj : (12 : Int) ≤ (s.size : Int) := by omega
  have HD := Lib.hid (@dig_at s hd)
  have HS := Lib.hid (fun j hj => mid_step (p := p) (s := s) j hj hd)
  obtain ⟨g, hg⟩ : ∃ g : Nat → Nat, g = fun j => valF 0 ((mid p s).take j) := ⟨_, rfl⟩
  have HG : Hid (∀ j, g j = valF 0 ((mid p s).take j)) := Lib.hid (fun j => by rw [hg])
  have HE := Lib.hid (show g (s.size - 1 - p.size) = valF 0 (mid p s) by rw [hg]; show valF 0 ((mid p s).take _) = _; rw [List.take_of_length_le (by rw [mid_len]; omega)])
  clear h h1 h4 hd hg
  go_enter Tryd.func24, Tryd.ntmps24
  go_wp2_with (go_at_call 16; refine (RC.out _).mono ?_; rintro e w' ⟨rfl, rfl⟩)
  go_loop [6, 7] (fun x y => ∃ (j k : Nat) (G : Int), k = p.size + j ∧ k + 1 ≤ s.size ∧ x = .int .i64 G ∧ y = .int .i64 k ∧ Hid (((g j : Nat) : Int) = G) ∧ 0 ≤ G ∧ G ≤ 100000000000000000) (fun _ y => s.size - (intOf y).toNat)
  case atStart => exact ⟨0, p.size, 0, by omega, by omega, rfl, rfl, Lib.hid (by rw [HG.out]; simp [valF_nil]), by omega, by omega⟩
  case round =>
    obtain ⟨j, k, G, hkj, hk, rfl, rfl, hG, G0, G1⟩ := hrel
    by_cases hlt : k + 1 < s.size
    · have hlt' : (k : Int) < (s.size : Int) - 1 := by omega
      have hlt2 : k < s.size := by omega
      obtain ⟨v0, v1, _⟩ := HD.out k hlt2
      have hst := (HS.out j (by omega)).1
      have HKJ := Lib.hid hkj
      have hsk : s[p.size + j]'(by omega) = s[k] := by congr 1; exact hkj.symm
      rw [hsk, ← HG.out, ← HG.out, hG.out] at hst
      have hb17 : (g (j + 1) : Int) ≤ 100000000000000000 := by
        rw [HG.out]
        have hA := valF_lt _ (allD_tk (mid_all (p := p) (s := s) (by
          have := HD.out
          unfold allD
          rw [List.all_eq_true]
          intro x hx
          obtain ⟨i, hi, rfl⟩ := List.getElem_of_mem hx
          have h1 := this i (by simpa using hi)
          refine (dgB_iff _).2 ?_
          have h2 : s[i]'(by simpa using hi) = s.data.toList[i] := by simp [ByteArray.getElem_eq_getElem_data]
          rw [← h2]
          omega)) (j + 1))
        have hl : ((mid p s).take (j + 1)).length ≤ 17 := by rw [List.length_take, mid_len]; omega
        have := Nat.lt_of_lt_of_le hA (Nat.pow_le_pow_right (by omega) hl)
        have e17 : (10 : Nat) ^ 17 = 100000000000000000 := by decide
        omega
      obtain ⟨v, hv⟩ : ∃ v : Int, (s[k].toNat : Int) = v := ⟨_, rfl⟩
      rw [hv] at v0 v1 hst
      have HN := Lib.hid hst
      have hw : IntKind.u8.wrap (v - 48) = v - 48 := by rw [IntKind.wrap_u8]; omega
      have HB := Lib.hid hb17
      clear hst hkj hsk hb17
      go_wp2_with fail
      go_round
      case rel => exact ⟨j + 1, k + 1, _, by have := HKJ.out; omega, by omega, rfl, by go_num, HN, by omega, by have := HB.out; have := HN.out; omega⟩
      case measure => simp [intOf]; omega
    · have hge : ¬ (k : Int) < (s.size : Int) - 1 := by omega
      have hj : j = s.size - 1 - p.size := by omega
      have HV := Lib.hid (show G = ((valF 0 (mid p s) : Nat) : Int) by rw [← hG.out, hj, HE.out])
      clear hj hkj
      go_wp2_with fail
      exact bodyPost_ret (v := .tuple #[.int .i64 G, .bool true]) (by simp [results, Tryd.results24, go_sem]) rfl ⟨by rw [HV.out], rfl⟩
end Go.Proofs.YtagfimemiggnlaaDoor
