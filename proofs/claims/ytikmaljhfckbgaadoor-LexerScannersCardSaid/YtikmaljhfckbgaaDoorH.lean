/- What stands at the beginning of a source; name, number, literal, mark of the program. -/
import Derived.Test.YtikmaljhfckbgaaDoorG
set_option linter.unusedVariables false
set_option linter.unusedSimpArgs false
namespace Go.Proofs.YtikmaljhfckbgaaDoor
open Go.Sort Go.ChangeShapes Go.WideShapes Go.ChangeAt Go.RowKit
inductive St where
  | bad (e : Int)
  | skip (n : Nat)
  | tok (n : Nat) (k : Int) (t : List UInt8) (v : Int)
def St.n : St → Int
  | .bad _ => 0
  | .skip n => n
  | .tok n _ _ _ => n
def St.e : St → Int
  | .bad e => e
  | _ => 0
def St.k : St → Int
  | .tok _ k _ _ => k
  | _ => 0
def St.t : St → ByteArray
  | .tok _ _ t _ => bst t
  | _ => ⟨#[]⟩
def St.v : St → Int
  | .tok _ _ _ v => v
  | _ => 0
def nameS (x : List UInt8) : St := if 16 < x.length then .bad 3 else .tok x.length 1 x 0
def numB (x : List UInt8) : St := if (allD x && !(x == [])) = false ∨ (x.getD 0 0 = 48 ∧ 1 < x.length) then .bad 2 else if 9007199254740992 < valF 0 x then .bad 4 else .tok x.length 2 [] (valF 0 x)
def upq (r : List UInt8) : List UInt8 := r.takeWhile (fun x => x != 34)
def litS (r : List UInt8) : St := if (upq r).length = r.length ∨ prn (upq r) = false then .bad 2 else if 100 < (upq r).length then .bad 3 else .tok ((upq r).length + 2) 3 (upq r) 0
def mrkS (c : UInt8) (r : List UInt8) : St := if (c = 33 ∨ c = 60) ∧ r.head? = some 61 then .tok 2 4 [c, 61] 0 else if c = 33 then .bad 2 else .tok 1 4 [c] 0
def stp : List UInt8 → St
  | [] => .bad 2
  | c :: r => if cls c.toNat = 1 then .skip 1 else if cls c.toNat = 2 then .skip ((c :: r).takeWhile (fun x => x != 10)).length else if cls c.toNat = 3 then nameS (wordL (c :: r)) else if cls c.toNat = 4 then numB (wordL (c :: r)) else if cls c.toNat = 5 then litS r else if cls c.toNat = 6 then mrkS c r else .bad 2
abbrev lx (k : Int) (t : ByteArray) (v a : Int) : Value := .agg #[.int .i64 k, .string t, .int .i64 v, .int .i64 a]
abbrev St.r (x : St) : Value := .tuple #[.int .i64 x.n, lx x.k x.t x.v 0, .int .i64 x.e]
/-- the listed variables: the table of powers, the two errors of strconv -/
def LT (w : World) : Prop := TabP w ∧ EC 4 w ∧ EC 5 w
theorem LT.call {w w1 : World} (h : LT w) (hb : Below w.heap.size w w1) : LT w1 := ⟨h.1.call hb, h.2.1.call hb, h.2.2.call hb⟩
set_option maxHeartbeats 2000000 in
set_option maxRecDepth 100000 in
theorem name_any (s : ByteArray) (hs : s.size ≤ 10000) (w : World) : Calls Tryd.prog 47 #[.string s] w fun e w' => e = .returned (nameS (ls s)).r ∧ Below w.heap.size w w' := by
  have HC := Lib.hid (fun w => clone_any s hs w)
  have hsi : (s.size : Int) ≤ 10000 := by omega
  by_cases h : 16 < s.size
  · have e1 : nameS (ls s) = .bad 3 := by unfold nameS; rw [if_pos (by rw [← ls_size]; exact h)]
    rw [e1]
    have c1 : decide ((16 : Int) < (s.size : Int)) = true := decide_eq_true (by omega)
    clear h e1 hs
    go_enter Tryd.func47, Tryd.ntmps47
    go_wp2_with fail
    exact bodyPost_ret (v := .tuple #[.int .i64 0, lx 0 ⟨#[]⟩ 0 0, .int .i64 3]) (by simp [results, Tryd.results47, go_sem]) rfl ⟨rfl, (by repeat (first | exact Below.refl _ _ | refine al ?_ | refine bre ?_ _ _ | refine Below.drew ?_))⟩
  · have e1 : nameS (ls s) = .tok s.size 1 (ls s) 0 := by unfold nameS; rw [if_neg (by rw [← ls_size]; exact h)]; rfl
    have e2 : (St.tok s.size 1 (ls s) 0).r = .tuple #[.int .i64 s.size, lx 1 s 0 0, .int .i64 0] := by show Value.tuple _ = _; rw [show (St.tok s.size 1 (ls s) 0).t = s from bst_ls s]; rfl
    rw [e1, e2]
    have c1 : decide ((16 : Int) < (s.size : Int)) = false := decide_eq_false (by omega)
    clear h e1 e2 hs
    go_enter Tryd.func47, Tryd.ntmps47
    go_wp2_with fail
    refine (HC.out _).mono ?_
    rintro e w1 ⟨rfl, hb⟩
    obtain ⟨d1, o1, rfl⟩ := regrow_of hb
    clear hb
    go_wp2_with fail
    exact bodyPost_ret (v := .tuple #[.int .i64 s.size, lx 1 s 0 0, .int .i64 0]) (by simp [results, Tryd.results47, go_sem]) rfl ⟨rfl, (by repeat (first | exact Below.refl _ _ | refine al ?_ | refine bre ?_ _ _ | refine Below.drew ?_))⟩
theorem dec_lb (l : List UInt8) (h : allD l = true) (c : UInt8) (r : List UInt8) (hl : l = c :: r) (hc : c ≠ 48) : 10 ^ r.length ≤ valF 0 l := by
  subst hl
  rw [valF_cons, valF_acc]
  rw [allD_cons, Bool.and_eq_true] at h
  have h1 := (dgB_iff _).1 h.1
  have h2 : c.toNat ≠ 48 := fun e => hc (UInt8.toNat_inj.1 e)
  have : 1 ≤ 0 * 10 + (c.toNat - 48) := by omega
  calc 10 ^ r.length = 1 * 10 ^ r.length := (Nat.one_mul _).symm
    _ ≤ (0 * 10 + (c.toNat - 48)) * 10 ^ r.length := Nat.mul_le_mul_right _ this
    _ ≤ _ := Nat.le_add_right _ _
theorem dec_back (l : List UInt8) (h : allD l = true) (h0 : l ≠ []) (hz : ¬ (l.getD 0 0 = 48 ∧ 1 < l.length)) : Lib.decDigits (valF 0 l) = l := by
  cases l with
  | nil => exact absurd rfl h0
  | cons c r =>
    have hA := dec_all (valF 0 (c :: r))
    have hV := dec_val (valF 0 (c :: r))
    have hlt := valF_lt (c :: r) h
    have hlen := dec_len' r.length (valF 0 (c :: r)) hlt
    have hge : (c :: r).length ≤ (Lib.decDigits (valF 0 (c :: r))).length := by
      cases r with
      | nil => exact hlen.1
      | cons d r =>
        have hc : c ≠ 48 := fun e => hz ⟨e, by simp⟩
        have hlb := dec_lb _ h c (d :: r) rfl hc
        have h2 := valF_lt _ hA
        rw [hV] at h2
        have := Nat.lt_of_le_of_lt hlb h2
        have := (Nat.pow_lt_pow_iff_right (by omega : 1 < 10)).1 this
        simp only [List.length_cons] at *
        omega
    have heq : (Lib.decDigits (valF 0 (c :: r))).length = (c :: r).length := by
      simp only [List.length_cons] at *; omega
    have e1 := dgw_uniq _ hA
    rw [heq, hV] at e1
    exact e1.trans (dgw_uniq _ h).symm
theorem fi_nat (n : Nat) (h : n ≤ 9223372036854775807) : ∀ w, Tab w → Calls Tryd.prog 32 #[.int .i64 (n : Int), .int .i64 10] w fun e w' => e = .returned (.string (bst (Lib.decDigits n))) ∧ Below w.heap.size w w' := fun w hT =>
  fi_call n (Lib.hid h) w hT
theorem pnum_ok (s : ByteArray) (hs : s.size ≤ 10000) (hD : allD (ls s) = true) (h0 : ls s ≠ []) (hz : ¬ ((ls s).getD 0 0 = 48 ∧ 1 < (ls s).length)) (hv : valF 0 (ls s) < 9223372036854775808) (w : World) (hT : LT w) :
    Calls Tryd.prog 66 #[.string s] w fun e w' => e = .returned (.tuple #[.int .i64 (valF 0 (ls s) : Nat), .bool true]) ∧ Below w.heap.size w w' := by
  have hp : Lib.parseIntB 64 s.data.toList = .ok ((valF 0 (ls s) : Nat) : Int) := by rw [pib _ hD h0, if_pos hv]
  refine nm_ok s s ((valF 0 (ls s) : Nat) : Int) w hT.1 (fun w => (Tryd.strconv_ParseInt_10_at64_ok s (by omega) _ hp w).mono fun e w' ⟨he, hw⟩ => ⟨he, ?_⟩) (fun w h => ?_) (by simp)
  · rcases hw with rfl | ⟨t, rfl⟩
    · exact Below.refl _ _
    · exact Go.Joins.below_bytesWorld w.heap.size w 5 t (Nat.le_refl _)
  · have := fi_nat (valF 0 (ls s)) (by omega) w h
    rw [dec_back _ hD h0 hz, bst_ls] at this
    exact this
theorem pnum_big (s : ByteArray) (hs : s.size ≤ 10000) (hD : allD (ls s) = true) (h0 : ls s ≠ []) (hv : ¬ valF 0 (ls s) < 9223372036854775808) (w : World) (hT : LT w) :
    Calls Tryd.prog 66 #[.string s] w fun e w' => e = .returned (.tuple #[.int .i64 0, .bool false]) ∧ Below w.heap.size w w' := by
  have hp : Lib.parseIntB 64 s.data.toList = .range := by rw [pib _ hD h0, if_neg hv]
  exact nm_er s (Lib.intSat 64 s.data.toList) w hT.2.1 hT.2.2 (fun w _ ⟨ev, hv, hev⟩ => (Tryd.strconv_ParseInt_10_at64_range s (by omega) hp ev w hv hev).mono fun e w' ⟨N, he, _, _, hb⟩ => ⟨N, he, hb⟩)
set_option maxHeartbeats 2000000 in
set_option maxRecDepth 100000 in
theorem no_dig (s : ByteArray) (w : World) (hs : s.size ≤ 10000) (I : Hid (∀ w, Calls Tryd.prog 65 #[.string s] w fun e w' => e = .returned (.bool false) ∧ w' = w)) :
    Calls Tryd.prog 49 #[.string s] w fun e w' => e = .returned (.tuple #[.int .i64 0, lx 0 ⟨#[]⟩ 0 0, .int .i64 2]) ∧ Below w.heap.size w w' := by
  have hsi : (s.size : Int) ≤ 10000 := by omega
  go_enter Tryd.func49, Tryd.ntmps49
  go_wp2_with fail
  refine (I.out _).mono ?_
  rintro e w1 ⟨rfl, rfl⟩
  go_wp2_with fail
  exact bodyPost_ret (v := .tuple #[.int .i64 0, lx 0 ⟨#[]⟩ 0 0, .int .i64 2]) (by simp [results, Tryd.results49, go_sem]) rfl ⟨rfl, (by repeat (first | exact Below.refl _ _ | refine al ?_ | refine bre ?_ _ _ | refine Below.drew ?_))⟩
set_option maxHeartbeats 2000000 in
set_option maxRecDepth 100000 in
theorem no_zero (s : ByteArray) (w : World) (hs : s.size ≤ 10000) (I : Hid (∀ w, Calls Tryd.prog 65 #[.string s] w fun e w' => e = .returned (.bool true) ∧ w' = w)) (h1 : 1 < s.size) (hc : (s[0].toNat : Int) = 48) :
    Calls Tryd.prog 49 #[.string s] w fun e w' => e = .returned (.tuple #[.int .i64 0, lx 0 ⟨#[]⟩ 0 0, .int .i64 2]) ∧ Below w.heap.size w w' := by
  have hsi : (s.size : Int) ≤ 10000 := by omega
  have q0 := idx_at s 0 (by omega)
  have c1 : ((s[0].toNat : Int) == 48) = true := by rw [hc]; rfl
  have c2 : decide ((1 : Int) < (s.size : Int)) = true := decide_eq_true (by omega)
  have c3 : (0 : Int) < (s.size : Int) := by omega
  clear hc
  go_enter Tryd.func49, Tryd.ntmps49
  go_wp2_with fail
  refine (I.out _).mono ?_
  rintro e w1 ⟨rfl, rfl⟩
  go_wp2_with fail
  exact bodyPost_ret (v := .tuple #[.int .i64 0, lx 0 ⟨#[]⟩ 0 0, .int .i64 2]) (by simp [results, Tryd.results49, go_sem]) rfl ⟨rfl, (by repeat (first | exact Below.refl _ _ | refine al ?_ | refine bre ?_ _ _ | refine Below.drew ?_))⟩
set_option maxHeartbeats 2000000 in
set_option maxRecDepth 100000 in
theorem no_rangea (s : ByteArray) (w : World) (hs : s.size ≤ 10000) (I : Hid (∀ w, Calls Tryd.prog 65 #[.string s] w fun e w' => e = .returned (.bool true) ∧ w' = w)) (h0 : 0 < s.size) (c1 : ((s[0].toNat : Int) == 48) = true) (c2 : decide ((1 : Int) < (s.size : Int)) = false) (N : Hid (∀ w, LT w → Calls Tryd.prog 66 #[.string s] w fun e w' => e = .returned (.tuple #[.int .i64 0, .bool false]) ∧ Below w.heap.size w w')) (hT : Hid (LT w)) :
    Calls Tryd.prog 49 #[.string s] w fun e w' => e = .returned (.tuple #[.int .i64 0, lx 0 ⟨#[]⟩ 0 0, .int .i64 4]) ∧ Below w.heap.size w w' := by
  have hsi : (s.size : Int) ≤ 10000 := by omega
  have q0 := idx_at s 0 h0
  have c3 : (0 : Int) < (s.size : Int) := by omega
  go_enter Tryd.func49, Tryd.ntmps49
  go_wp2_with fail
  refine (I.out _).mono ?_
  rintro e w1 ⟨rfl, rfl⟩
  go_wp2_with fail
  refine (N.out _ (hT.out.call (by repeat (first | exact Below.refl _ _ | refine al ?_ | refine bre ?_ _ _ | refine Below.drew ?_)))).mono ?_
  rintro e w2 ⟨rfl, hb⟩
  obtain ⟨d1, o1, rfl⟩ := regrow_of hb
  clear hb
  go_wp2_with fail
  exact bodyPost_ret (v := .tuple #[.int .i64 0, lx 0 ⟨#[]⟩ 0 0, .int .i64 4]) (by simp [results, Tryd.results49, go_sem]) rfl ⟨rfl, (by repeat (first | exact Below.refl _ _ | refine al ?_ | refine bre ?_ _ _ | refine Below.drew ?_))⟩
set_option maxHeartbeats 2000000 in
set_option maxRecDepth 100000 in
theorem no_rangeb (s : ByteArray) (w : World) (hs : s.size ≤ 10000) (I : Hid (∀ w, Calls Tryd.prog 65 #[.string s] w fun e w' => e = .returned (.bool true) ∧ w' = w)) (h0 : 0 < s.size) (c1 : ((s[0].toNat : Int) == 48) = false) (N : Hid (∀ w, LT w → Calls Tryd.prog 66 #[.string s] w fun e w' => e = .returned (.tuple #[.int .i64 0, .bool false]) ∧ Below w.heap.size w w')) (hT : Hid (LT w)) :
    Calls Tryd.prog 49 #[.string s] w fun e w' => e = .returned (.tuple #[.int .i64 0, lx 0 ⟨#[]⟩ 0 0, .int .i64 4]) ∧ Below w.heap.size w w' := by
  have hsi : (s.size : Int) ≤ 10000 := by omega
  have q0 := idx_at s 0 h0
  have c3 : (0 : Int) < (s.size : Int) := by omega
  go_enter Tryd.func49, Tryd.ntmps49
  go_wp2_with fail
  refine (I.out _).mono ?_
  rintro e w1 ⟨rfl, rfl⟩
  go_wp2_with fail
  refine (N.out _ (hT.out.call (by repeat (first | exact Below.refl _ _ | refine al ?_ | refine bre ?_ _ _ | refine Below.drew ?_)))).mono ?_
  rintro e w2 ⟨rfl, hb⟩
  obtain ⟨d1, o1, rfl⟩ := regrow_of hb
  clear hb
  go_wp2_with fail
  exact bodyPost_ret (v := .tuple #[.int .i64 0, lx 0 ⟨#[]⟩ 0 0, .int .i64 4]) (by simp [results, Tryd.results49, go_sem]) rfl ⟨rfl, (by repeat (first | exact Below.refl _ _ | refine al ?_ | refine bre ?_ _ _ | refine Below.drew ?_))⟩
set_option maxHeartbeats 2000000 in
set_option maxRecDepth 100000 in
theorem no_greata (s : ByteArray) (w : World) (hs : s.size ≤ 10000) (I : Hid (∀ w, Calls Tryd.prog 65 #[.string s] w fun e w' => e = .returned (.bool true) ∧ w' = w)) (h0 : 0 < s.size) (c1 : ((s[0].toNat : Int) == 48) = true) (c2 : decide ((1 : Int) < (s.size : Int)) = false) (V : Int) (N : Hid (∀ w, LT w → Calls Tryd.prog 66 #[.string s] w fun e w' => e = .returned (.tuple #[.int .i64 V, .bool true]) ∧ Below w.heap.size w w')) (hT : Hid (LT w)) (hV : decide (9007199254740992 < V) = true) :
    Calls Tryd.prog 49 #[.string s] w fun e w' => e = .returned (.tuple #[.int .i64 0, lx 0 ⟨#[]⟩ 0 0, .int .i64 4]) ∧ Below w.heap.size w w' := by
  have hsi : (s.size : Int) ≤ 10000 := by omega
  have q0 := idx_at s 0 h0
  have c3 : (0 : Int) < (s.size : Int) := by omega
  go_enter Tryd.func49, Tryd.ntmps49
  go_wp2_with fail
  refine (I.out _).mono ?_
  rintro e w1 ⟨rfl, rfl⟩
  go_wp2_with fail
  refine (N.out _ (hT.out.call (by repeat (first | exact Below.refl _ _ | refine al ?_ | refine bre ?_ _ _ | refine Below.drew ?_)))).mono ?_
  rintro e w2 ⟨rfl, hb⟩
  obtain ⟨d1, o1, rfl⟩ := regrow_of hb
  clear hb
  go_wp2_with fail
  exact bodyPost_ret (v := .tuple #[.int .i64 0, lx 0 ⟨#[]⟩ 0 0, .int .i64 4]) (by simp [results, Tryd.results49, go_sem]) rfl ⟨rfl, (by repeat (first | exact Below.refl _ _ | refine al ?_ | refine bre ?_ _ _ | refine Below.drew ?_))⟩
set_option maxHeartbeats 2000000 in
set_option maxRecDepth 100000 in
theorem no_greatb (s : ByteArray) (w : World) (hs : s.size ≤ 10000) (I : Hid (∀ w, Calls Tryd.prog 65 #[.string s] w fun e w' => e = .returned (.bool true) ∧ w' = w)) (h0 : 0 < s.size) (c1 : ((s[0].toNat : Int) == 48) = false) (V : Int) (N : Hid (∀ w, LT w → Calls Tryd.prog 66 #[.string s] w fun e w' => e = .returned (.tuple #[.int .i64 V, .bool true]) ∧ Below w.heap.size w w')) (hT : Hid (LT w)) (hV : decide (9007199254740992 < V) = true) :
    Calls Tryd.prog 49 #[.string s] w fun e w' => e = .returned (.tuple #[.int .i64 0, lx 0 ⟨#[]⟩ 0 0, .int .i64 4]) ∧ Below w.heap.size w w' := by
  have hsi : (s.size : Int) ≤ 10000 := by omega
  have q0 := idx_at s 0 h0
  have c3 : (0 : Int) < (s.size : Int) := by omega
  go_enter Tryd.func49, Tryd.ntmps49
  go_wp2_with fail
  refine (I.out _).mono ?_
  rintro e w1 ⟨rfl, rfl⟩
  go_wp2_with fail
  refine (N.out _ (hT.out.call (by repeat (first | exact Below.refl _ _ | refine al ?_ | refine bre ?_ _ _ | refine Below.drew ?_)))).mono ?_
  rintro e w2 ⟨rfl, hb⟩
  obtain ⟨d1, o1, rfl⟩ := regrow_of hb
  clear hb
  go_wp2_with fail
  exact bodyPost_ret (v := .tuple #[.int .i64 0, lx 0 ⟨#[]⟩ 0 0, .int .i64 4]) (by simp [results, Tryd.results49, go_sem]) rfl ⟨rfl, (by repeat (first | exact Below.refl _ _ | refine al ?_ | refine bre ?_ _ _ | refine Below.drew ?_))⟩
set_option maxHeartbeats 2000000 in
set_option maxRecDepth 100000 in
theorem no_oka (s : ByteArray) (w : World) (hs : s.size ≤ 10000) (I : Hid (∀ w, Calls Tryd.prog 65 #[.string s] w fun e w' => e = .returned (.bool true) ∧ w' = w)) (h0 : 0 < s.size) (c1 : ((s[0].toNat : Int) == 48) = true) (c2 : decide ((1 : Int) < (s.size : Int)) = false) (V : Int) (N : Hid (∀ w, LT w → Calls Tryd.prog 66 #[.string s] w fun e w' => e = .returned (.tuple #[.int .i64 V, .bool true]) ∧ Below w.heap.size w w')) (hT : Hid (LT w)) (hV : decide (9007199254740992 < V) = false) :
    Calls Tryd.prog 49 #[.string s] w fun e w' => e = .returned (.tuple #[.int .i64 s.size, lx 2 ⟨#[]⟩ V 0, .int .i64 0]) ∧ Below w.heap.size w w' := by
  have hsi : (s.size : Int) ≤ 10000 := by omega
  have q0 := idx_at s 0 h0
  have c3 : (0 : Int) < (s.size : Int) := by omega
  go_enter Tryd.func49, Tryd.ntmps49
  go_wp2_with fail
  refine (I.out _).mono ?_
  rintro e w1 ⟨rfl, rfl⟩
  go_wp2_with fail
  refine (N.out _ (hT.out.call (by repeat (first | exact Below.refl _ _ | refine al ?_ | refine bre ?_ _ _ | refine Below.drew ?_)))).mono ?_
  rintro e w2 ⟨rfl, hb⟩
  obtain ⟨d1, o1, rfl⟩ := regrow_of hb
  clear hb
  go_wp2_with fail
  exact bodyPost_ret (v := .tuple #[.int .i64 s.size, lx 2 ⟨#[]⟩ V 0, .int .i64 0]) (by simp [results, Tryd.results49, go_sem]) rfl ⟨rfl, (by repeat (first | exact Below.refl _ _ | refine al ?_ | refine bre ?_ _ _ | refine Below.drew ?_))⟩
set_option maxHeartbeats 2000000 in
set_option maxRecDepth 100000 in
theorem no_okb (s : ByteArray) (w : World) (hs : s.size ≤ 10000) (I : Hid (∀ w, Calls Tryd.prog 65 #[.string s] w fun e w' => e = .returned (.bool true) ∧ w' = w)) (h0 : 0 < s.size) (c1 : ((s[0].toNat : Int) == 48) = false) (V : Int) (N : Hid (∀ w, LT w → Calls Tryd.prog 66 #[.string s] w fun e w' => e = .returned (.tuple #[.int .i64 V, .bool true]) ∧ Below w.heap.size w w')) (hT : Hid (LT w)) (hV : decide (9007199254740992 < V) = false) :
    Calls Tryd.prog 49 #[.string s] w fun e w' => e = .returned (.tuple #[.int .i64 s.size, lx 2 ⟨#[]⟩ V 0, .int .i64 0]) ∧ Below w.heap.size w w' := by
  have hsi : (s.size : Int) ≤ 10000 := by omega
  have q0 := idx_at s 0 h0
  have c3 : (0 : Int) < (s.size : Int) := by omega
  go_enter Tryd.func49, Tryd.ntmps49
  go_wp2_with fail
  refine (I.out _).mono ?_
  rintro e w1 ⟨rfl, rfl⟩
  go_wp2_with fail
  refine (N.out _ (hT.out.call (by repeat (first | exact Below.refl _ _ | refine al ?_ | refine bre ?_ _ _ | refine Below.drew ?_)))).mono ?_
  rintro e w2 ⟨rfl, hb⟩
  obtain ⟨d1, o1, rfl⟩ := regrow_of hb
  clear hb
  go_wp2_with fail
  exact bodyPost_ret (v := .tuple #[.int .i64 s.size, lx 2 ⟨#[]⟩ V 0, .int .i64 0]) (by simp [results, Tryd.results49, go_sem]) rfl ⟨rfl, (by repeat (first | exact Below.refl _ _ | refine al ?_ | refine bre ?_ _ _ | refine Below.drew ?_))⟩
theorem number_any (s : ByteArray) (hs : s.size ≤ 10000) (w : World) (hT : LT w) : Calls Tryd.prog 49 #[.string s] w fun e w' => e = .returned (numB (ls s)).r ∧ Below w.heap.size w w' := by
  have I := Lib.hid (fun w => isdigits_any s w (by unfold maxLen; omega))
  have HTT := Lib.hid hT
  have e0 : isD s = (allD (ls s) && !(ls s == [])) := by unfold isD; rw [ls_tl]
  rw [e0] at I
  cases hd : (allD (ls s) && !(ls s == []))
  · have e1 : numB (ls s) = .bad 2 := by unfold numB; rw [if_pos (.inl hd)]
    rw [hd] at I
    rw [e1]
    exact no_dig s w hs I
  rw [hd] at I
  rw [Bool.and_eq_true] at hd
  have hne : ls s ≠ [] := by intro h; rw [h] at hd; simp at hd
  have h0 : 0 < s.size := by rw [ls_size]; exact List.length_pos_iff.2 hne
  have g0 : (ls s).getD 0 0 = s[0] := getD_at s 0 h0
  have gi : ∀ c : UInt8, (c.toNat : Int) = 48 ↔ c = 48 := fun c => by
    constructor
    · intro h; exact UInt8.toNat_inj.1 (by show c.toNat = 48; omega)
    · rintro rfl; rfl
  by_cases hz : (ls s).getD 0 0 = 48 ∧ 1 < (ls s).length
  · have e1 : numB (ls s) = .bad 2 := by unfold numB; rw [if_pos (.inr hz)]
    rw [e1]
    exact no_zero s w hs I (by rw [ls_size]; exact hz.2) ((gi _).2 (by rw [← g0]; exact hz.1))
  have e1 : numB (ls s) = if 9007199254740992 < valF 0 (ls s) then .bad 4 else .tok (ls s).length 2 [] (valF 0 (ls s)) := by
    have hA : ¬ ((allD (ls s) && !(ls s == [])) = false ∨ ((ls s).getD 0 0 = 48 ∧ 1 < (ls s).length)) := by
      rintro (h | h)
      · rw [hd.1, hd.2] at h; cases h
      · exact hz h
    unfold numB; rw [if_neg hA]
  have hfirst : ((s[0].toNat : Int) == 48) = true ∧ decide ((1 : Int) < (s.size : Int)) = false ∨ ((s[0].toNat : Int) == 48) = false := by
    by_cases hx : (s[0].toNat : Int) = 48
    · refine .inl ⟨by rw [hx]; rfl, decide_eq_false fun h => hz ⟨by rw [g0]; exact (gi _).1 hx, by rw [← ls_size]; omega⟩⟩
    · exact .inr (by rw [beq_eq_false_iff_ne]; exact hx)
  by_cases hv : valF 0 (ls s) < 9223372036854775808
  · have N := Lib.hid (fun w h => pnum_ok s hs hd.1 hne hz hv w h)
    by_cases hg : 9007199254740992 < valF 0 (ls s)
    · rw [e1, if_pos hg]
      have c : decide ((9007199254740992 : Int) < ((valF 0 (ls s) : Nat) : Int)) = true := decide_eq_true (by omega)
      rcases hfirst with ⟨a, b⟩ | a
      · exact no_greata s w hs I h0 a b _ N HTT c
      · exact no_greatb s w hs I h0 a _ N HTT c
    · rw [e1, if_neg hg]
      have c : decide ((9007199254740992 : Int) < ((valF 0 (ls s) : Nat) : Int)) = false := decide_eq_false (by omega)
      rcases hfirst with ⟨a, b⟩ | a
      · exact no_oka s w hs I h0 a b _ N HTT c
      · exact no_okb s w hs I h0 a _ N HTT c
  · have N := Lib.hid (fun w h => pnum_big s hs hd.1 hne hv w h)
    rw [e1, if_pos (by omega)]
    rcases hfirst with ⟨a, b⟩ | a
    · exact no_rangea s w hs I h0 a b N HTT
    · exact no_rangeb s w hs I h0 a N HTT
end Go.Proofs.YtikmaljhfckbgaaDoor
