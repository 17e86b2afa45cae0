/- Brought from other layers: Cut at one byte, printable bytes, numbers, copies. -/
import Derived.Test.YtikmaljhfckbgaaDoorF
set_option linter.unusedVariables false
set_option linter.unusedSimpArgs false
namespace Go.Proofs.YtikmaljhfckbgaaDoor
open Go.Sort Go.ChangeShapes Go.WideShapes Go.ChangeAt Go.RowKit
theorem idx_in (l : List UInt8) (c : UInt8) : -1 ≤ Lib.indexByte l c ∧ Lib.indexByte l c < l.length := by
  induction l with
  | nil => exact ⟨by unfold Lib.indexByte; omega, by unfold Lib.indexByte; simp⟩
  | cons b l ih =>
    unfold Lib.indexByte
    split
    · simp
    · split
      · simp; try omega
      · rename_i h1 h2
        have : Lib.indexByte l c ≠ -1 := by simpa using h2
        simp
        omega
/-- Cut at one byte -/
theorem index1 (s : ByteArray) (c : UInt8) (w : World) : Calls Tryd.prog 92 #[.string s, .string ⟨#[c]⟩] w fun e w' => e = .returned (.int .i64 (Lib.indexByte s.data.toList c)) ∧ w' = w := by
  have HI := Lib.hid (Tryd.stringslite_IndexByte s (c.toNat : Nat) w)
  have e : ((c.toNat : Nat) : Int).toNat.toUInt8 = c := by simp
  rw [e] at HI
  by_cases hs : s.toList = [c]
  · have hb : ([c] == s.toList) = true := by rw [hs]; exact beq_self_eq_true _
    have hr : Lib.indexByte s.data.toList c = 0 := by
      rw [← ByteArray.toList_eq, hs]; simp [Lib.indexByte]
    rw [hr]
    clear e hr hs HI
    go_enter Tryd.func92, Tryd.ntmps92
    go_wp2_with fail
    go_ret
    exact ⟨rfl, rfl⟩
  · have hb : ([c] == s.toList) = false := by rw [beq_eq_false_iff_ne]; exact fun h => hs h.symm
    generalize Lib.indexByte s.data.toList c = r at *
    clear e hs
    go_enter Tryd.func92, Tryd.ntmps92
    go_wp2_with (go_at_call 63; refine (HI.out).mono ?_; rintro e w' ⟨rfl, rfl⟩)
    go_ret
    exact ⟨rfl, rfl⟩
/-- what is before, and what is behind -/
def ctA (s : ByteArray) (c : UInt8) : ByteArray := if 0 ≤ Lib.indexByte s.data.toList c then s.extract 0 (Lib.indexByte s.data.toList c).toNat else s
def ctB (s : ByteArray) (c : UInt8) : ByteArray := if 0 ≤ Lib.indexByte s.data.toList c then s.extract ((Lib.indexByte s.data.toList c).toNat + 1) s.size else ⟨#[]⟩
def ctF (s : ByteArray) (c : UInt8) : Bool := decide (0 ≤ Lib.indexByte s.data.toList c)
theorem cut1 (s : ByteArray) (c : UInt8) (hs : s.size ≤ maxLen) (w : World) : Calls Tryd.prog 80 #[.string s, .string ⟨#[c]⟩] w fun e w' => e = .returned (.tuple #[.string (ctA s c), .string (ctB s c), .bool (ctF s c)]) ∧ ∃ n, w' = w.drewN n := by
  have HI := Lib.hid (index1 s c w)
  have hx := idx_in s.data.toList c
  have hl : s.data.toList.length = s.size := Array.length_toList
  rw [hl] at hx
  have hsm : (s.size : Int) ≤ 9223372036854775807 := by unfold maxLen at hs; omega
  unfold ctA ctB ctF
  generalize Lib.indexByte s.data.toList c = r at *
  by_cases h : 0 ≤ r
  · obtain ⟨k, rfl⟩ : ∃ k : Nat, r = k := ⟨r.toNat, by omega⟩
    rw [if_pos h, if_pos h, decide_eq_true h]
    have h1 : (k : Int) + 1 ≤ (s.size : Int) := by omega
    have h2 : (k : Int) ≤ (s.size : Int) := by omega
    have h3 : 0 ≤ (k : Int) := by omega
    have h4 : IntKind.i64.wrap ((k : Int) + 1) = (k : Int) + 1 := by rw [IntKind.wrap_i64]; omega
    have h5 : 0 ≤ (k : Int) + 1 := by omega
    have h6 : ((k : Int) + 1).toNat = k + 1 := by omega
    have h7 : ((k : Int)).toNat = k := by omega
    rw [h7]
    have h8 : k ≤ s.size := by omega
    have h9 : k + 1 ≤ s.size := by omega
    clear hx hl hs h
    go_enter Tryd.func80, Tryd.ntmps80
    go_wp2_with (go_at_call 92; refine (HI.out).mono ?_; rintro e w' ⟨rfl, rfl⟩)
    go_quiet (fail)
    go_wp2_with fail
    go_ret3
    exact ⟨rfl, _, rfl⟩
  · rw [if_neg h, if_neg h, decide_eq_false h]
    have h1 : r < 0 := by omega
    clear hx hl hs h
    go_enter Tryd.func80, Tryd.ntmps80
    go_wp2_with (go_at_call 92; refine (HI.out).mono ?_; rintro e w' ⟨rfl, rfl⟩)
    go_ret3
    exact ⟨rfl, 0, rfl⟩
theorem scut1 (s : ByteArray) (c : UInt8) (hs : s.size ≤ maxLen) (w : World) : Calls Tryd.prog 67 #[.string s, .string ⟨#[c]⟩] w fun e w' => e = .returned (.tuple #[.string (ctA s c), .string (ctB s c), .bool (ctF s c)]) ∧ Below w.heap.size w w' := by
  have HI := Lib.hid (cut1 s c hs w)
  generalize ctA s c = a at *
  generalize ctB s c = b at *
  generalize ctF s c = f at *
  clear hs
  go_enter Tryd.func67, Tryd.ntmps67
  go_wp2_with fail
  refine HI.out.mono ?_
  rintro e w1 ⟨rfl, n, rfl⟩
  go_wp2_with fail
  go_ret3
  exact ⟨rfl, bdn (Below.refl _ _) _⟩
theorem ctA_size (s : ByteArray) (c : UInt8) : (ctA s c).size ≤ s.size := by
  unfold ctA; split
  · rw [ls_size, ls_ex, ls_size s, List.length_take, List.length_drop]; omega
  · exact Nat.le_refl _
theorem ctB_size (s : ByteArray) (c : UInt8) : (ctB s c).size ≤ s.size := by
  unfold ctB; split
  · rw [ls_size, ls_ex, ls_size s, List.length_take, List.length_drop]; omega
  · exact Nat.zero_le _
theorem cut_spec {s : ByteArray} {c : UInt8} (h : ctF s c = true) : ls s = ls (ctA s c) ++ c :: ls (ctB s c) ∧ c ∉ ls (ctA s c) := by
  have h0 : 0 ≤ Lib.indexByte s.data.toList c := by simpa [ctF] using h
  obtain ⟨k, hk⟩ : ∃ k : Nat, Lib.indexByte s.data.toList c = k := ⟨(Lib.indexByte s.data.toList c).toNat, by omega⟩
  obtain ⟨g1, g2⟩ := Lib.indexByte_some hk
  have hlt : k < (ls s).length := by
    rcases Nat.lt_or_ge k (ls s).length with h | h
    · exact h
    · rw [show s.data.toList[k]? = none from List.getElem?_eq_none h] at g1; cases g1
  have ea : ls (ctA s c) = (ls s).take k := by unfold ctA; rw [if_pos h0, ls_ex, hk]; simp
  have eb : ls (ctB s c) = (ls s).drop (k + 1) := by
    unfold ctB; rw [if_pos h0, ls_ex, hk, ls_size]
    exact List.take_of_length_le (by rw [List.length_drop, Int.toNat_natCast]; omega)
  have hc : (ls s)[k] = c := by
    have : (ls s)[k]? = some c := g1
    rw [List.getElem?_eq_getElem hlt] at this
    exact Option.some.inj this
  constructor
  · rw [ea, eb]
    conv => lhs; rw [← List.take_append_drop k (ls s), List.drop_eq_getElem_cons hlt, hc]
  · rw [ea]
    intro hm
    obtain ⟨j, hj, he⟩ := List.mem_iff_getElem.1 hm
    rw [List.length_take] at hj
    rw [List.getElem_take] at he
    refine g2 j (by omega) ?_
    show (ls s)[j]? = some c
    rw [List.getElem?_eq_getElem (by omega), he]
theorem cut_of {s : ByteArray} {c : UInt8} {x y : List UInt8} (hx : c ∉ x) (h : ls s = x ++ c :: y) : ls (ctA s c) = x ∧ ls (ctB s c) = y ∧ ctF s c = true := by
  have hi := idx_in s.data.toList c
  have hlt : x.length < (ls s).length := by rw [h, List.length_append, List.length_cons]; omega
  have hat : (ls s)[x.length]? = some c := by rw [h, List.getElem?_append_right (Nat.le_refl _), Nat.sub_self]; rfl
  have hk : Lib.indexByte s.data.toList c = x.length := by
    by_cases hneg : Lib.indexByte s.data.toList c = -1
    · exact absurd hat (Lib.indexByte_none hneg x.length)
    · obtain ⟨k, hk⟩ : ∃ k : Nat, Lib.indexByte s.data.toList c = k := ⟨(Lib.indexByte s.data.toList c).toNat, by omega⟩
      obtain ⟨g1, g2⟩ := Lib.indexByte_some hk
      rw [hk]
      rcases Nat.lt_trichotomy k x.length with h1 | h1 | h1
      · exfalso
        have g3 : (ls s)[k]? = some c := g1
        rw [h, List.getElem?_append_left h1, List.getElem?_eq_getElem h1] at g3
        exact hx (Option.some.inj g3 ▸ List.getElem_mem h1)
      · rw [h1]
      · exact absurd hat (g2 x.length h1)
  have h0 : 0 ≤ Lib.indexByte s.data.toList c := by omega
  refine ⟨?_, ?_, ?_⟩
  · unfold ctA; rw [if_pos h0, ls_ex, hk, h]; simp
  · unfold ctB; rw [if_pos h0, ls_ex, hk, ls_size, h]
    rw [Int.toNat_natCast, show x ++ c :: y = (x ++ [c]) ++ y by simp, show x.length + 1 = (x ++ [c]).length by simp, List.drop_left]
    exact List.take_of_length_le (by simp; omega)
  · unfold ctF; exact decide_eq_true h0
/- printable bytes -/
def prC (c : UInt8) : Bool := decide (32 ≤ c.toNat) && decide (c.toNat ≤ 126)
def prn (l : List UInt8) : Bool := l.all prC
theorem prn_take (s : ByteArray) (k : Nat) (h : k < s.size) : prn ((ls s).take (k + 1)) = (prn ((ls s).take k) && prC s[k]) := by
  rw [take_one s k h, getD_at s k h]
  unfold prn
  rw [List.all_append]
  simp
theorem prn_false (s : ByteArray) (k : Nat) (h : k < s.size) (hb : prC s[k] = false) : prn (ls s) = false := by
  unfold prn
  rw [List.all_eq_false]
  exact ⟨s[k], by rw [← getD_at s k h, List.getD_eq_getElem?_getD, List.getElem?_eq_getElem (by rw [← ls_size]; exact h)]; exact List.getElem_mem _, by rw [hb]; simp⟩
set_option maxHeartbeats 1000000 in
theorem isprint_any (s : ByteArray) (hs : s.size ≤ 10000) (w : World) : Calls Tryd.prog 68 #[.string s] w fun e w' => e = .returned (.bool (prn (ls s))) ∧ w' = w := by
  have HF := Lib.hid (prn_false s)
  have HT := Lib.hid (prn_take s)
  have HC : Hid (∀ c, prC c = (decide (32 ≤ c.toNat) && decide (c.toNat ≤ 126))) := Lib.hid (fun c => rfl)
  obtain ⟨B, hB⟩ : ∃ B, B = prn (ls s) := ⟨_, rfl⟩
  rw [← hB]
  have HB := Lib.hid hB
  have hsi : (s.size : Int) ≤ 10000 := by omega
  clear hB
  go_enter Tryd.func68, Tryd.ntmps68
  go_wp2_with fail
  go_loop [6] (fun y => ∃ (k : Nat), k ≤ s.size ∧ y = .int .i64 k ∧ Hid (prn ((ls s).take k) = true)) (fun y => s.size - (intOf y).toNat)
  case atStart => exact ⟨0, Nat.zero_le _, rfl, Lib.hid rfl⟩
  case round =>
    obtain ⟨k, hk, rfl, hA⟩ := hrel
    by_cases hlt : k < s.size
    · have hlt' : (k : Int) < (s.size : Int) := by omega
      have hc := HC.out s[k]
      have ht := HT.out k hlt
      rw [hA.out, Bool.true_and] at ht
      by_cases h1 : 32 ≤ s[k].toNat
      · by_cases h2 : s[k].toNat ≤ 126
        · rw [decide_eq_true h1, decide_eq_true h2] at hc
          rw [hc] at ht
          have HA := Lib.hid ht
          obtain ⟨v, hv⟩ : ∃ v : Int, (s[k].toNat : Int) = v := ⟨_, rfl⟩
          have d1 : decide (v < 32) = false := decide_eq_false (by omega)
          have d2 : decide (126 < v) = false := decide_eq_false (by omega)
          clear hc ht h1 h2
          go_wp2_with fail
          go_round
          case rel => exact ⟨k + 1, by omega, by go_num, HA⟩
          case measure => simp [intOf]; omega
        · rw [decide_eq_true h1, decide_eq_false h2] at hc
          have HX := Lib.hid (HF.out k hlt hc)
          obtain ⟨v, hv⟩ : ∃ v : Int, (s[k].toNat : Int) = v := ⟨_, rfl⟩
          have d1 : decide (v < 32) = false := decide_eq_false (by omega)
          have d2 : decide (126 < v) = true := decide_eq_true (by omega)
          clear hc ht h1 h2
          go_wp2_with fail
          go_ret
          exact ⟨by rw [HB.out, HX.out]; rfl, rfl⟩
      · rw [decide_eq_false h1, Bool.false_and] at hc
        have HX := Lib.hid (HF.out k hlt hc)
        obtain ⟨v, hv⟩ : ∃ v : Int, (s[k].toNat : Int) = v := ⟨_, rfl⟩
        have d1 : decide (v < 32) = true := decide_eq_true (by omega)
        clear hc ht h1
        go_wp2_with fail
        go_ret
        exact ⟨by rw [HB.out, HX.out]; rfl, rfl⟩
    · have hge : ¬ (k : Int) < (s.size : Int) := by omega
      obtain rfl : k = s.size := by omega
      have ha := hA.out
      rw [List.take_of_length_le (by rw [← ls_size]; exact Nat.le_refl _)] at ha
      have HX := Lib.hid ha
      clear ha
      go_wp2_with fail
      go_ret
      exact ⟨by rw [HB.out, HX.out]; rfl, rfl⟩
theorem al {w W : World} {o : Obj} (h : Below w.heap.size w W) : Below w.heap.size w (W.alloc o) := h.alloc h.size o
theorem bre {w W : World} (h : Below w.heap.size w W) (d : Nat) (os : Array Obj) : Below w.heap.size w (grow (redrawn W d) os) := below_re h h.size d os
abbrev Tab (w : World) : Prop := TabP w
def EC (g : Nat) (w : World) : Prop := ∃ ev, w.cell? ⟨g, 0, none⟩ = some ev ∧ (ev = .nilIface ∨ ∃ te pe, ev = .iface te pe)
theorem EC.call {g : Nat} {w w1 : World} (h : EC g w) (hb : Below w.heap.size w w1) : EC g w1 := by
  obtain ⟨ev, h1, h2⟩ := h
  exact ⟨ev, (hb.cell (p := ⟨g, 0, none⟩) (block_lt_of_cell h1)).trans h1, h2⟩
abbrev IntC (s : ByteArray) (v : Int) : Prop := ∀ w, Calls Tryd.prog 79 #[.string s, .int .i64 10, .int .i64 64] w fun e w' => e = .returned (.tuple #[.int .i64 v, .nilIface]) ∧ Below w.heap.size w w'
abbrev ErrC (s : ByteArray) (v : Int) : Prop := ∀ w, EC 4 w → EC 5 w → Calls Tryd.prog 79 #[.string s, .int .i64 10, .int .i64 64] w fun e w' => ∃ N, e = .returned (.tuple #[.int .i64 v, .iface 117 (.pointer (some ⟨N, 0, none⟩))]) ∧ Below w.heap.size w w'
abbrev FmtC (v : Int) (t : ByteArray) : Prop := ∀ w, Tab w → Calls Tryd.prog 32 #[.int .i64 v, .int .i64 10] w fun e w' => e = .returned (.string t) ∧ Below w.heap.size w w'
set_option maxHeartbeats 2000000 in
set_option maxRecDepth 20000 in
theorem nm_ok (s t : ByteArray) (v : Int) (w : World) (hT : Tab w) (I1 : IntC s v) (FI : FmtC v t) (hq : (t.toList != s.toList) = false) :
    Calls Tryd.prog 66 #[.string s] w fun e w' => e = .returned (.tuple #[.int .i64 v, .bool true]) ∧ Below w.heap.size w w' := by
  have hq2 : (t.toList == s.toList) = true := by rw [bne] at hq; simpa using hq
  replace I1 := Lib.hid I1
  replace FI := Lib.hid FI
  replace hT := Lib.hid hT
  go_enter Tryd.func66, Tryd.ntmps66
  go_wp2_with fail
  refine (I1.out _).mono ?_
  rintro e w1 ⟨rfl, hb⟩
  obtain ⟨d1, o1, rfl⟩ := regrow_of hb
  clear hb
  go_wp2_with (go_at_call 32; refine (FI.out _ (hT.out.call (by repeat (first | exact Below.refl _ _ | refine al ?_ | refine bre ?_ _ _ | refine Below.drew ?_)))).mono ?_; rintro e q2 ⟨rfl, hb⟩; obtain ⟨d5, o5, rfl⟩ := regrow_of hb; clear hb)
  exact bodyPost_ret (v := .tuple #[.int .i64 v, .bool true]) (by simp [results, Tryd.results66, go_sem]) rfl ⟨rfl, by repeat (first | exact Below.refl _ _ | refine al ?_ | refine bre ?_ _ _ | refine Below.drew ?_)⟩
set_option maxHeartbeats 2000000 in
set_option maxRecDepth 20000 in
theorem nm_er (s : ByteArray) (v : Int) (w : World) (h4 : EC 4 w) (h5 : EC 5 w) (I1 : ErrC s v) :
    Calls Tryd.prog 66 #[.string s] w fun e w' => e = .returned (.tuple #[.int .i64 0, .bool false]) ∧ Below w.heap.size w w' := by
  replace I1 := Lib.hid I1
  replace h4 := Lib.hid h4
  replace h5 := Lib.hid h5
  go_enter Tryd.func66, Tryd.ntmps66
  go_wp2_with fail
  refine (I1.out _ (h4.out.call (by repeat (first | exact Below.refl _ _ | refine al ?_ | refine bre ?_ _ _ | refine Below.drew ?_))) (h5.out.call (by repeat (first | exact Below.refl _ _ | refine al ?_ | refine bre ?_ _ _ | refine Below.drew ?_)))).mono ?_
  rintro e w1 ⟨NN, rfl, hb⟩
  obtain ⟨d1, o1, rfl⟩ := regrow_of hb
  clear hb
  go_wp2_with fail
  exact bodyPost_ret (v := .tuple #[.int .i64 0, .bool false]) (by simp [results, Tryd.results66, go_sem]) rfl ⟨rfl, by repeat (first | exact Below.refl _ _ | refine al ?_ | refine bre ?_ _ _ | refine Below.drew ?_)⟩
set_option maxHeartbeats 2000000 in
set_option maxRecDepth 20000 in
theorem clone_any (s : ByteArray) (hs : s.size ≤ 10000) (w : World) : Calls Tryd.prog 64 #[.string s] w fun e w' => e = .returned (.string s) ∧ Below w.heap.size w w' := by
  have HC := Lib.hid (fun w => Tryd.stringslite_Clone s w (by omega))
  clear hs
  go_enter Tryd.func64, Tryd.ntmps64
  go_wp2_with fail
  refine (HC.out _).mono ?_
  rintro e w1 ⟨rfl, hb⟩
  obtain ⟨d1, o1, rfl⟩ := regrow_of hb
  clear hb
  go_wp2_with fail
  go_ret
  exact ⟨rfl, (by repeat (first | exact Below.refl _ _ | refine al ?_ | refine bre ?_ _ _ | refine Below.drew ?_))⟩
end Go.Proofs.YtikmaljhfckbgaaDoor
