/- What the rows list, as the walks take it; the walks of LexerNames and LexerScans. -/
import Derived.Test.YtikmaljhfckbgaaDoorU
import Derived.ProofKit
import Derived.LaidMore
import Derived.OpenShut
import Derived.Stop.LaidErr
import Derived.Stop.Joined
import Derived.Lib.LaidTab
set_option linter.unusedVariables false
set_option linter.unusedSimpArgs false
namespace Go.Proofs.YtikmaljhfckbgaaDoor
open Go.Sort Go.ChangeShapes Go.WideShapes Go.ChangeAt Go.RowKit
section
variable {H : Type} {enc : TypeId × Value → H} {P : Program} {W : World}
theorem trod_err {t : TypeId} {m} {base fuel : Nat} {spare : Nat → Bool} {held : Bool} {cs : List Value} {x : DataW H × List MemPlace} (ht : P.underlying t = some (.interface m)) (h : DataW.trod enc P W base spare held fuel t cs = some x) : cs = [.nilIface] ∨ ∃ te pe, cs = [.iface te pe] := by
  cases fuel with
  | zero => simp [DataW.trod] at h
  | succ n =>
    unfold DataW.trod at h
    rw [ht] at h
    split at h <;> simp_all
end
theorem gE5 : Tryd.prog.globalNamed "strconv.ErrRange" = some 5 := by kernel_rfl
theorem tE5 : (Tryd.prog.globals[5]?).map (·.type) = some 70 := by kernel_rfl
theorem gE4 : Tryd.prog.globalNamed "strconv.ErrSyntax" = some 4 := by kernel_rfl
theorem tE4 : (Tryd.prog.globals[4]?).map (·.type) = some 70 := by kernel_rfl
theorem lt_of_lexerScans {W : World} (h : laidMetH Tryd.prog Rows.lexerScansRow.laid W) : LT W := by
  rw [MakeChecks.laidMetH_plain _ _ _ (by kernel_rfl)] at h
  refine ⟨?_, ?_, ?_⟩
  · exact Lib.tabIs_of_head (g := 0) (by kernel_rfl) (by kernel_rfl) Tryd.underlying106 Tryd.underlying83 (by kernel_rfl) (by kernel_rfl) h.tail.tail
  · obtain ⟨ps, ⟨g1, t1, cs1, f1, p1, q1, hg1, ht1, hv1, hd1, _, _⟩, _, _⟩ := h.tail.tail.tail.tail
    obtain rfl := Option.some.inj (gE4.symm.trans (show Tryd.prog.globalNamed "strconv.ErrSyntax" = some g1 from hg1))
    obtain rfl := Option.some.inj (tE4.symm.trans ht1)
    have hc := World.var?_cell gE4 hv1 0
    rcases trod_err Tryd.underlying70 hd1 with h2 | ⟨te, pe, h2⟩
    · exact ⟨.nilIface, by rw [hc, ← Array.getElem?_toList, h2]; rfl, .inl rfl⟩
    · exact ⟨.iface te pe, by rw [hc, ← Array.getElem?_toList, h2]; rfl, .inr ⟨te, pe, rfl⟩⟩
  · obtain ⟨ps, ⟨g1, t1, cs1, f1, p1, q1, hg1, ht1, hv1, hd1, _, _⟩, _, _⟩ := h.tail.tail.tail
    obtain rfl := Option.some.inj (gE5.symm.trans (show Tryd.prog.globalNamed "strconv.ErrRange" = some g1 from hg1))
    obtain rfl := Option.some.inj (tE5.symm.trans ht1)
    have hc := World.var?_cell gE5 hv1 0
    rcases trod_err Tryd.underlying70 hd1 with h2 | ⟨te, pe, h2⟩
    · exact ⟨.nilIface, by rw [hc, ← Array.getElem?_toList, h2]; rfl, .inl rfl⟩
    · exact ⟨.iface te pe, by rw [hc, ← Array.getElem?_toList, h2]; rfl, .inr ⟨te, pe, rfl⟩⟩
theorem lt_of_lexerPrints {W : World} (h : laidMetH Tryd.prog Rows.lexerPrintsRow.laid W) : LT W := by
  rw [MakeChecks.laidMetH_plain _ _ _ (by kernel_rfl)] at h
  refine ⟨?_, ?_, ?_⟩
  · exact Lib.tabIs_of_head (g := 0) (by kernel_rfl) (by kernel_rfl) Tryd.underlying106 Tryd.underlying83 (by kernel_rfl) (by kernel_rfl) h.tail.tail
  · obtain ⟨ps, ⟨g1, t1, cs1, f1, p1, q1, hg1, ht1, hv1, hd1, _, _⟩, _, _⟩ := h.tail.tail.tail.tail
    obtain rfl := Option.some.inj (gE4.symm.trans (show Tryd.prog.globalNamed "strconv.ErrSyntax" = some g1 from hg1))
    obtain rfl := Option.some.inj (tE4.symm.trans ht1)
    have hc := World.var?_cell gE4 hv1 0
    rcases trod_err Tryd.underlying70 hd1 with h2 | ⟨te, pe, h2⟩
    · exact ⟨.nilIface, by rw [hc, ← Array.getElem?_toList, h2]; rfl, .inl rfl⟩
    · exact ⟨.iface te pe, by rw [hc, ← Array.getElem?_toList, h2]; rfl, .inr ⟨te, pe, rfl⟩⟩
  · obtain ⟨ps, ⟨g1, t1, cs1, f1, p1, q1, hg1, ht1, hv1, hd1, _, _⟩, _, _⟩ := h.tail.tail.tail
    obtain rfl := Option.some.inj (gE5.symm.trans (show Tryd.prog.globalNamed "strconv.ErrRange" = some g1 from hg1))
    obtain rfl := Option.some.inj (tE5.symm.trans ht1)
    have hc := World.var?_cell gE5 hv1 0
    rcases trod_err Tryd.underlying70 hd1 with h2 | ⟨te, pe, h2⟩
    · exact ⟨.nilIface, by rw [hc, ← Array.getElem?_toList, h2]; rfl, .inl rfl⟩
    · exact ⟨.iface te pe, by rw [hc, ← Array.getElem?_toList, h2]; rfl, .inr ⟨te, pe, rfl⟩⟩
theorem lt_of_lexerNames {W : World} (h : laidMetH Tryd.prog Rows.lexerNamesRow.laid W) : LT W := by
  rw [MakeChecks.laidMetH_plain _ _ _ (by kernel_rfl)] at h
  refine ⟨?_, ?_, ?_⟩
  · exact Lib.tabIs_of_head (g := 0) (by kernel_rfl) (by kernel_rfl) Tryd.underlying106 Tryd.underlying83 (by kernel_rfl) (by kernel_rfl) h.tail.tail
  · obtain ⟨ps, ⟨g1, t1, cs1, f1, p1, q1, hg1, ht1, hv1, hd1, _, _⟩, _, _⟩ := h.tail.tail.tail.tail
    obtain rfl := Option.some.inj (gE4.symm.trans (show Tryd.prog.globalNamed "strconv.ErrSyntax" = some g1 from hg1))
    obtain rfl := Option.some.inj (tE4.symm.trans ht1)
    have hc := World.var?_cell gE4 hv1 0
    rcases trod_err Tryd.underlying70 hd1 with h2 | ⟨te, pe, h2⟩
    · exact ⟨.nilIface, by rw [hc, ← Array.getElem?_toList, h2]; rfl, .inl rfl⟩
    · exact ⟨.iface te pe, by rw [hc, ← Array.getElem?_toList, h2]; rfl, .inr ⟨te, pe, rfl⟩⟩
  · obtain ⟨ps, ⟨g1, t1, cs1, f1, p1, q1, hg1, ht1, hv1, hd1, _, _⟩, _, _⟩ := h.tail.tail.tail
    obtain rfl := Option.some.inj (gE5.symm.trans (show Tryd.prog.globalNamed "strconv.ErrRange" = some g1 from hg1))
    obtain rfl := Option.some.inj (tE5.symm.trans ht1)
    have hc := World.var?_cell gE5 hv1 0
    rcases trod_err Tryd.underlying70 hd1 with h2 | ⟨te, pe, h2⟩
    · exact ⟨.nilIface, by rw [hc, ← Array.getElem?_toList, h2]; rfl, .inl rfl⟩
    · exact ⟨.iface te pe, by rw [hc, ← Array.getElem?_toList, h2]; rfl, .inr ⟨te, pe, rfl⟩⟩
theorem lt_of_lexerScanners {W : World} (h : laidMetH Tryd.prog Rows.lexerScannersRow.laid W) : LT W := by
  rw [MakeChecks.laidMetH_plain _ _ _ (by kernel_rfl)] at h
  refine ⟨?_, ?_, ?_⟩
  · exact Lib.tabIs_of_head (g := 0) (by kernel_rfl) (by kernel_rfl) Tryd.underlying106 Tryd.underlying83 (by kernel_rfl) (by kernel_rfl) h.tail.tail
  · obtain ⟨ps, ⟨g1, t1, cs1, f1, p1, q1, hg1, ht1, hv1, hd1, _, _⟩, _, _⟩ := h.tail.tail.tail.tail
    obtain rfl := Option.some.inj (gE4.symm.trans (show Tryd.prog.globalNamed "strconv.ErrSyntax" = some g1 from hg1))
    obtain rfl := Option.some.inj (tE4.symm.trans ht1)
    have hc := World.var?_cell gE4 hv1 0
    rcases trod_err Tryd.underlying70 hd1 with h2 | ⟨te, pe, h2⟩
    · exact ⟨.nilIface, by rw [hc, ← Array.getElem?_toList, h2]; rfl, .inl rfl⟩
    · exact ⟨.iface te pe, by rw [hc, ← Array.getElem?_toList, h2]; rfl, .inr ⟨te, pe, rfl⟩⟩
  · obtain ⟨ps, ⟨g1, t1, cs1, f1, p1, q1, hg1, ht1, hv1, hd1, _, _⟩, _, _⟩ := h.tail.tail.tail
    obtain rfl := Option.some.inj (gE5.symm.trans (show Tryd.prog.globalNamed "strconv.ErrRange" = some g1 from hg1))
    obtain rfl := Option.some.inj (tE5.symm.trans ht1)
    have hc := World.var?_cell gE5 hv1 0
    rcases trod_err Tryd.underlying70 hd1 with h2 | ⟨te, pe, h2⟩
    · exact ⟨.nilIface, by rw [hc, ← Array.getElem?_toList, h2]; rfl, .inl rfl⟩
    · exact ⟨.iface te pe, by rw [hc, ← Array.getElem?_toList, h2]; rfl, .inr ⟨te, pe, rfl⟩⟩
theorem lt_of_lexerRoundTrip {W : World} (h : laidMetH Tryd.prog Rows.lexerRoundTripRow.laid W) : LT W := by
  rw [MakeChecks.laidMetH_plain _ _ _ (by kernel_rfl)] at h
  refine ⟨?_, ?_, ?_⟩
  · exact Lib.tabIs_of_head (g := 0) (by kernel_rfl) (by kernel_rfl) Tryd.underlying106 Tryd.underlying83 (by kernel_rfl) (by kernel_rfl) h.tail.tail
  · obtain ⟨ps, ⟨g1, t1, cs1, f1, p1, q1, hg1, ht1, hv1, hd1, _, _⟩, _, _⟩ := h.tail.tail.tail.tail
    obtain rfl := Option.some.inj (gE4.symm.trans (show Tryd.prog.globalNamed "strconv.ErrSyntax" = some g1 from hg1))
    obtain rfl := Option.some.inj (tE4.symm.trans ht1)
    have hc := World.var?_cell gE4 hv1 0
    rcases trod_err Tryd.underlying70 hd1 with h2 | ⟨te, pe, h2⟩
    · exact ⟨.nilIface, by rw [hc, ← Array.getElem?_toList, h2]; rfl, .inl rfl⟩
    · exact ⟨.iface te pe, by rw [hc, ← Array.getElem?_toList, h2]; rfl, .inr ⟨te, pe, rfl⟩⟩
  · obtain ⟨ps, ⟨g1, t1, cs1, f1, p1, q1, hg1, ht1, hv1, hd1, _, _⟩, _, _⟩ := h.tail.tail.tail
    obtain rfl := Option.some.inj (gE5.symm.trans (show Tryd.prog.globalNamed "strconv.ErrRange" = some g1 from hg1))
    obtain rfl := Option.some.inj (tE5.symm.trans ht1)
    have hc := World.var?_cell gE5 hv1 0
    rcases trod_err Tryd.underlying70 hd1 with h2 | ⟨te, pe, h2⟩
    · exact ⟨.nilIface, by rw [hc, ← Array.getElem?_toList, h2]; rfl, .inl rfl⟩
    · exact ⟨.iface te pe, by rw [hc, ← Array.getElem?_toList, h2]; rfl, .inr ⟨te, pe, rfl⟩⟩
theorem lt_of_lexerPlaces {W : World} (h : laidMetH Tryd.prog Rows.lexerPlacesRow.laid W) : LT W := by
  rw [MakeChecks.laidMetH_plain _ _ _ (by kernel_rfl)] at h
  refine ⟨?_, ?_, ?_⟩
  · exact Lib.tabIs_of_head (g := 0) (by kernel_rfl) (by kernel_rfl) Tryd.underlying106 Tryd.underlying83 (by kernel_rfl) (by kernel_rfl) h.tail.tail
  · obtain ⟨ps, ⟨g1, t1, cs1, f1, p1, q1, hg1, ht1, hv1, hd1, _, _⟩, _, _⟩ := h.tail.tail.tail.tail
    obtain rfl := Option.some.inj (gE4.symm.trans (show Tryd.prog.globalNamed "strconv.ErrSyntax" = some g1 from hg1))
    obtain rfl := Option.some.inj (tE4.symm.trans ht1)
    have hc := World.var?_cell gE4 hv1 0
    rcases trod_err Tryd.underlying70 hd1 with h2 | ⟨te, pe, h2⟩
    · exact ⟨.nilIface, by rw [hc, ← Array.getElem?_toList, h2]; rfl, .inl rfl⟩
    · exact ⟨.iface te pe, by rw [hc, ← Array.getElem?_toList, h2]; rfl, .inr ⟨te, pe, rfl⟩⟩
  · obtain ⟨ps, ⟨g1, t1, cs1, f1, p1, q1, hg1, ht1, hv1, hd1, _, _⟩, _, _⟩ := h.tail.tail.tail
    obtain rfl := Option.some.inj (gE5.symm.trans (show Tryd.prog.globalNamed "strconv.ErrRange" = some g1 from hg1))
    obtain rfl := Option.some.inj (tE5.symm.trans ht1)
    have hc := World.var?_cell gE5 hv1 0
    rcases trod_err Tryd.underlying70 hd1 with h2 | ⟨te, pe, h2⟩
    · exact ⟨.nilIface, by rw [hc, ← Array.getElem?_toList, h2]; rfl, .inl rfl⟩
    · exact ⟨.iface te pe, by rw [hc, ← Array.getElem?_toList, h2]; rfl, .inr ⟨te, pe, rfl⟩⟩
set_option maxHeartbeats 2000000 in
set_option maxRecDepth 100000 in
theorem namesLong (s : ByteArray) (w : World) (h : decide ((100 : Int) < (s.size : Int)) = true) (hT : LT w) : Calls Tryd.prog 5 #[.string s] w fun e w' => e = .returned (.bool true) ∧ Below w.heap.size w w' := by
  have HT := Lib.hid hT
  have HAW := Lib.hid awake_any
  clear hT
  go_enter Tryd.func5, Tryd.ntmps5
  go_wp2_with fail
  refine (HAW.out _ (HT.out.call (Below.refl w.heap.size w))).mono ?_
  rintro e wz ⟨rfl, hbz⟩
  have BZ := Lib.hid (below_call (Below.refl w.heap.size w) hbz)
  clear hbz
  go_wp2_with fail
  go_ret
  exact ⟨rfl, BZ.out⟩
set_option maxHeartbeats 2000000 in
set_option maxRecDepth 100000 in
theorem namesShort (s : ByteArray) (w : World) (hs : s.size ≤ 100) (h : decide ((100 : Int) < (s.size : Int)) = false) (hT : LT w) : Calls Tryd.prog 5 #[.string s] w fun e w' => e = .returned (.bool true) ∧ Below w.heap.size w w' := by
  have HT := Lib.hid hT
  have HAW := Lib.hid awake_any
  clear hT
  have A := Lib.hid (fun w => name_is s (by omega) w)
  have B := Lib.hid (fun w => rname_is s (by omega) w)
  generalize nmB (ls s) = N at *
  have hN : (N == N) = true := by cases N <;> rfl
  go_enter Tryd.func5, Tryd.ntmps5
  go_wp2_with fail
  refine (A.out _).mono ?_
  rintro e w1 ⟨rfl, rfl⟩
  go_wp2_with fail
  refine (B.out _).mono ?_
  rintro e w2 ⟨rfl, rfl⟩
  go_wp2_with fail
  refine (HAW.out _ (HT.out.call (Below.refl w2.heap.size w2))).mono ?_
  rintro e wz ⟨rfl, hbz⟩
  have BZ := Lib.hid (below_call (Below.refl w2.heap.size w2) hbz)
  clear hbz
  go_wp2_with fail
  go_ret
  exact ⟨rfl, BZ.out⟩

theorem lexerNames.walk (s : ByteArray) (w : World) (hs : s.size ≤ maxLen) (hT : LT w) : Calls Tryd.prog 5 #[.string s] w fun e w' => e = .returned (.bool true) ∧ Below w.heap.size w w' := by
  by_cases h : 100 < s.size
  · exact namesLong s w (decide_eq_true (by omega)) hT
  · exact namesShort s w (by omega) (decide_eq_false (by omega)) hT
set_option maxHeartbeats 2000000 in
set_option maxRecDepth 100000 in
theorem scansLong (s : ByteArray) (w : World) (h : decide ((5000 : Int) < (s.size : Int)) = true) (hT : LT w) : Calls Tryd.prog 3 #[.string s] w fun e w' => e = .returned (.bool true) ∧ Below w.heap.size w w' := by
  have HT := Lib.hid hT
  have HAW := Lib.hid awake_any
  clear hT
  go_enter Tryd.func3, Tryd.ntmps3
  go_wp2_with fail
  refine (HAW.out _ (HT.out.call (Below.refl w.heap.size w))).mono ?_
  rintro e wz ⟨rfl, hbz⟩
  have BZ := Lib.hid (below_call (Below.refl w.heap.size w) hbz)
  clear hbz
  go_wp2_with fail
  go_ret
  exact ⟨rfl, BZ.out⟩
theorem scn_len (f : Nat) : ∀ (l : List UInt8) (p : Nat) (acc : List Lx), (scn f l p acc).l.length ≤ acc.length + f + 1 := by
  induction f with
  | zero =>
    intro l p acc
    cases l with
    | nil => rw [scn_nil]; show (acc ++ [_]).length ≤ _; rw [List.length_append]; exact Nat.le_refl _
    | cons c r => show ([] : List Lx).length ≤ _; exact Nat.zero_le _
  | succ f ih =>
    intro l p acc
    cases l with
    | nil => rw [scn_nil]; show (acc ++ [_]).length ≤ _; rw [List.length_append]; show _ + 1 ≤ _; omega
    | cons c r =>
      cases h : stp (c :: r) with
      | bad e => rw [scn_bad h]; exact Nat.zero_le _
      | skip n => rw [scn_skip h]; have := ih ((c :: r).drop n) (p + n) acc; omega
      | tok n k t v => rw [scn_tok h]; have := ih ((c :: r).drop n) (p + n) (acc ++ [⟨k, bst t, v, p⟩]); rw [List.length_append] at this; simp at this; omega
theorem scan_len (s : ByteArray) : (scan s).l.length ≤ 4001 := by
  unfold scan
  split
  · exact Nat.zero_le _
  · have := scn_len s.size (ls s) 0 []
    simp at this
    omega
set_option maxHeartbeats 2000000 in
set_option maxRecDepth 100000 in
theorem scansShort (s : ByteArray) (w : World) (h : decide ((5000 : Int) < (s.size : Int)) = false) (hT : LT w) : Calls Tryd.prog 3 #[.string s] w fun e w' => e = .returned (.bool true) ∧ Below w.heap.size w w' := by
  have HT := Lib.hid hT
  have HAW := Lib.hid awake_any
  clear hT
  have A := Lib.hid (fun w hT => scan_any s w hT)
  have B := Lib.hid (fun w => rscan_any s w)
  have HL := Lib.hid (scan_len s)
  generalize scan s = S at *
  obtain ⟨l, E, p⟩ := S
  have C := Lib.hid (fun u v w hu hv => same_any u v l (by have := HL.out; simp at this; omega) w hu hv)
  have hE : (E == E) = true := beq_self_eq_true _
  have hp : (p == p) = true := beq_self_eq_true _
  go_enter Tryd.func3, Tryd.ntmps3
  go_wp2_with fail
  refine (A.out _ HT.out).mono ?_
  rintro e w1 ⟨v1, rfl, o1, b1⟩
  have L1 := Lib.hid (lxAt_of rfl o1)
  have B1 := Lib.hid b1
  clear o1 b1
  go_wp2_with fail
  refine (B.out _).mono ?_
  rintro e w2 ⟨v2, rfl, o2, b2⟩
  have L2 := Lib.hid (lxAt_of rfl o2)
  have L3 := Lib.hid (L1.out.call b2)
  have B2 := Lib.hid (below_call B1.out b2)
  clear o2 b2
  go_wp2_with fail
  refine (C.out _ _ _ L3.out L2.out).mono ?_
  rintro e w3 ⟨rfl, n, rfl⟩
  go_wp2_with fail
  refine (HAW.out _ (HT.out.call (bdn B2.out _))).mono ?_
  rintro e wz ⟨rfl, hbz⟩
  have BZ := Lib.hid (below_call (bdn B2.out _) hbz)
  clear hbz
  go_wp2_with fail
  go_ret
  exact ⟨rfl, BZ.out⟩

theorem lexerScans.walk (s : ByteArray) (w : World) (hs : s.size ≤ maxLen) (hT : LT w) : Calls Tryd.prog 3 #[.string s] w fun e w' => e = .returned (.bool true) ∧ Below w.heap.size w w' := by
  by_cases h : 5000 < s.size
  · exact scansLong s w (decide_eq_true (by omega)) hT
  · exact scansShort s w (decide_eq_false (by omega)) hT
end Go.Proofs.YtikmaljhfckbgaaDoor
