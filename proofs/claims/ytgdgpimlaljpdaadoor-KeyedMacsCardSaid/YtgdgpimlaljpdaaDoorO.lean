/- What the listed variables give; the walks of the four. -/
import Derived.Test.YtgdgpimlaljpdaaDoorN
import Derived.LaidMore
import Derived.Stop.LaidErr
import Derived.Stop.Joined
import Derived.Lib.LaidTab
set_option linter.unusedVariables false
set_option linter.unusedSimpArgs false
namespace Go.Proofs.YtgdgpimlaljpdaaDoor
open Go.Sort Go.ChangeShapes Go.WideShapes Go.ChangeAt Go.RowKit
section
variable {H : Type} {enc : TypeId × Value → H} {P : Program} {W : World}
/-- an array of integers among the listed variables, cell by cell -/
theorem tab_cell {n : String} {g len : Nat} {T E : TypeId} {k : IntKind} {sp : Nat → Bool} {f : Nat} {cs : Array Value} {p : List MemPlace} (l : List Int) (hg : P.globalNamed n = some g) (hv : W.var? P n = some cs)
    (ht : P.underlying T = some (.array len E)) (he : P.underlying E = some (.int k)) (hc : P.cellsOf E = 1) (hl : P.cellsOf T = len)
    (hd : DataW.trod enc P W 0 sp false f T cs.toList = some (.agg (l.map fun v => .lit (.int k v)), p)) (i : Nat) (hi : i < len) : W.cell? ⟨g, i, none⟩ = some (.int k (l.getD i 0)) := by
  obtain ⟨xs, m1, hx, hx1, hlen, hn3, hel⟩ := DataW.trod_array ht hd
  simp only [Prod.mk.injEq, DataW.agg.injEq] at hx1
  have h := hel i hi
  rw [hc, Nat.mul_one] at h
  have hxi : xs[i]? = some (xs[i]'(by omega)) := List.getElem?_eq_getElem (by omega)
  rw [hxi] at h
  obtain ⟨z, e1, e2, _⟩ := DataW.trod_int he h
  have hm : (xs.map (·.1))[i]? = some (DataW.lit (.int k z)) := by rw [List.getElem?_map, hxi]; exact congrArg (fun x : DataW H × List MemPlace => some x.1) e2
  rw [← hx1.1, List.getElem?_map] at hm
  have hz : l.getD i 0 = z := by
    rw [List.getD_eq_getElem?_getD]
    cases hq : l[i]? with
    | none => rw [hq] at hm; cases hm
    | some q => rw [hq] at hm; simp at hm; simpa using hm
  rw [World.var?_cell hg hv i, hz]
  have hc1 : cs.toList[i]? = some (.int k z) := by
    have h2 : (List.take 1 (List.drop i cs.toList))[0]? = some (.int k z) := by rw [e1]; rfl
    simpa [List.getElem?_take, List.getElem?_drop] using h2
  simpa using hc1
end
theorem gTab : Tryd.prog.globalNamed "math/bits.deBruijn64tab" = some 5 := by kernel_rfl
theorem tTab : (Tryd.prog.globals[5]?).map (·.type) = some 98 := by kernel_rfl
theorem tz_of_Macs {W : World} (h : laidMetH Tryd.prog Rows.keyedMacsRow.laid W) : TZ W := by
  rw [MakeChecks.laidMetH_plain _ _ _ (by kernel_rfl)] at h
  obtain ⟨ps, ⟨g1, t1, cs1, f1, p1, q1, hg1, ht1, hv1, hd1, _, _⟩, _, _⟩ := h.tail
  obtain rfl := Option.some.inj (gTab.symm.trans (show Tryd.prog.globalNamed "math/bits.deBruijn64tab" = some g1 from hg1))
  obtain rfl := Option.some.inj (tTab.symm.trans ht1)
  exact tab_cell [0, 1, 56, 2, 57, 49, 28, 3, 61, 58, 42, 50, 38, 29, 17, 4, 62, 47, 59, 36, 45, 43, 51, 22, 53, 39, 33, 30, 24, 18, 12, 5, 63, 55, 48, 27, 60, 41, 37, 16, 46, 35, 44, 21, 52, 32, 23, 11, 54, 26, 40, 15, 34, 20, 31, 10, 25, 14, 19, 9, 13, 8, 7, 6] gTab (n := "math/bits.deBruijn64tab") hv1 Tryd.underlying98 Tryd.underlying5 (by kernel_rfl) (by kernel_rfl) hd1 15 (by decide)
theorem tabP_of_Macs {W : World} (h : laidMetH Tryd.prog Rows.keyedMacsRow.laid W) : TabP W := by
  rw [MakeChecks.laidMetH_plain _ _ _ (by kernel_rfl)] at h
  have h2 := h.tail.tail
  exact Lib.tabIs_of_head (g := 0) (by kernel_rfl) (by kernel_rfl) Tryd.underlying85 Tryd.underlying22 (by kernel_rfl) (by kernel_rfl) h2
theorem tz_of_Checks {W : World} (h : laidMetH Tryd.prog Rows.keyedChecksRow.laid W) : TZ W := by
  rw [MakeChecks.laidMetH_plain _ _ _ (by kernel_rfl)] at h
  obtain ⟨ps, ⟨g1, t1, cs1, f1, p1, q1, hg1, ht1, hv1, hd1, _, _⟩, _, _⟩ := h.tail
  obtain rfl := Option.some.inj (gTab.symm.trans (show Tryd.prog.globalNamed "math/bits.deBruijn64tab" = some g1 from hg1))
  obtain rfl := Option.some.inj (tTab.symm.trans ht1)
  exact tab_cell [0, 1, 56, 2, 57, 49, 28, 3, 61, 58, 42, 50, 38, 29, 17, 4, 62, 47, 59, 36, 45, 43, 51, 22, 53, 39, 33, 30, 24, 18, 12, 5, 63, 55, 48, 27, 60, 41, 37, 16, 46, 35, 44, 21, 52, 32, 23, 11, 54, 26, 40, 15, 34, 20, 31, 10, 25, 14, 19, 9, 13, 8, 7, 6] gTab (n := "math/bits.deBruijn64tab") hv1 Tryd.underlying98 Tryd.underlying5 (by kernel_rfl) (by kernel_rfl) hd1 15 (by decide)
theorem tabP_of_Checks {W : World} (h : laidMetH Tryd.prog Rows.keyedChecksRow.laid W) : TabP W := by
  rw [MakeChecks.laidMetH_plain _ _ _ (by kernel_rfl)] at h
  have h2 := h.tail.tail
  exact Lib.tabIs_of_head (g := 0) (by kernel_rfl) (by kernel_rfl) Tryd.underlying85 Tryd.underlying22 (by kernel_rfl) (by kernel_rfl) h2
theorem tz_of_Verifies {W : World} (h : laidMetH Tryd.prog Rows.keyedVerifiesRow.laid W) : TZ W := by
  rw [MakeChecks.laidMetH_plain _ _ _ (by kernel_rfl)] at h
  obtain ⟨ps, ⟨g1, t1, cs1, f1, p1, q1, hg1, ht1, hv1, hd1, _, _⟩, _, _⟩ := h.tail
  obtain rfl := Option.some.inj (gTab.symm.trans (show Tryd.prog.globalNamed "math/bits.deBruijn64tab" = some g1 from hg1))
  obtain rfl := Option.some.inj (tTab.symm.trans ht1)
  exact tab_cell [0, 1, 56, 2, 57, 49, 28, 3, 61, 58, 42, 50, 38, 29, 17, 4, 62, 47, 59, 36, 45, 43, 51, 22, 53, 39, 33, 30, 24, 18, 12, 5, 63, 55, 48, 27, 60, 41, 37, 16, 46, 35, 44, 21, 52, 32, 23, 11, 54, 26, 40, 15, 34, 20, 31, 10, 25, 14, 19, 9, 13, 8, 7, 6] gTab (n := "math/bits.deBruijn64tab") hv1 Tryd.underlying98 Tryd.underlying5 (by kernel_rfl) (by kernel_rfl) hd1 15 (by decide)
theorem tabP_of_Verifies {W : World} (h : laidMetH Tryd.prog Rows.keyedVerifiesRow.laid W) : TabP W := by
  rw [MakeChecks.laidMetH_plain _ _ _ (by kernel_rfl)] at h
  have h2 := h.tail.tail
  exact Lib.tabIs_of_head (g := 0) (by kernel_rfl) (by kernel_rfl) Tryd.underlying85 Tryd.underlying22 (by kernel_rfl) (by kernel_rfl) h2
theorem tz_of_Derives {W : World} (h : laidMetH Tryd.prog Rows.keyedDerivesRow.laid W) : TZ W := by
  rw [MakeChecks.laidMetH_plain _ _ _ (by kernel_rfl)] at h
  obtain ⟨ps, ⟨g1, t1, cs1, f1, p1, q1, hg1, ht1, hv1, hd1, _, _⟩, _, _⟩ := h.tail
  obtain rfl := Option.some.inj (gTab.symm.trans (show Tryd.prog.globalNamed "math/bits.deBruijn64tab" = some g1 from hg1))
  obtain rfl := Option.some.inj (tTab.symm.trans ht1)
  exact tab_cell [0, 1, 56, 2, 57, 49, 28, 3, 61, 58, 42, 50, 38, 29, 17, 4, 62, 47, 59, 36, 45, 43, 51, 22, 53, 39, 33, 30, 24, 18, 12, 5, 63, 55, 48, 27, 60, 41, 37, 16, 46, 35, 44, 21, 52, 32, 23, 11, 54, 26, 40, 15, 34, 20, 31, 10, 25, 14, 19, 9, 13, 8, 7, 6] gTab (n := "math/bits.deBruijn64tab") hv1 Tryd.underlying98 Tryd.underlying5 (by kernel_rfl) (by kernel_rfl) hd1 15 (by decide)
theorem tabP_of_Derives {W : World} (h : laidMetH Tryd.prog Rows.keyedDerivesRow.laid W) : TabP W := by
  rw [MakeChecks.laidMetH_plain _ _ _ (by kernel_rfl)] at h
  have h2 := h.tail.tail
  exact Lib.tabIs_of_head (g := 0) (by kernel_rfl) (by kernel_rfl) Tryd.underlying85 Tryd.underlying22 (by kernel_rfl) (by kernel_rfl) h2
theorem wf_u64 {a : Int} (h : (Lit.int .u64 a).wf = true) : 0 ≤ a ∧ a < 18446744073709551616 := by simp [Lit.wf, IntKind.min, IntKind.max, IntKind.signed, IntKind.bits] at h; omega
theorem wf_u8 {a : Int} (h : (Lit.int .u8 a).wf = true) : 0 ≤ a ∧ a < 256 := by simp [Lit.wf, IntKind.min, IntKind.max, IntKind.signed, IntKind.bits] at h; omega
def isWord (x : Int) (u : Nat) : Prop := x = u ∧ u < B64
theorem word_of {a : Int} (h : (Lit.int .u64 a).wf = true) : ∃ u : Nat, a = u ∧ u < B64 := by
  obtain ⟨h0, h1⟩ := wf_u64 h
  exact ⟨a.toNat, by omega, by show a.toNat < 18446744073709551616; omega⟩
namespace keyedMacs
set_option maxHeartbeats 4000000 in
set_option maxRecDepth 20000 in
theorem walk (key : Int) (s : ByteArray) (n : Int) (w : World) (hk : (Lit.int .u64 key).wf = true) (hs : s.size ≤ maxLen) (hn : (Lit.int .i64 n).wf = true) (hP : TabP w) (hT : TZ w) :
    Calls Tryd.prog 3 #[.int .u64 key, .string s, .int .i64 n] w fun e w' => e = .returned (.bool true) ∧ Below w.heap.size w w' := by
  obtain ⟨u, rfl, hu⟩ := word_of hk
  have AW : Hid (∀ w, TabP w → TZ w → _) := Lib.hid awake_any
  have HP := Lib.hid hP
  have HT := Lib.hid hT
  clear hk hn hP hT
  by_cases h1 : 1000 < s.size
  · have h1' : 1000 < (s.size : Int) := by omega
    clear h1 hs hu
    go_enter Tryd.func3, Tryd.ntmps3
    go_wp2_with fail
    refine (AW.out _ HP.out HT.out).mono ?_
    rintro e v1 ⟨rfl, hb⟩
    have HB1 := Lib.hid (hb)
    clear hb
    go_wp2_with fail
    go_ret
    exact ⟨rfl, HB1.out⟩
  · have h1' : ¬ 1000 < (s.size : Int) := by omega
    have M1 : Hid (∀ w, _) := Lib.hid (fun w => mac_any u hu s (by omega) w)
    have M2 : Hid (∀ w, _) := Lib.hid (fun w => rmac_any u hu s (by omega) w)
    have D1 : Hid (∀ w, _) := Lib.hid (fun w => derive_any u hu s (by omega) w)
    have D2 : Hid (∀ w, _) := Lib.hid (fun w => rderive_any u hu s (by omega) w)
    have C1 : Hid (∀ w, TabP w → _) := Lib.hid (fun w h => code_any (macN u s) (macN_lt u s) n w h)
    have C2 : Hid (∀ w, _) := Lib.hid (fun w => rcode_any (macN u s) (macN_lt u s) n w)
    have T1 : Hid (∀ w, TZ w → _) := Lib.hid (fun w h => text_any u hu w h)
    have T2 : Hid (∀ w, Calls Tryd.prog 15 #[.int .u64 u] w fun e w' => e = .returned (.string (txt u)) ∧ Below w.heap.size w w') := Lib.hid (fun w => rtext_any u hu w)
    generalize txt u = t at *
    generalize cdS (macN u s) n = S at *
    generalize cdE n = E at *
    generalize macN u s = m at *
    generalize derN u s = d at *
    clear h1 hs hu
    go_enter Tryd.func3, Tryd.ntmps3
    go_wp2_with fail
    refine (M1.out _).mono ?_
    rintro e v1 ⟨rfl, hb⟩
    have HB1 := Lib.hid (hb)
    clear hb
    go_wp2_with fail
    refine (C1.out _ (HP.out.call HB1.out)).mono ?_
    rintro e v2 ⟨rfl, hb⟩
    have HB2 := Lib.hid (beI HB1.out (Nat.le_refl _) hb)
    clear hb
    go_wp2_with fail
    refine (C2.out _).mono ?_
    rintro e v3 ⟨rfl, hb⟩
    have HB3 := Lib.hid (beI HB2.out (Nat.le_refl _) hb)
    clear hb
    go_wp2_with fail
    refine (M2.out _).mono ?_
    rintro e v4 ⟨rfl, hb⟩
    have HB4 := Lib.hid (beI HB3.out (Nat.le_refl _) hb)
    clear hb
    go_wp2_with fail
    refine (D1.out _).mono ?_
    rintro e v5 ⟨rfl, hb⟩
    have HB5 := Lib.hid (beI HB4.out (Nat.le_refl _) hb)
    clear hb
    go_wp2_with fail
    refine (D2.out _).mono ?_
    rintro e v6 ⟨rfl, hb⟩
    have HB6 := Lib.hid (beI HB5.out (Nat.le_refl _) hb)
    clear hb
    go_wp2_with fail
    refine (T1.out _ (HT.out.call HB6.out)).mono ?_
    rintro e v7 ⟨rfl, hb⟩
    have HB7 := Lib.hid (beI HB6.out (Nat.le_refl _) hb)
    clear hb
    go_wp2_with fail
    refine (T2.out _).mono ?_
    rintro e v8 ⟨rfl, hb⟩
    have HB8 := Lib.hid (beI HB7.out (Nat.le_refl _) hb)
    clear hb
    go_wp2_with fail
    refine (AW.out _ (HP.out.call HB8.out) (HT.out.call HB8.out)).mono ?_
    rintro e v9 ⟨rfl, hb⟩
    have HB9 := Lib.hid (beI HB8.out (Nat.le_refl _) hb)
    clear hb
    go_wp2_with fail
    go_ret
    exact ⟨rfl, HB9.out⟩
end keyedMacs
namespace keyedChecks
set_option maxHeartbeats 4000000 in
set_option maxRecDepth 20000 in
theorem walk (key : Int) (s t : ByteArray) (w : World) (hk : (Lit.int .u64 key).wf = true) (hs : s.size ≤ maxLen) (ht : t.size ≤ maxLen) (hP : TabP w) (hT : TZ w) :
    Calls Tryd.prog 4 #[.int .u64 key, .string s, .string t] w fun e w' => e = .returned (.bool true) ∧ Below w.heap.size w w' := by
  obtain ⟨u, rfl, hu⟩ := word_of hk
  have AW : Hid (∀ w, TabP w → TZ w → _) := Lib.hid awake_any
  have HP := Lib.hid hP
  have HT := Lib.hid hT
  clear hk hP hT
  by_cases h1 : 1000 < s.size
  · have h1' : 1000 < (s.size : Int) := by omega
    clear h1 hs hu ht
    go_enter Tryd.func4, Tryd.ntmps4
    go_wp2_with fail
    refine (AW.out _ HP.out HT.out).mono ?_
    rintro e v1 ⟨rfl, hb⟩
    have HB1 := Lib.hid (hb)
    clear hb
    go_wp2_with fail
    go_ret
    exact ⟨rfl, HB1.out⟩
  by_cases h2 : 1000 < t.size
  · have h1' : ¬ 1000 < (s.size : Int) := by omega
    have h2' : 1000 < (t.size : Int) := by omega
    clear h1 hs hu ht h2
    go_enter Tryd.func4, Tryd.ntmps4
    go_wp2_with fail
    refine (AW.out _ HP.out HT.out).mono ?_
    rintro e v1 ⟨rfl, hb⟩
    have HB1 := Lib.hid (hb)
    clear hb
    go_wp2_with fail
    go_ret
    exact ⟨rfl, HB1.out⟩
  · have h1' : ¬ 1000 < (s.size : Int) := by omega
    have h2' : ¬ 1000 < (t.size : Int) := by omega
    have N1 : Hid (∀ w, _) := Lib.hid (fun w => number_any t w ht)
    have N2 : Hid (∀ w, _) := Lib.hid (fun w => rnumber_any t w ht)
    have V1 : Hid (∀ w, TabP w → _) := Lib.hid (fun w h => verify_any u hu s (by omega) t (by omega) w h)
    have V2 : Hid (∀ w, _) := Lib.hid (fun w => rverify_any u hu s (by omega) t (by omega) w)
    generalize vfB u s t = b at *
    generalize nbV t = v at *
    generalize nbE t = E at *
    clear h1 h2 hs hu ht
    go_enter Tryd.func4, Tryd.ntmps4
    go_wp2_with fail
    refine (N1.out _).mono ?_
    rintro e v1 ⟨rfl, hb⟩
    have HB1 := Lib.hid (hb)
    clear hb
    go_wp2_with fail
    refine (N2.out _).mono ?_
    rintro e v2 ⟨rfl, hb⟩
    have HB2 := Lib.hid (beI HB1.out (Nat.le_refl _) hb)
    clear hb
    go_wp2_with fail
    refine (V1.out _ (HP.out.call HB2.out)).mono ?_
    rintro e v3 ⟨rfl, hb⟩
    have HB3 := Lib.hid (beI HB2.out (Nat.le_refl _) hb)
    clear hb
    go_wp2_with fail
    refine (V2.out _).mono ?_
    rintro e v4 ⟨rfl, hb⟩
    have HB4 := Lib.hid (beI HB3.out (Nat.le_refl _) hb)
    clear hb
    go_wp2_with fail
    refine (AW.out _ (HP.out.call HB4.out) (HT.out.call HB4.out)).mono ?_
    rintro e v5 ⟨rfl, hb⟩
    have HB5 := Lib.hid (beI HB4.out (Nat.le_refl _) hb)
    clear hb
    go_wp2_with fail
    go_ret
    exact ⟨rfl, HB5.out⟩
end keyedChecks
theorem nb_txt (u : Nat) (hu : u < B64) : nbE (txt u) = 0 ∧ nbV (txt u) = u := by
  have e : nbE (txt u) = 0 := by unfold nbE; rw [if_pos (txt_size u), if_pos (show allH (txt u).data.toList = true from last_hex 16 u)]
  refine ⟨e, ?_⟩
  unfold nbV
  rw [if_pos e]
  exact valH_last 16 u (Nat.lt_of_lt_of_le hu (by decide))
namespace keyedDerives
set_option maxHeartbeats 4000000 in
set_option maxRecDepth 20000 in
theorem walk (key : Int) (s : ByteArray) (w : World) (hk : (Lit.int .u64 key).wf = true) (hs : s.size ≤ maxLen) (hP : TabP w) (hT : TZ w) :
    Calls Tryd.prog 6 #[.int .u64 key, .string s] w fun e w' => e = .returned (.bool true) ∧ Below w.heap.size w w' := by
  obtain ⟨u, rfl, hu⟩ := word_of hk
  have AW : Hid (∀ w, TabP w → TZ w → _) := Lib.hid awake_any
  have HP := Lib.hid hP
  have HT := Lib.hid hT
  clear hk hP hT
  by_cases h1 : 1000 < s.size
  · have h1' : 1000 < (s.size : Int) := by omega
    clear h1 hs hu
    go_enter Tryd.func6, Tryd.ntmps6
    go_wp2_with fail
    refine (AW.out _ HP.out HT.out).mono ?_
    rintro e v1 ⟨rfl, hb⟩
    have HB1 := Lib.hid (hb)
    clear hb
    go_wp2_with fail
    go_ret
    exact ⟨rfl, HB1.out⟩
  · have h1' : ¬ 1000 < (s.size : Int) := by omega
    have hl : (lbl ++ s).size ≤ 2000 := by rw [ByteArray.size_append]; show 7 + s.size ≤ 2000; omega
    have D1 : Hid (∀ w, _) := Lib.hid (fun w => derive_any u hu s (by omega) w)
    have M1 : Hid (∀ w, Calls Tryd.prog 8 #[.int .u64 u, .string (lbl ++ s)] w fun e w' => e = .returned (.int .u64 (derN u s : Nat)) ∧ Below w.heap.size w w') := Lib.hid (fun w => mac_any u hu (lbl ++ s) hl w)
    have hd : derN u s < B64 := macN_lt _ _
    have T1 : Hid (∀ w, TZ w → _) := Lib.hid (fun w h => text_any (derN u s) hd w h)
    have N1 : Hid (∀ w, _) := Lib.hid (fun w => number_any (txt (derN u s)) w (by rw [txt_size]; decide))
    rw [(nb_txt _ hd).1, (nb_txt _ hd).2] at N1
    have hz := txt_size (derN u s)
    generalize txt (derN u s) = t at *
    generalize derN u s = d at *
    have hz' : ((t.size : Int) == 16) = true := by rw [hz]; rfl
    have hl7 : 7 + s.size ≤ 2000 := by omega
    unfold lbl at M1
    clear h1 hs hu hd hz hl
    go_enter Tryd.func6, Tryd.ntmps6
    go_wp2_with fail
    refine (D1.out _).mono ?_
    rintro e v1 ⟨rfl, hb⟩
    have HB1 := Lib.hid (hb)
    clear hb
    go_wp2_with fail
    refine (T1.out _ (HT.out.call HB1.out)).mono ?_
    rintro e v2 ⟨rfl, hb⟩
    have HB2 := Lib.hid (beI HB1.out (Nat.le_refl _) hb)
    clear hb
    go_wp2_with fail
    refine (N1.out _).mono ?_
    rintro e v3 ⟨rfl, hb⟩
    have HB3 := Lib.hid (beI HB2.out (Nat.le_refl _) hb)
    clear hb
    go_wp2_with fail
    refine (M1.out _).mono ?_
    rintro e v4 ⟨rfl, hb⟩
    have HB4 := Lib.hid (beI HB3.out (Nat.le_refl _) hb)
    clear hb
    go_wp2_with fail
    refine (T1.out _ (HT.out.call HB4.out)).mono ?_
    rintro e v5 ⟨rfl, hb⟩
    have HB5 := Lib.hid (beI HB4.out (Nat.le_refl _) hb)
    clear hb
    go_wp2_with fail
    refine (AW.out _ (HP.out.call HB5.out) (HT.out.call HB5.out)).mono ?_
    rintro e v6 ⟨rfl, hb⟩
    have HB6 := Lib.hid (beI HB5.out (Nat.le_refl _) hb)
    clear hb
    go_wp2_with fail
    go_ret
    exact ⟨rfl, HB6.out⟩
end keyedDerives
theorem vf_self (u : Nat) (s S : ByteArray) (n : Nat) (h1 : 1 ≤ n) (h2 : n ≤ 12) (hS : S = cdS (macN u s) n) (t : ByteArray) (ht : t.size = n) : vfB u s t = (t.toList == S.toList) := by
  unfold vfB
  rw [ht, hS, show cdE (n : Int) = 0 from if_pos (by omega)]
  rfl
theorem cd_size (m n : Nat) (h1 : 1 ≤ n) (h2 : n ≤ 12) : (cdS m n).size = n := by
  unfold cdS
  rw [if_pos (by omega), bst_size, lastD_len]
  rfl
namespace keyedVerifies
set_option maxHeartbeats 4000000 in
set_option maxRecDepth 20000 in
theorem walk (key : Int) (s : ByteArray) (d : Int) (t : ByteArray) (w : World) (hk : (Lit.int .u64 key).wf = true) (hs : s.size ≤ maxLen) (hd : (Lit.int .u8 d).wf = true) (ht : t.size ≤ maxLen) (hP : TabP w) (hT : TZ w) :
    Calls Tryd.prog 5 #[.int .u64 key, .string s, .int .u8 d, .string t] w fun e w' => e = .returned (.bool true) ∧ Below w.heap.size w w' := by
  obtain ⟨u, rfl, hu⟩ := word_of hk
  obtain ⟨d0, d1⟩ := wf_u8 hd
  have AW : Hid (∀ w, TabP w → TZ w → _) := Lib.hid awake_any
  have HP := Lib.hid hP
  have HT := Lib.hid hT
  clear hk hP hT hd
  by_cases h1 : 1000 < s.size
  · have h1' : 1000 < (s.size : Int) := by omega
    clear h1 hs hu ht d0 d1
    go_enter Tryd.func5, Tryd.ntmps5
    go_wp2_with fail
    refine (AW.out _ HP.out HT.out).mono ?_
    rintro e v1 ⟨rfl, hb⟩
    have HB1 := Lib.hid (hb)
    clear hb
    go_wp2_with fail
    go_ret
    exact ⟨rfl, HB1.out⟩
  by_cases h2 : 20 < t.size
  · have h1' : ¬ 1000 < (s.size : Int) := by omega
    have h2' : 20 < (t.size : Int) := by omega
    clear h1 hs hu ht h2 d0 d1
    go_enter Tryd.func5, Tryd.ntmps5
    go_wp2_with fail
    refine (AW.out _ HP.out HT.out).mono ?_
    rintro e v1 ⟨rfl, hb⟩
    have HB1 := Lib.hid (hb)
    clear hb
    go_wp2_with fail
    go_ret
    exact ⟨rfl, HB1.out⟩
  · have h1' : ¬ 1000 < (s.size : Int) := by omega
    have h2' : ¬ 20 < (t.size : Int) := by omega
    obtain ⟨n, hn⟩ : ∃ n : Nat, (n : Int) = d % 12 + 1 := ⟨(d % 12 + 1).toNat, by omega⟩
    have n1 : 1 ≤ n := by omega
    have n2 : n ≤ 12 := by omega
    obtain ⟨r, hr⟩ : ∃ r : Int, r = d % 12 := ⟨_, rfl⟩
    have e1 : Int.tmod d 12 = r := by rw [Int.tmod_eq_emod_of_nonneg d0]; omega
    have r0 : 0 ≤ r := by omega
    have r1 : r ≤ 11 := by omega
    have e2 : r + 1 = (n : Int) := by omega
    obtain ⟨S, hS⟩ : ∃ S, S = cdS (macN u s) n := ⟨_, rfl⟩
    have hSz : S.size = n := by rw [hS]; exact cd_size _ n n1 n2
    have M1 : Hid (∀ w, _) := Lib.hid (fun w => mac_any u hu s (by omega) w)
    have C1 : Hid (∀ w, TabP w → _) := Lib.hid (fun w h => code_any (macN u s) (macN_lt u s) n w h)
    rw [← hS, show cdE (n : Int) = 0 from if_pos (by omega)] at C1
    have V1 : Hid (∀ w, TabP w → _) := Lib.hid (fun w h => verify_any u hu s (by omega) S (by omega) w h)
    rw [vf_self u s S n n1 n2 hS S hSz, beq_self_eq_true] at V1
    have V2 : Hid (∀ w, TabP w → _) := Lib.hid (fun w h => verify_any u hu s (by omega) t (by omega) w h)
    have hV2 := fun h => vf_self u s S n n1 n2 hS t h
    have T1 : Hid (∀ w, TZ w → _) := Lib.hid (fun w h => text_any u hu w h)
    have N1 : Hid (∀ w, _) := Lib.hid (fun w => number_any (txt u) w (by rw [txt_size]; decide))
    rw [(nb_txt _ hu).1, (nb_txt _ hu).2] at N1
    have g1 : ((S.size : Int) != (n : Int)) = false := by rw [hSz, bne_self_eq_false]
    have g2 : ((S.size : Int) == (n : Int)) = true := by rw [hSz]; exact beq_self_eq_true _
    generalize txt u = x at *
    generalize macN u s = m at *
    generalize vfB u s t = b at *
    have n1' : 1 ≤ (n : Int) := by omega
    have n2' : (n : Int) ≤ 12 := by omega
    by_cases h3 : t.size = n
    · have g3 : ((t.size : Int) == (n : Int)) = true := by rw [h3]; exact beq_self_eq_true _
      rw [hV2 h3] at V2
      clear h1 hs hu h2 ht hn n1 n2 hr hS hSz d0 d1 hV2 h3
      cases hb : (t.toList == S.toList)
      all_goals
        rw [hb] at V2
        go_enter Tryd.func5, Tryd.ntmps5
        go_wp2_with fail
        refine (M1.out _).mono ?_
        rintro e v1 ⟨rfl, hb⟩
        have HB1 := Lib.hid (hb)
        clear hb
        go_wp2_with fail
        refine (C1.out _ (HP.out.call HB1.out)).mono ?_
        rintro e v2 ⟨rfl, hb⟩
        have HB2 := Lib.hid (beI HB1.out (Nat.le_refl _) hb)
        clear hb
        go_wp2_with fail
        refine (V1.out _ (HP.out.call HB2.out)).mono ?_
        rintro e v3 ⟨rfl, hb⟩
        have HB3 := Lib.hid (beI HB2.out (Nat.le_refl _) hb)
        clear hb
        go_wp2_with fail
        refine (V2.out _ (HP.out.call HB3.out)).mono ?_
        rintro e v4 ⟨rfl, hb⟩
        have HB4 := Lib.hid (beI HB3.out (Nat.le_refl _) hb)
        clear hb
        go_wp2_with fail
        refine (T1.out _ (HT.out.call HB4.out)).mono ?_
        rintro e v5 ⟨rfl, hb⟩
        have HB5 := Lib.hid (beI HB4.out (Nat.le_refl _) hb)
        clear hb
        go_wp2_with fail
        refine (N1.out _).mono ?_
        rintro e v6 ⟨rfl, hb⟩
        have HB6 := Lib.hid (beI HB5.out (Nat.le_refl _) hb)
        clear hb
        go_wp2_with fail
        refine (AW.out _ (HP.out.call HB6.out) (HT.out.call HB6.out)).mono ?_
        rintro e v7 ⟨rfl, hb⟩
        have HB7 := Lib.hid (beI HB6.out (Nat.le_refl _) hb)
        clear hb
        go_wp2_with fail
        go_ret
        exact ⟨rfl, HB7.out⟩
    · have g3 : ((t.size : Int) == (n : Int)) = false := beq_eq_false_iff_ne.2 (by omega)
      clear h1 hs hu h2 ht hn n1 n2 hr hS hSz d0 d1 hV2 h3
      go_enter Tryd.func5, Tryd.ntmps5
      go_wp2_with fail
      refine (M1.out _).mono ?_
      rintro e v1 ⟨rfl, hb⟩
      have HB1 := Lib.hid (hb)
      clear hb
      go_wp2_with fail
      refine (C1.out _ (HP.out.call HB1.out)).mono ?_
      rintro e v2 ⟨rfl, hb⟩
      have HB2 := Lib.hid (beI HB1.out (Nat.le_refl _) hb)
      clear hb
      go_wp2_with fail
      refine (V1.out _ (HP.out.call HB2.out)).mono ?_
      rintro e v3 ⟨rfl, hb⟩
      have HB3 := Lib.hid (beI HB2.out (Nat.le_refl _) hb)
      clear hb
      go_wp2_with fail
      refine (T1.out _ (HT.out.call HB3.out)).mono ?_
      rintro e v4 ⟨rfl, hb⟩
      have HB4 := Lib.hid (beI HB3.out (Nat.le_refl _) hb)
      clear hb
      go_wp2_with fail
      refine (N1.out _).mono ?_
      rintro e v5 ⟨rfl, hb⟩
      have HB5 := Lib.hid (beI HB4.out (Nat.le_refl _) hb)
      clear hb
      go_wp2_with fail
      refine (AW.out _ (HP.out.call HB5.out) (HT.out.call HB5.out)).mono ?_
      rintro e v6 ⟨rfl, hb⟩
      have HB6 := Lib.hid (beI HB5.out (Nat.le_refl _) hb)
      clear hb
      go_wp2_with fail
      go_ret
      exact ⟨rfl, HB6.out⟩
end keyedVerifies
end Go.Proofs.YtgdgpimlaljpdaaDoor
