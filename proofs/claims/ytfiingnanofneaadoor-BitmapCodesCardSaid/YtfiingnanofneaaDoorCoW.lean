/- BitmapCodes: the walk. -/
import Derived.Test.YtfiingnanofneaaDoorCo3
import Derived.Test.YtfiingnanofneaaDoorM2
set_option linter.unusedVariables false
set_option linter.unusedSimpArgs false
namespace Go.Proofs.YtfiingnanofneaaDoor
open Go.Sort Go.ChangeShapes Go.WideShapes Go.ChangeAt Go.RowKit
namespace bitmapCodes
set_option maxHeartbeats 8000000 in
set_option maxRecDepth 100000 in
theorem walkN (a b : Nat) (s : ByteArray) (w : World) (ha : a < B64) (hb : b < B64) (hs : s.size ≤ maxLen) (hT : Tab w) :
    Calls Tryd.prog 6 #[bm a b, .string s] w fun e w' => e = .returned (.bool true) ∧ Below w.heap.size w w' := by
  have d1 := fun w => dec_any s w hs
  have d2 := fun w => rdec_any s w hs
  have E1 : Hid (∀ w, Tab w → _) := Lib.hid (fun w hT => enc_any a b ha hb w hT)
  have E2 : Hid (∀ w, _) := Lib.hid (fun w => renc_any a b ha hb w)
  have HT := Lib.hid hT
  unfold maxLen at hs
  have hs' : (s.size : Int) ≤ 9223372036854775807 := by omega
  generalize encS a b = t at *
  generalize decR s = R at *
  obtain ⟨p, q, m, E⟩ := R
  simp only at d1 d2
  have D1 := Lib.hid d1
  have D2 := Lib.hid d2
  unfold bm at *
  clear ha hb hT d1 d2
  by_cases h300 : s.size ≤ 300
  · have g300 : decide (300 < (s.size : Int)) = false := decide_eq_false (by omega)
    clear h300
    have HK := Lib.hid (Blk.new w 24 #[.int .u64 a, .int .u64 b])
    go_enter Tryd.func6, Tryd.ntmps6
    go_wp2_with fail
    refine (D1.out _).mono ?_
    rintro e w1 ⟨rfl, hb1⟩
    have HK1 := Lib.hid ((HK.out.call hb1).alloc (.cells #[.int .u64 p, .int .u64 q] 24))
    have HX1 := Lib.hid (Blk.new w1 24 #[.int .u64 p, .int .u64 q])
    have HB1 := Lib.hid (al (o := .cells #[.int .u64 p, .int .u64 q] 24) (below_call (al (o := .cells #[.int .u64 a, .int .u64 b] 24) (Below.refl w.heap.size w)) hb1))
    clear hb1
    go_wp2_with fail
    refine (D2.out _).mono ?_
    rintro e w2 ⟨rfl, hb2⟩
    have HK2 := Lib.hid ((HK1.out.call hb2).alloc (.cells #[.int .u64 p, .int .u64 q] 24))
    have HX2 := Lib.hid ((HX1.out.call hb2).alloc (.cells #[.int .u64 p, .int .u64 q] 24))
    have HY2 := Lib.hid (Blk.new w2 24 #[.int .u64 p, .int .u64 q])
    have HB2 := Lib.hid (al (o := .cells #[.int .u64 p, .int .u64 q] 24) (below_call HB1.out hb2))
    clear hb2
    go_wp2_with fail
    obtain ⟨r0, r1, -, -, -⟩ := cell2 HK2.out
    obtain ⟨s0, s1, -, -, -⟩ := cell2 HX2.out
    obtain ⟨u0, u1, -, -, -⟩ := cell2 HY2.out
    have hTW := HT.out.call HB2.out
    have hS : S7 w _ _ _ _ _ _ _ _ _ := ⟨r0, r1, s0, s1, u0, u1, hTW, HB2.out⟩
    clear hTW r0 r1 s0 s1 u0 u1 HB2 HK2 HX2 HY2 HB1 HK1 HX1 HK
    generalize w2.alloc (.cells #[.int .u64 p, .int .u64 q] 24) = W at *
    generalize w2.heap.size = k at *
    generalize w1.heap.size = g at *
    go_region_held3 (fun w' => w'.cell? ⟨w.heap.size, 0, none⟩ = some (.int .u64 a) ∧ w'.cell? ⟨w.heap.size, 1, none⟩ = some (.int .u64 b) ∧ w'.cell? ⟨g, 0, none⟩ = some (.int .u64 p) ∧ w'.cell? ⟨g, 1, none⟩ = some (.int .u64 q) ∧ w'.cell? ⟨k, 0, none⟩ = some (.int .u64 p) ∧ w'.cell? ⟨k, 1, none⟩ = some (.int .u64 q) ∧
        w'.cell? ⟨4, 15, none⟩ = some (.int .u8 4) ∧ Below w.heap.size w w')
      (first | (exact S7.drew (by assumption)) | (exact S7.call (by assumption) (by assumption)))
      (first
        | (go_at_call 29; refine (E1.out _ (S7.tab (by assumption))).mono ?_; rintro e w3 ⟨rfl, hb3⟩)
        | (go_at_call 30; refine (E2.out _).mono ?_; rintro e w4 ⟨rfl, hb4⟩)
        | (go_at_call 20; refine (awake_any _ (S7.tab (by assumption))).mono ?_; rintro e w5 ⟨rfl, hb5⟩))
    all_goals
      have hBel : Below w.heap.size w w5 := S7.bel (by assumption)
      have HBel := Lib.hid hBel
      clear hBel
      go_wp2_with fail
      go_ret
      exact ⟨rfl, HBel.out⟩
  · have g300 : decide (300 < (s.size : Int)) = true := decide_eq_true (by omega)
    go_enter Tryd.func6, Tryd.ntmps6
    go_wp2_with fail
    refine (awake_any _ (HT.out.alloc _)).mono ?_
    rintro e w8 ⟨rfl, hb8⟩
    have HB8 := Lib.hid (below_call (al (Below.refl _ _)) hb8)
    clear hb8
    go_wp2_with fail
    go_ret
    exact ⟨rfl, HB8.out⟩
theorem walk (a b : Int) (s : ByteArray) (w : World) (ha : (Lit.int .u64 a).wf = true) (hb : (Lit.int .u64 b).wf = true) (hs : s.size ≤ maxLen) (hT : Tab w) :
    Calls Tryd.prog 6 #[.agg #[.int .u64 a, .int .u64 b], .string s] w fun e w' => e = .returned (.bool true) ∧ Below w.heap.size w w' := by
  obtain ⟨A, rfl, hA⟩ := wf_u64 ha
  obtain ⟨B, rfl, hB⟩ := wf_u64 hb
  exact walkN A B s w hA hB hs hT
end bitmapCodes
end Go.Proofs.YtfiingnanofneaaDoor
