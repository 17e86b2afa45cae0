/- BitmapJoins: the walk. -/
import Derived.Test.YtfiingnanofneaaDoorP
set_option linter.unusedVariables false
set_option linter.unusedSimpArgs false
namespace Go.Proofs.YtfiingnanofneaaDoor
open Go.Sort Go.ChangeShapes Go.WideShapes Go.ChangeAt Go.RowKit
namespace bitmapJoins
set_option maxHeartbeats 4000000 in
set_option maxRecDepth 100000 in
theorem walkN (a b c d : Nat) (w : World) (ha : a < B64) (hb : b < B64) (hc : c < B64) (hd : d < B64) (hT : Tab w) :
    Calls Tryd.prog 5 #[bm a b, bm c d] w fun e w' => e = .returned (.bool true) ∧ Below w.heap.size w w' := by
  have U1 : Hid (∀ w, _) := Lib.hid (fun w => union_any a b c d ha hb hc hd w)
  have U2 : Hid (∀ w, _) := Lib.hid (fun w => runion_any a b c d ha hb hc hd w)
  have M1 : Hid (∀ w, _) := Lib.hid (fun w => minus_any a b c d ha hb hc hd w)
  have M2 : Hid (∀ w, _) := Lib.hid (fun w => rminus_any a b c d ha hb hc hd w)
  have HT := Lib.hid hT
  clear hT
  generalize (a ||| c) % B63 = p at *
  generalize b ||| d = q at *
  generalize (a &&& nt c) % B63 = r at *
  generalize b &&& nt d = s at *
  unfold bm at *
  have hS : S7 w (w.heap.size + 1) (w.heap.size + 1) (.int .u64 a) (.int .u64 b) (.int .u64 c) (.int .u64 d) (.int .u64 c) (.int .u64 d) ((w.alloc (.cells #[.int .u64 a, .int .u64 b] 24)).alloc (.cells #[.int .u64 c, .int .u64 d] 24)) := by
    have hB := al (o := .cells #[.int .u64 c, .int .u64 d] 24) (al (o := .cells #[.int .u64 a, .int .u64 b] 24) (Below.refl w.heap.size w))
    obtain ⟨r0, r1, -, -, -⟩ := cell2 ((Blk.new w 24 #[.int .u64 a, .int .u64 b]).alloc (.cells #[.int .u64 c, .int .u64 d] 24))
    have hk2 : Blk ((w.alloc (.cells #[.int .u64 a, .int .u64 b] 24)).alloc (.cells #[.int .u64 c, .int .u64 d] 24)) (w.heap.size + 1) 24 #[.int .u64 c, .int .u64 d] := by have := Blk.new (w.alloc (.cells #[.int .u64 a, .int .u64 b] 24)) 24 #[.int .u64 c, .int .u64 d]; simpa using this
    obtain ⟨s0, s1, -, -, -⟩ := cell2 hk2
    exact ⟨r0, r1, s0, s1, s0, s1, HT.out.call hB, hB⟩
  have HS := Lib.hid hS
  clear hS ha hb hc hd
  go_enter Tryd.func5, Tryd.ntmps5
  go_wp2_with fail
  have hS := HS.out
  generalize (w.alloc (.cells #[.int .u64 a, .int .u64 b] 24)).alloc (.cells #[.int .u64 c, .int .u64 d] 24) = W at *
  go_region_held3 (fun w' => w'.cell? ⟨w.heap.size, 0, none⟩ = some (.int .u64 a) ∧ w'.cell? ⟨w.heap.size, 1, none⟩ = some (.int .u64 b) ∧ w'.cell? ⟨w.heap.size + 1, 0, none⟩ = some (.int .u64 c) ∧ w'.cell? ⟨w.heap.size + 1, 1, none⟩ = some (.int .u64 d) ∧ w'.cell? ⟨w.heap.size + 1, 0, none⟩ = some (.int .u64 c) ∧ w'.cell? ⟨w.heap.size + 1, 1, none⟩ = some (.int .u64 d) ∧
      w'.cell? ⟨4, 15, none⟩ = some (.int .u8 4) ∧ Below w.heap.size w w')
    (first | (exact S7.drew (by assumption)) | (exact S7.call (by assumption) (by assumption)))
    (first
      | (go_at_call 23; (with_reducible refine (U1.out _).mono ?_); rintro e w6 ⟨rfl, hb6⟩)
      | (go_at_call 24; (with_reducible refine (U2.out _).mono ?_); rintro e w7 ⟨rfl, hb7⟩)
      | (go_at_call 25; (with_reducible refine (M1.out _).mono ?_); rintro e w8 ⟨rfl, hb8⟩)
      | (go_at_call 26; (with_reducible refine (M2.out _).mono ?_); rintro e w9 ⟨rfl, hb9⟩)
      | (go_at_call 20; refine (awake_any _ (S7.tab (by assumption))).mono ?_; rintro e we ⟨rfl, hbe⟩))
  all_goals
    have hBel : Below w.heap.size w we := S7.bel (by assumption)
    have HBel := Lib.hid hBel
    clear hBel
    go_wp2_with fail
    go_ret
    exact ⟨rfl, HBel.out⟩
theorem walk (a b c d : Int) (w : World) (ha : (Lit.int .u64 a).wf = true) (hb : (Lit.int .u64 b).wf = true) (hc : (Lit.int .u64 c).wf = true) (hd : (Lit.int .u64 d).wf = true) (hT : Tab w) :
    Calls Tryd.prog 5 #[.agg #[.int .u64 a, .int .u64 b], .agg #[.int .u64 c, .int .u64 d]] w fun e w' => e = .returned (.bool true) ∧ Below w.heap.size w w' := by
  obtain ⟨A, rfl, hA⟩ := wf_u64 ha
  obtain ⟨B, rfl, hB⟩ := wf_u64 hb
  obtain ⟨C, rfl, hC⟩ := wf_u64 hc
  obtain ⟨D, rfl, hD⟩ := wf_u64 hd
  exact walkN A B C D w hA hB hC hD hT
end bitmapJoins
end Go.Proofs.YtfiingnanofneaaDoor
