/- BitmapRoundTrip: the walk. -/
import Derived.Test.YtfiingnanofneaaDoorRt
import Derived.Test.YtfiingnanofneaaDoorCountsW
import Derived.Test.YtfiingnanofneaaDoorM2
set_option linter.unusedVariables false
set_option linter.unusedSimpArgs false
namespace Go.Proofs.YtfiingnanofneaaDoor
open Go.Sort Go.ChangeShapes Go.WideShapes Go.ChangeAt Go.RowKit
theorem enc_size (a b : Nat) : (encS a b).size = 16 ∨ (encS a b).size = 32 := by
  unfold encS
  split
  · exact .inl (hex16_size _)
  · right; rw [ByteArray.size_append, hex16_size, hex16_size]
namespace bitmapRoundTrip
set_option maxHeartbeats 8000000 in
set_option maxRecDepth 100000 in
theorem walkN (a b : Nat) (s : ByteArray) (w : World) (ha : a < B64) (hb : b < B64) (hs : s.size ≤ maxLen) (hT : Tab w) :
    Calls Tryd.prog 7 #[bm a b, .string s] w fun e w' => e = .returned (.bool true) ∧ Below w.heap.size w w' := by
  unfold maxLen at hs
  have hs' : (s.size : Int) ≤ 9223372036854775807 := by omega
  have HT := Lib.hid hT
  clear hT
  by_cases h300 : s.size ≤ 300
  · have g300 : decide (300 < (s.size : Int)) = false := decide_eq_false (by omega)
    have D1 : Hid (∀ w, _) := Lib.hid (fun w => dec_any (encS a b ++ s) w (by rw [ByteArray.size_append]; rcases enc_size a b with h | h <;> rw [h] <;> unfold maxLen <;> omega))
    have d1 := D1.out
    rw [dec_enc a b s hb] at d1
    replace D1 := Lib.hid d1
    have D2 : Hid (∀ w, _) := Lib.hid (fun w => dec_any s w (by unfold maxLen; omega))
    have hD := enc_dec s
    have E1 : Hid (∀ w, Tab w → _) := Lib.hid (fun w hT => enc_any a b ha hb w hT)
    have hes := enc_size a b
    have L1 : Hid (∀ w, _) := Lib.hid (fun w => list_any a b ha hb w)
    have l2 := fun w => list_any (a % B63) b (mod_lt' a) hb w
    rw [nums_mod] at l2
    have L2 := Lib.hid l2
    have N1 : Hid (∀ w, _) := Lib.hid (fun w => has_no (a % B63) b 1 (by omega) w)
    have hlow := mod_low a
    generalize encS a b = t at *
    generalize a % B63 = x at *
    generalize nums a b 127 = l at *
    have hx0 : (x : Int) / 9223372036854775808 = 0 := by unfold B63 at hlow; omega
    have htl : (t.size : Int) ≤ 32 := by omega
    have hsum : ((t ++ s).size : Int) ≤ 400 := by rw [ByteArray.size_append]; omega
    have htn : t.size ≤ 32 := by omega
    have hcat : t.size + s.size ≤ 9223372036854775807 := by omega
    unfold bm at *
    clear ha hb d1 l2 hlow hes
    go_enter Tryd.func7, Tryd.ntmps7
    go_wp2_with fail
    refine (E1.out _ (HT.out.alloc _)).mono ?_
    rintro e w1 ⟨rfl, hb⟩
    have hB := below_call (al (o := .cells #[.int .u64 a, .int .u64 b] 24) (Below.refl w.heap.size w)) hb
    have hk := (Blk.new w 24 #[.int .u64 a, .int .u64 b]).call hb
    have HB := Lib.hid hB
    have HK := Lib.hid hk
    clear hb hB hk
    go_wp2_with fail
    refine (D1.out _).mono ?_
    rintro e w2 ⟨rfl, hb⟩
    have HB2 := Lib.hid (al (o := .cells #[.int .u64 x, .int .u64 b] 24) (below_call HB.out hb))
    have HK2 := Lib.hid ((HK.out.call hb).alloc (.cells #[.int .u64 x, .int .u64 b] 24))
    clear hb HB HK
    go_wp2_with fail
    obtain ⟨r0, r1, -, -, -⟩ := cell2 HK2.out
    obtain ⟨u0, u1, -, -, -⟩ := cell2 (Blk.new w2 24 #[.int .u64 x, .int .u64 b])
    have hTW := HT.out.call HB2.out
    have hS : S7 w _ _ _ _ _ _ _ _ _ := ⟨r0, r1, u0, u1, u0, u1, hTW, HB2.out⟩
    clear hTW r0 r1 u0 u1 HB2 HK2
    generalize w2.alloc (.cells #[.int .u64 x, .int .u64 b] 24) = W at *
    generalize w2.heap.size = k at *
    go_region_held3 (fun w' => w'.cell? ⟨w.heap.size, 0, none⟩ = some (.int .u64 a) ∧ w'.cell? ⟨w.heap.size, 1, none⟩ = some (.int .u64 b) ∧ w'.cell? ⟨k, 0, none⟩ = some (.int .u64 x) ∧ w'.cell? ⟨k, 1, none⟩ = some (.int .u64 b) ∧ w'.cell? ⟨k, 0, none⟩ = some (.int .u64 x) ∧ w'.cell? ⟨k, 1, none⟩ = some (.int .u64 b) ∧
        w'.cell? ⟨4, 15, none⟩ = some (.int .u8 4) ∧ Below w.heap.size w w')
      (first | (exact S7.drew (by assumption)) | (exact S7.call (by assumption) (by assumption)))
      (first
        | (go_at_call 16; (with_reducible refine (L2.out _).mono ?_); rintro e w3 ⟨v3, rfl, ho3, hb3⟩; obtain ⟨A3, c3, rfl, hI3⟩ := own_ints ho3; clear ho3)
        | (go_at_call 16; (with_reducible refine (L1.out _).mono ?_); rintro e w4 ⟨v4, rfl, ho4, hb4⟩; obtain ⟨A4, c4, rfl, hI4⟩ := own_ints ho4; clear ho4)
        | (go_at_call 15; refine (same_bel _ _ _ _ _ (ints l) _ (Ints.call (by assumption) (by assumption)) (by assumption)).mono ?_; rintro e w5 ⟨rfl, hb5⟩)
        | (go_at_call 13; (with_reducible refine (N1.out _).mono ?_); rintro e w6 ⟨rfl, hb6⟩))
    have hS6 : S7 w k k (.int .u64 a) (.int .u64 b) (.int .u64 x) (.int .u64 b) (.int .u64 x) (.int .u64 b) w6 := by assumption
    have HS6 := Lib.hid hS6
    clear hS hS6
    go_wp2_with fail
    rcases hD with ⟨E, hE, hE0⟩ | ⟨p, q, m, hE, hm, hms, henc, hp, hq⟩
    · have d2 := D2.out
      simp only [hE] at d2
      have hne : (E != 0) = true := by rw [bne_iff_ne]; exact hE0
      refine (d2 _).mono ?_
      rintro e w7 ⟨rfl, hb7⟩
      have hS7 := (HS6.out.call hb7).call ((Below.refl _ _).alloc (Nat.le_refl _) (.cells #[.int .u64 (0 : Nat), .int .u64 (0 : Nat)] 24))
      have HS7 := Lib.hid hS7
      have HK7 := Lib.hid (Blk.new w7 24 #[.int .u64 (0 : Nat), .int .u64 (0 : Nat)])
      clear hE hE0 d2 hb7 hS7
      go_wp2_with fail
      refine (awake_any _ HS7.out.tab).mono ?_
      rintro e w8 ⟨rfl, hb8⟩
      have HB8 := Lib.hid (below_call HS7.out.bel hb8)
      clear hb8
      go_wp2_with fail
      go_ret
      exact ⟨rfl, HB8.out⟩
    · rcases hm with rfl | rfl
      · have d2 := D2.out
        simp only [hE] at d2
        rw [show (((16 : Nat) : Int)) = 16 from rfl] at d2
        have hms' : (16 : Int) ≤ (s.size : Int) := by omega
        have he2 := fun w hT => enc_any p q hp hq w hT
        rw [henc] at he2
        have HE2 := Lib.hid he2
        unfold bm at *
        refine (d2 _).mono ?_
        rintro e w7 ⟨rfl, hb7⟩
        have hS7 := (HS6.out.call hb7).call ((Below.refl _ _).alloc (Nat.le_refl _) (.cells #[.int .u64 p, .int .u64 q] 24))
        have HS7 := Lib.hid hS7
        have HK7 := Lib.hid (Blk.new w7 24 #[.int .u64 p, .int .u64 q])
        clear hE d2 hb7 hS7 he2 henc hp hq
        go_wp2_with fail
        obtain ⟨r0, r1, s0, s1, -, -, hTb, hBl⟩ := HS7.out
        obtain ⟨u0, u1, -, -, -⟩ := cell2 HK7.out
        have hS8 : S7 w k _ _ _ _ _ _ _ _ := ⟨r0, r1, s0, s1, u0, u1, hTb, hBl⟩
        clear r0 r1 s0 s1 u0 u1 hTb hBl HS7 HK7 HS6
        generalize w7.alloc (.cells #[.int .u64 p, .int .u64 q] 24) = W8 at *
        generalize w7.heap.size = g at *
        go_region_held3 (fun w' => w'.cell? ⟨w.heap.size, 0, none⟩ = some (.int .u64 a) ∧ w'.cell? ⟨w.heap.size, 1, none⟩ = some (.int .u64 b) ∧ w'.cell? ⟨k, 0, none⟩ = some (.int .u64 x) ∧ w'.cell? ⟨k, 1, none⟩ = some (.int .u64 b) ∧ w'.cell? ⟨g, 0, none⟩ = some (.int .u64 p) ∧ w'.cell? ⟨g, 1, none⟩ = some (.int .u64 q) ∧
            w'.cell? ⟨4, 15, none⟩ = some (.int .u8 4) ∧ Below w.heap.size w w')
          (first | (exact S7.drew (by assumption)) | (exact S7.call (by assumption) (by assumption)))
          (first
            | (go_at_call 29; refine (HE2.out _ (S7.tab (by assumption))).mono ?_; rintro e w8 ⟨rfl, hb8⟩)
            | (go_at_call 20; refine (awake_any _ (S7.tab (by assumption))).mono ?_; rintro e w9 ⟨rfl, hb9⟩))
        have hBel : Below w.heap.size w w9 := S7.bel (by assumption)
        have HBel := Lib.hid hBel
        clear hBel hS8
        go_wp2_with fail
        go_ret
        exact ⟨rfl, HBel.out⟩
      · have d2 := D2.out
        simp only [hE] at d2
        rw [show (((32 : Nat) : Int)) = 32 from rfl] at d2
        have hms' : (32 : Int) ≤ (s.size : Int) := by omega
        have he2 := fun w hT => enc_any p q hp hq w hT
        rw [henc] at he2
        have HE2 := Lib.hid he2
        unfold bm at *
        refine (d2 _).mono ?_
        rintro e w7 ⟨rfl, hb7⟩
        have hS7 := (HS6.out.call hb7).call ((Below.refl _ _).alloc (Nat.le_refl _) (.cells #[.int .u64 p, .int .u64 q] 24))
        have HS7 := Lib.hid hS7
        have HK7 := Lib.hid (Blk.new w7 24 #[.int .u64 p, .int .u64 q])
        clear hE d2 hb7 hS7 he2 henc hp hq
        go_wp2_with fail
        obtain ⟨r0, r1, s0, s1, -, -, hTb, hBl⟩ := HS7.out
        obtain ⟨u0, u1, -, -, -⟩ := cell2 HK7.out
        have hS8 : S7 w k _ _ _ _ _ _ _ _ := ⟨r0, r1, s0, s1, u0, u1, hTb, hBl⟩
        clear r0 r1 s0 s1 u0 u1 hTb hBl HS7 HK7 HS6
        generalize w7.alloc (.cells #[.int .u64 p, .int .u64 q] 24) = W8 at *
        generalize w7.heap.size = g at *
        go_region_held3 (fun w' => w'.cell? ⟨w.heap.size, 0, none⟩ = some (.int .u64 a) ∧ w'.cell? ⟨w.heap.size, 1, none⟩ = some (.int .u64 b) ∧ w'.cell? ⟨k, 0, none⟩ = some (.int .u64 x) ∧ w'.cell? ⟨k, 1, none⟩ = some (.int .u64 b) ∧ w'.cell? ⟨g, 0, none⟩ = some (.int .u64 p) ∧ w'.cell? ⟨g, 1, none⟩ = some (.int .u64 q) ∧
            w'.cell? ⟨4, 15, none⟩ = some (.int .u8 4) ∧ Below w.heap.size w w')
          (first | (exact S7.drew (by assumption)) | (exact S7.call (by assumption) (by assumption)))
          (first
            | (go_at_call 29; refine (HE2.out _ (S7.tab (by assumption))).mono ?_; rintro e w8 ⟨rfl, hb8⟩)
            | (go_at_call 20; refine (awake_any _ (S7.tab (by assumption))).mono ?_; rintro e w9 ⟨rfl, hb9⟩))
        have hBel : Below w.heap.size w w9 := S7.bel (by assumption)
        have HBel := Lib.hid hBel
        clear hBel hS8
        go_wp2_with fail
        go_ret
        exact ⟨rfl, HBel.out⟩
  · have g300 : decide (300 < (s.size : Int)) = true := decide_eq_true (by omega)
    unfold bm
    go_enter Tryd.func7, Tryd.ntmps7
    go_wp2_with fail
    refine (awake_any _ (HT.out.alloc _)).mono ?_
    rintro e w8 ⟨rfl, hb8⟩
    have HB8 := Lib.hid (below_call (al (Below.refl _ _)) hb8)
    clear hb8
    go_wp2_with fail
    go_ret
    exact ⟨rfl, HB8.out⟩
theorem walk (a b : Int) (s : ByteArray) (w : World) (ha : (Lit.int .u64 a).wf = true) (hb : (Lit.int .u64 b).wf = true) (hs : s.size ≤ maxLen) (hT : Tab w) :
    Calls Tryd.prog 7 #[.agg #[.int .u64 a, .int .u64 b], .string s] w fun e w' => e = .returned (.bool true) ∧ Below w.heap.size w w' := by
  obtain ⟨A, rfl, hA⟩ := wf_u64 ha
  obtain ⟨B, rfl, hB⟩ := wf_u64 hb
  exact walkN A B s w hA hB hs hT
end bitmapRoundTrip
end Go.Proofs.YtfiingnanofneaaDoor
