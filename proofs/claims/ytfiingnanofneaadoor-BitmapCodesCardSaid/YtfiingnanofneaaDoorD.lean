/- Of, of both; numbers. -/
import Derived.Test.YtfiingnanofneaaDoorC
import Derived.StillTailTactics
import Derived.IntWalk
set_option linter.unusedVariables false
set_option linter.unusedSimpArgs false
namespace Go.Proofs.YtfiingnanofneaaDoor
open Go.Sort Go.ChangeShapes Go.WideShapes Go.ChangeAt Go.RowKit
/-- a slice of ints, as it is read -/
def Ints (w : World) (a : Option Addr) (len cap : Nat) (zs : List Int) : Prop :=
  zs.length = len ∧ len ≤ cap ∧ cap ≤ maxLen ∧ ∀ i, i < len → ∃ b off, a = some ⟨b, off, none⟩ ∧ b < w.heap.size ∧ w.cell? ⟨b, off + i, none⟩ = some (.int .i64 (zs.getD i 0))
theorem Ints.call {w w1 : World} {a : Option Addr} {len cap : Nat} {zs : List Int} (h : Ints w a len cap zs) (hb : Below w.heap.size w w1) : Ints w1 a len cap zs := by
  obtain ⟨h1, h2, h3, h4⟩ := h
  refine ⟨h1, h2, h3, fun i hi => ?_⟩
  obtain ⟨b, off, e, hl, hc⟩ := h4 i hi
  exact ⟨b, off, e, Nat.lt_of_lt_of_le hl hb.size, (hb.cell (p := ⟨b, off + i, none⟩) hl).trans hc⟩
def stepO (p : Nat × Nat) (n : Int) : Nat × Nat := (p.1 ||| b0 n.toNat, p.2 ||| b1 n.toNat)
def foldO (zs : List Int) : Nat × Nat := zs.foldl stepO (0, 0)
def okN (n : Int) : Bool := decide (2 ≤ n ∧ n ≤ 128)
def okZ (zs : List Int) : Bool := zs.all okN
theorem take_getD (zs : List Int) (k : Nat) (h : k < zs.length) : zs.take (k + 1) = zs.take k ++ [zs.getD k 0] := by
  rw [List.take_succ_eq_append_getElem h, List.getD_eq_getElem?_getD, List.getElem?_eq_getElem h]; rfl
theorem foldO_succ (zs : List Int) (k : Nat) (h : k < zs.length) : foldO (zs.take (k + 1)) = stepO (foldO (zs.take k)) (zs.getD k 0) := by
  unfold foldO; rw [take_getD zs k h, List.foldl_append]; rfl
theorem okZ_succ (zs : List Int) (k : Nat) (h : k < zs.length) : okZ (zs.take (k + 1)) = (okZ (zs.take k) && okN (zs.getD k 0)) := by
  unfold okZ; rw [take_getD zs k h, List.all_append]; simp
theorem b0_lt63 (m : Nat) (h : 2 ≤ m) : b0 m < B63 := by
  unfold b0; split
  · exact Nat.pow_lt_pow_right (n := 63) (by decide) (by omega)
  · decide
theorem fold_lt (zs : List Int) (h : okZ zs = true) : (foldO zs).1 < B63 ∧ (foldO zs).2 < B64 := by
  have gen : ∀ (l : List Int) (p : Nat × Nat), okZ l = true → p.1 < B63 → p.2 < B64 → (l.foldl stepO p).1 < B63 ∧ (l.foldl stepO p).2 < B64 := by
    intro l
    induction l with
    | nil => intro p _ h1 h2; exact ⟨h1, h2⟩
    | cons n l ih =>
      intro p hl h1 h2
      simp only [okZ, List.all_cons, Bool.and_eq_true, okN, decide_eq_true_eq] at hl
      rw [List.foldl_cons]
      refine ih _ ?_ ?_ ?_
      · simpa [okZ, okN] using hl.2
      · exact Nat.or_lt_two_pow (n := 63) h1 (b0_lt63 _ (by omega))
      · exact or_lt h2 (b1_lt _ (by omega))
  exact gen zs (0, 0) h (by decide) (by decide)
/-- what Of returns -/
def ofR (zs : List Int) : Value := if okZ zs = true then .tuple #[bm (foldO zs).1 (foldO zs).2, .int .i64 0] else .tuple #[bm 0 0, .int .i64 4]
theorem okZ_bad (zs : List Int) (k : Nat) (h : k < zs.length) (hb : okN (zs.getD k 0) = false) : okZ zs = false := by
  unfold okZ
  rw [List.all_eq_false]
  refine ⟨zs.getD k 0, ?_, by rw [hb]; simp⟩
  rw [List.getD_eq_getElem?_getD, List.getElem?_eq_getElem h]
  exact List.getElem_mem _
def ORel (w : World) (zs : List Int) (g : Nat) (i : Value) (wr : World) : Prop :=
  ∃ k, k ≤ zs.length ∧ i = .int .i64 (k : Int) ∧ okZ (zs.take k) = true ∧ Blk wr g 24 #[.int .u64 ((foldO (zs.take k)).1 : Nat), .int .u64 ((foldO (zs.take k)).2 : Nat)] ∧ Blk wr w.heap.size 24 #[.int .u64 0, .int .u64 0] ∧ Below w.heap.size w wr
theorem cell2 {w : World} {g t : Nat} {x y : Value} (h : Blk w g t #[x, y]) : w.cell? ⟨g, 0, none⟩ = some x ∧ w.cell? ⟨g, 1, none⟩ = some y ∧ w.frozen? ⟨g, 0, none⟩ = false ∧ w.frozen? ⟨g, 1, none⟩ = false ∧ g < w.heap.size :=
  ⟨h.cell 0, h.cell 1, h.frozen 0, h.frozen 1, h.lt⟩
theorem blk_upd {wr : World} {g : Nat} {x y : Value} (u v : Value) (h : Blk wr g 24 #[x, y]) (dd : Nat) (os : Array Obj) (o : Obj) : Blk ((grow (redrawn ((wr.setCell ⟨g, 0, none⟩ u).setCell ⟨g, 1, none⟩ v) dd) os).alloc o) g 24 #[u, v] := by
  have h1 := (h.set_ 0 u).set_ 1 v
  have h2 := (h1.call (below_regrown _ dd os)).alloc o
  simpa using h2
theorem blk_upd_far {wr : World} {g g' : Nat} {cs : Array Value} (u v : Value) (h : Blk wr g 24 cs) (hne : g ≠ g') (dd : Nat) (os : Array Obj) (o : Obj) : Blk ((grow (redrawn ((wr.setCell ⟨g', 0, none⟩ u).setCell ⟨g', 1, none⟩ v) dd) os).alloc o) g 24 cs :=
  (((h.far (p := ⟨g', 0, none⟩) hne u).far (p := ⟨g', 1, none⟩) hne v).call (below_regrown _ dd os)).alloc o
theorem below_upd {w wr : World} {g : Nat} (u v : Value) (h : Below w.heap.size w wr) (hg : w.heap.size ≤ g) (dd : Nat) (os : Array Obj) (o : Obj) : Below w.heap.size w ((grow (redrawn ((wr.setCell ⟨g, 0, none⟩ u).setCell ⟨g, 1, none⟩ v) dd) os).alloc o) :=
  al (bre ((h.setCell (p := ⟨g, 0, none⟩) hg u).setCell (p := ⟨g, 1, none⟩) hg v) dd os)
set_option maxHeartbeats 1000000 in
set_option maxRecDepth 100000 in
theorem of_any (a : Option Addr) (len cap : Nat) (zs : List Int) (w : World) (h : Ints w a len cap zs) :
    Calls Tryd.prog 21 #[.slice a len cap] w fun e w' => e = .returned (ofR zs) ∧ Below w.heap.size w w' := by
  obtain ⟨hl, hlc, hm, hz⟩ := h
  subst hl
  have HZ := Lib.hid hz
  clear hz
  unfold maxLen at hm
  go_enter Tryd.func21, Tryd.ntmps21
  go_wp2_with fail
  go_loopw [11] (fun i wr => ORel w zs (w.heap.size + 1) i wr) (fun i _ => zs.length - (intOf i).toNat)
  case atStart => exact ⟨0, Nat.zero_le _, rfl, rfl, by have h := Blk.new (w.alloc (.cells #[.int .u64 0, .int .u64 0] 24)) 24 #[.int .u64 0, .int .u64 0]; simpa [foldO] using h, (Blk.new w 24 _).alloc _, al (al (Below.refl _ _))⟩
  case round =>
    obtain ⟨k, hk, rfl, hok, hb1, hb2, hB⟩ := hrel
    have HB := Lib.hid hB
    have HK1 := Lib.hid hb1
    have HK2 := Lib.hid hb2
    have HOK := Lib.hid hok
    have HF := Lib.hid (fold_lt _ hok)
    clear hB hb1 hb2 hok
    by_cases hlt : k < zs.length
    · have hlt' : (k : Int) < (zs.length : Int) := by omega
      obtain ⟨b, off, rfl, hbw, hcw⟩ := HZ.out k hlt
      have hcell : wr.cell? ⟨b, off + k, none⟩ = some (.int .i64 (zs.getD k 0)) := (HB.out.cell (p := ⟨b, off + k, none⟩) hbw).trans hcw
      have HS := Lib.hid (foldO_succ zs k hlt)
      have HS2 := Lib.hid (okZ_succ zs k hlt)
      have HBAD := Lib.hid (okZ_bad zs k hlt)
      clear hcw HZ
      generalize hn : zs.getD k 0 = n at *
      clear hn
      obtain ⟨q0, q1, q2, q3, q4⟩ := cell2 HK1.out
      obtain ⟨r0, r1, r2, r3, r4⟩ := cell2 HK2.out
      generalize foldO (zs.take k) = p at *
      obtain ⟨p1, p2⟩ := p
      obtain ⟨hp1, hp2⟩ := HF.out
      by_cases hn : 2 ≤ n ∧ n ≤ 128
      · obtain ⟨m, rfl⟩ : ∃ m : Nat, n = m := ⟨n.toNat, by omega⟩
        have hSet := fun w => set_ok p1 p2 m (Nat.lt_trans hp1 (by decide)) hp2 (by omega) (by omega) w
        rw [show (p1 ||| b0 m) % B63 = p1 ||| b0 m from Nat.mod_eq_of_lt (Nat.or_lt_two_pow (n := 63) hp1 (b0_lt63 m (by omega)))] at hSet
        have HSET := Lib.hid hSet
        have hokn : okN (m : Int) = true := decide_eq_true hn
        have HS3 : okZ (zs.take (k + 1)) = true := by rw [HS2.out, HOK.out, hokn]; rfl
        have HS4 : foldO (zs.take (k + 1)) = (p1 ||| b0 m, p2 ||| b1 m) := HS.out
        have HS3 := Lib.hid HS3
        have HS4 := Lib.hid HS4
        clear hSet hokn hn HS HS2
        simp only at q0 q1
        generalize p1 ||| b0 m = u1 at *
        generalize p2 ||| b1 m = u2 at *
        unfold bm at *
        go_wp2_with fail
        refine (HSET.out _).mono ?_
        rintro e w1 ⟨rfl, hbb⟩
        obtain ⟨dd, os, rfl⟩ := regrow_of hbb
        clear hbb
        go_wp2_with fail
        refine ⟨⟨k + 1, hlt, by go_num, HS3.out, ?_, blk_upd_far _ _ HK2.out (by omega) _ _ _, below_upd _ _ HB.out (Nat.le_succ _) _ _ _⟩, by simp [intOf]; omega⟩
        rw [HS4.out]
        exact blk_upd _ _ HK1.out _ _ _
      · have hbad : okN n = false := decide_eq_false hn
        have hR : ofR zs = .tuple #[bm 0 0, .int .i64 4] := by unfold ofR; rw [if_neg (by rw [HBAD.out hbad]; simp)]
        have HSET : Hid (∀ w, _) := Lib.hid (fun w => set_no p1 p2 n (by omega) w)
        have HR := Lib.hid hR
        clear hbad hR hn HS HS2
        simp only at q0 q1
        unfold bm at *
        go_wp2_with fail
        refine (HSET.out _).mono ?_
        rintro e w1 ⟨rfl, hbb⟩
        obtain ⟨dd, os, rfl⟩ := regrow_of hbb
        clear hbb
        go_wp2_with fail
        exact bodyPost_ret (v := .tuple #[.agg #[.int .u64 0, .int .u64 0], .int .i64 4]) (by simp [results, Tryd.results21, go_sem, r0, r1, r2, r3, r4]) rfl ⟨by rw [HR.out]; rfl, below_upd _ _ HB.out (Nat.le_refl _) _ _ _⟩
    · obtain rfl : k = zs.length := by omega
      rw [List.take_length] at *
      have hR : ofR zs = .tuple #[bm (foldO zs).1 (foldO zs).2, .int .i64 0] := if_pos HOK.out
      have HR := Lib.hid hR
      obtain ⟨q0, q1, q2, q3, q4⟩ := cell2 HK1.out
      obtain ⟨r0, r1, r2, r3, r4⟩ := cell2 HK2.out
      clear hR
      generalize foldO zs = p at *
      obtain ⟨p1, p2⟩ := p
      unfold bm at HR
      simp only at q0 q1
      go_wp2_with fail
      exact bodyPost_ret (v := .tuple #[.agg #[.int .u64 (p1 : Nat), .int .u64 (p2 : Nat)], .int .i64 0]) (by simp [results, Tryd.results21, go_sem, r0, r1, r2, r3, r4]) rfl ⟨by rw [HR.out], (HB.out.setCell (p := ⟨w.heap.size, 0, none⟩) (Nat.le_refl _) _).setCell (p := ⟨w.heap.size, 1, none⟩) (Nat.le_refl _) _⟩
theorem Blk.drew_ {w : World} {g t : Nat} {cs : Array Value} (h : Blk w g t cs) : Blk w.drew g t cs := h
theorem u64_or_bit0 (p m : Nat) (hp : p < B64) (h1 : 2 ≤ m) (h : m ≤ 64) : bits .or .u64 (p : Int) (bitN m : Nat) = ((p ||| b0 m : Nat) : Int) := by
  rw [u64_or_nat _ _ hp (bitN_lt m h1)]; unfold bitN b0; rw [if_pos h, if_pos h]
theorem u64_or_bit1 (p m : Nat) (hp : p < B64) (h1 : 2 ≤ m) (h : ¬ m ≤ 64) : bits .or .u64 (p : Int) (bitN m : Nat) = ((p ||| b1 m : Nat) : Int) := by
  rw [u64_or_nat _ _ hp (bitN_lt m h1)]; unfold bitN b1; rw [if_neg h, if_neg h]
set_option maxHeartbeats 1000000 in
set_option maxRecDepth 100000 in
theorem rof_any (a : Option Addr) (len cap : Nat) (zs : List Int) (w : World) (h : Ints w a len cap zs) :
    Calls Tryd.prog 22 #[.slice a len cap] w fun e w' => e = .returned (ofR zs) ∧ Below w.heap.size w w' := by
  obtain ⟨hl, hlc, hm, hz⟩ := h
  subst hl
  have HZ := Lib.hid hz
  clear hz
  unfold maxLen at hm
  go_enter Tryd.func22, Tryd.ntmps22
  go_wp2_with fail
  go_loopw [5] (fun i wr => ORel w zs (w.heap.size + 1) i wr) (fun i _ => zs.length - (intOf i).toNat)
  case atStart => exact ⟨0, Nat.zero_le _, rfl, rfl, by have h := Blk.new (w.alloc (.cells #[.int .u64 0, .int .u64 0] 24)) 24 #[.int .u64 0, .int .u64 0]; simpa [foldO] using h, (Blk.new w 24 _).alloc _, al (al (Below.refl _ _))⟩
  case round =>
    obtain ⟨k, hk, rfl, hok, hb1, hb2, hB⟩ := hrel
    have HB := Lib.hid hB
    have HK1 := Lib.hid hb1
    have HK2 := Lib.hid hb2
    have HOK := Lib.hid hok
    have HF := Lib.hid (fold_lt _ hok)
    clear hB hb1 hb2 hok
    by_cases hlt : k < zs.length
    · have hlt' : (k : Int) < (zs.length : Int) := by omega
      obtain ⟨b, off, rfl, hbw, hcw⟩ := HZ.out k hlt
      have hcell : wr.cell? ⟨b, off + k, none⟩ = some (.int .i64 (zs.getD k 0)) := (HB.out.cell (p := ⟨b, off + k, none⟩) hbw).trans hcw
      have HS := Lib.hid (foldO_succ zs k hlt)
      have HS2 := Lib.hid (okZ_succ zs k hlt)
      have HBAD := Lib.hid (okZ_bad zs k hlt)
      clear hcw HZ
      generalize hn : zs.getD k 0 = n at *
      clear hn
      obtain ⟨q0, q1, q2, q3, q4⟩ := cell2 HK1.out
      obtain ⟨r0, r1, r2, r3, r4⟩ := cell2 HK2.out
      generalize foldO (zs.take k) = p at *
      obtain ⟨p1, p2⟩ := p
      obtain ⟨hp1, hp2⟩ := HF.out
      by_cases hn : 2 ≤ n ∧ n ≤ 128
      · obtain ⟨m, rfl⟩ : ∃ m : Nat, n = m := ⟨n.toNat, by omega⟩
        have hokn : okN (m : Int) = true := decide_eq_true hn
        have HS3 : okZ (zs.take (k + 1)) = true := by rw [HS2.out, HOK.out, hokn]; rfl
        have HS4 : foldO (zs.take (k + 1)) = (p1 ||| b0 m, p2 ||| b1 m) := HS.out
        have HS3 := Lib.hid HS3
        have HS4 := Lib.hid HS4
        have hn1 : 2 ≤ m := by omega
        have hn2 : m ≤ 128 := by omega
        have g1 : 2 ≤ (m : Int) := by omega
        have g2 : (m : Int) ≤ 128 := by omega
        have HBIT : Hid (∀ w, _) := Lib.hid (fun w => bit_any m hn1 hn2 w)
        clear hokn hn HS HS2
        simp only at q0 q1
        by_cases h64 : m ≤ 64
        · have hq : ((m : Int) - 1) / 64 = 0 := by omega
          have HOR := Lib.hid (u64_or_bit0 p1 m (Nat.lt_trans hp1 (by decide)) hn1 h64)
          have HZR := Lib.hid (show p2 ||| b1 m = p2 from by unfold b1; rw [if_pos h64]; simp)
          generalize bitN m = y at *
          have e1 : IntKind.i64.wrap ((m : Int) - 1) = (m : Int) - 1 := IntWalk.i64_in _ (by omega)
          have e2 : ((m : Int) - 1).tdiv 64 = 0 := by rw [Int.tdiv_eq_ediv_of_nonneg (by omega)]; omega
          have e3 : IntKind.i64.wrap 0 = 0 := by decide
          go_wp2_with fail
          refine wp_region_still_tail 14 (by kernel_rfl) (by kernel_rfl) ?_
          change wpStill _ _ wr.drew _ _ _
          have q0' : wr.drew.cell? ⟨w.heap.size + 1, 0, none⟩ = some (.int .u64 p1) := q0
          have q2' : wr.drew.frozen? ⟨w.heap.size + 1, 0, none⟩ = false := q2
          have hcell' : wr.drew.cell? ⟨b, off + k, none⟩ = some (.int .i64 m) := hcell
          simp only [List.take_succ_cons, List.take_zero, List.drop_succ_cons, List.drop_zero]
          repeat (first | still_step | still_call (HBIT.out _))
          refine wpStill_nil ?_
          rw [HOR.out]
          change wpList _ _ _ _ _ wr.drew
          go_wp2_with fail
          go_roundw
          case measure => simp [intOf]; omega
          case rel =>
            refine ⟨k + 1, hlt, by go_num, HS3.out, ?_, (Blk.far (p := ⟨w.heap.size + 1, 0, none⟩) HK2.out (by simp) _).drew_, (HB.out.setCell (p := ⟨w.heap.size + 1, 0, none⟩) (Nat.le_succ _) _).drew⟩
            rw [HS4.out]
            have h := HK1.out.set_ 0 (.int .u64 ((p1 ||| b0 m : Nat) : Int))
            simp only [HZR.out]
            simpa using h.drew_
        · have hq : ((m : Int) - 1) / 64 = 1 := by omega
          have HOR := Lib.hid (u64_or_bit1 p2 m hp2 hn1 h64)
          have HZR := Lib.hid (show p1 ||| b0 m = p1 from by unfold b0; rw [if_neg h64]; simp)
          generalize bitN m = y at *
          have e1 : IntKind.i64.wrap ((m : Int) - 1) = (m : Int) - 1 := IntWalk.i64_in _ (by omega)
          have e2 : ((m : Int) - 1).tdiv 64 = 1 := by rw [Int.tdiv_eq_ediv_of_nonneg (by omega)]; omega
          have e3 : IntKind.i64.wrap 1 = 1 := by decide
          go_wp2_with fail
          refine wp_region_still_tail 14 (by kernel_rfl) (by kernel_rfl) ?_
          change wpStill _ _ wr.drew _ _ _
          have q0' : wr.drew.cell? ⟨w.heap.size + 1, 1, none⟩ = some (.int .u64 p2) := q1
          have q2' : wr.drew.frozen? ⟨w.heap.size + 1, 1, none⟩ = false := q3
          have hcell' : wr.drew.cell? ⟨b, off + k, none⟩ = some (.int .i64 m) := hcell
          simp only [List.take_succ_cons, List.take_zero, List.drop_succ_cons, List.drop_zero]
          repeat (first | still_step | still_call (HBIT.out _))
          refine wpStill_nil ?_
          rw [HOR.out]
          change wpList _ _ _ _ _ wr.drew
          go_wp2_with fail
          go_roundw
          case measure => simp [intOf]; omega
          case rel =>
            refine ⟨k + 1, hlt, by go_num, HS3.out, ?_, (Blk.far (p := ⟨w.heap.size + 1, 1, none⟩) HK2.out (by simp) _).drew_, (HB.out.setCell (p := ⟨w.heap.size + 1, 1, none⟩) (Nat.le_succ _) _).drew⟩
            rw [HS4.out]
            have h := HK1.out.set_ 1 (.int .u64 ((p2 ||| b1 m : Nat) : Int))
            simp only [HZR.out]
            simpa using h.drew_
      · have hbad : okN n = false := decide_eq_false hn
        have hR : ofR zs = .tuple #[bm 0 0, .int .i64 4] := by unfold ofR; rw [if_neg (by rw [HBAD.out hbad]; simp)]
        have HR := Lib.hid hR
        simp only at q0 q1
        unfold bm at *
        clear hbad hR HS HS2
        by_cases hn2 : n < 2
        · clear hn
          go_wp2_with fail
          exact bodyPost_ret (v := .tuple #[.agg #[.int .u64 0, .int .u64 0], .int .i64 4]) (by simp [results, Tryd.results22, go_sem, r0, r1, r2, r3, r4]) rfl ⟨by rw [HR.out]; rfl, (HB.out.setCell (p := ⟨w.heap.size, 0, none⟩) (Nat.le_refl _) _).setCell (p := ⟨w.heap.size, 1, none⟩) (Nat.le_refl _) _⟩
        · have hn3 : 128 < n := by omega
          clear hn
          go_wp2_with fail
          exact bodyPost_ret (v := .tuple #[.agg #[.int .u64 0, .int .u64 0], .int .i64 4]) (by simp [results, Tryd.results22, go_sem, r0, r1, r2, r3, r4]) rfl ⟨by rw [HR.out]; rfl, (HB.out.setCell (p := ⟨w.heap.size, 0, none⟩) (Nat.le_refl _) _).setCell (p := ⟨w.heap.size, 1, none⟩) (Nat.le_refl _) _⟩
    · obtain rfl : k = zs.length := by omega
      rw [List.take_length] at *
      have hR : ofR zs = .tuple #[bm (foldO zs).1 (foldO zs).2, .int .i64 0] := if_pos HOK.out
      have HR := Lib.hid hR
      obtain ⟨q0, q1, q2, q3, q4⟩ := cell2 HK1.out
      obtain ⟨r0, r1, r2, r3, r4⟩ := cell2 HK2.out
      clear hR
      generalize foldO zs = p at *
      obtain ⟨p1, p2⟩ := p
      unfold bm at HR
      simp only at q0 q1
      go_wp2_with fail
      exact bodyPost_ret (v := .tuple #[.agg #[.int .u64 (p1 : Nat), .int .u64 (p2 : Nat)], .int .i64 0]) (by simp [results, Tryd.results22, go_sem, r0, r1, r2, r3, r4]) rfl ⟨by rw [HR.out], (HB.out.setCell (p := ⟨w.heap.size, 0, none⟩) (Nat.le_refl _) _).setCell (p := ⟨w.heap.size, 1, none⟩) (Nat.le_refl _) _⟩
end Go.Proofs.YtfiingnanofneaaDoor
