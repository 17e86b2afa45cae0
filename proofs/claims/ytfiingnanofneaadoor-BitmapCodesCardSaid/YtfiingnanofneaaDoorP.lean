/- Union of the reference. -/
import Derived.Test.YtfiingnanofneaaDoorSetsW
import Derived.Deep.AppendSrc
import Derived.Deep.AppendLies
import Derived.Deep.RegionHeld3
import Derived.Deep.DeepCutAuto
set_option linter.unusedVariables false
set_option linter.unusedSimpArgs false
namespace Go.Proofs.YtfiingnanofneaaDoor
open Go.Sort Go.ChangeShapes Go.WideShapes Go.ChangeAt Go.RowKit
/-- an owned slice of integers behind another one -/
theorem run_append_two {w : World} {B B2 : Nat} {v u : Value} {xs ys : List Value} {n m : Nat} (ty : TypeId) (hown : w.ownsRow B 3 1 v n xs) (hown2 : w.ownsRow B2 3 1 u m ys) (h1 : ∀ x ∈ ys, x.oneCell' = true)
    (h63 : n + m ≤ 100000) (hbase : B ≤ w.heap.size) :
    ∃ v' w', (Builtin.append_ #[30, 30] ty #[v, u]).run Tryd.prog w = .ok v' w' ∧ w'.ownsRow B 3 1 v' (n + m) (xs ++ ys) ∧ w.grownBy w' v.ownBlock := by
  obtain ⟨i0, hi, hz0, hz1, hz2⟩ := info_parts info3
  rcases hown2.2 with ⟨rfl, rfl⟩ | ⟨g, cap, cur, rfl, hb, hg, hc, hm, hs, ht⟩
  · have hy : ys = [] := List.eq_nil_of_length_eq_zero (by simpa using hown2.1)
    subst hy
    refine ⟨v, w, ?_, by simpa using hown, ⟨rfl, rfl, rfl, Nat.le_refl _, fun _ _ _ => rfl⟩⟩
    rcases hown.2 with ⟨rfl, rfl⟩ | ⟨g, cap, cur, rfl, hb, hg, hc, hm, hs, ht⟩
    · simp [Builtin.append_, run_underlying Tryd.underlying30, sizeOf, typeInfo, hi, Builtin.lenOf, Builtin.firstCells, loadCells, loadCellsFrom]
    · have := run_append_room_src (P := Tryd.prog) w 30 30 ty 3 i0 Tryd.underlying30 hi g 0 n cap (.slice none 0 0) 0 [] (Src.ofNil w Tryd.underlying30 0) (by omega) (by simp) (by simp)
      rw [this]
      rfl
  · obtain ⟨v', w', hr, h2, h3, -⟩ := run_append_own (P := Tryd.prog) w B 30 ty 3 i0 (.int .i64 0) 1 8 Tryd.underlying30 hi hz0 hz1 hz2 rfl (by decide) v n xs hown ⟨g, 0, none⟩ m cap ys hown2.1 (hown2.cells (g := g) rfl) h1
      (by unfold maxLen; omega) (by omega) hbase
    exact ⟨v', w', hr, h2, h3⟩
/-- at a step of a region that draws its order -/
theorem step_append_two {ops : Array Oper} {o : Oper} {a : Act} {w : World} {K : Act → World → Prop} {Q : Exit → Act → World → Prop} {E : Prop} (hgd : o.guard = none) (s x : Operand)
    (ho : o.op = .call { callee := .builtin .append, args := #[s, x], argTypes := #[30, 30] })
    {B B2 : Nat} {v u : Value} {xs ys : List Value} {n m : Nat} (hs : a.eval s = v) (hx : a.eval x = u) (hown : w.ownsRow B 3 1 v n xs) (hown2 : w.ownsRow B2 3 1 u m ys) (h1 : ∀ x ∈ ys, x.oneCell' = true)
    (h63 : n + m ≤ 100000) (hbase : B ≤ w.heap.size)
    (h : ∀ v' w', w'.ownsRow B 3 1 v' (n + m) (xs ++ ys) → w.grownBy w' v.ownBlock → K (a.put o.dst v') w') :
    if Region.wanted o (yielded ops a.tmps) = true then Oper.wp Tryd.prog o a w K Q else E := by
  have hw : Region.wanted o (yielded ops a.tmps) = true := by simp [Region.wanted, hgd]
  rw [if_pos hw]
  obtain ⟨v', w', hr, h2, h3⟩ := run_append_two o.type hown hown2 h1 h63 hbase
  unfold Oper.wp execOp
  simp only [ho, resolve, invoke, builtin, Sem.run_bind, Sem.run_pure, Result.andThen_ok, List.map_toArray, List.map_cons, List.map_nil, hs, hx, hr]
  exact h v' w' h2 h3
theorem ivals_one (l : List Nat) : ∀ x ∈ ivals l, x.oneCell' = true := by
  intro x hx
  obtain ⟨m, -, rfl⟩ := List.mem_map.1 hx
  rfl
/-- what the region's loads want, and what is known of its world: the two bitmaps, the result's block, and nothing below has changed -/
abbrev S9 (w : World) (a b c d : Value) (w' : World) : Prop :=
  w'.cell? ⟨w.heap.size, 0, none⟩ = some a ∧ w'.cell? ⟨w.heap.size, 1, none⟩ = some b ∧ w'.cell? ⟨w.heap.size + 1, 0, none⟩ = some c ∧ w'.cell? ⟨w.heap.size + 1, 1, none⟩ = some d ∧
    Blk w' (w.heap.size + 1 + 1) 24 #[.int .u64 0, .int .u64 0] ∧ Below w.heap.size w w'
theorem S9.call {w : World} {a b c d : Value} {W w1 : World} (h : S9 w a b c d W) (hb : Below W.heap.size W w1) : S9 w a b c d w1 := by
  obtain ⟨h0, h1, h2, h3, h4, h7⟩ := h
  exact ⟨cell_call h0 hb, cell_call h1 hb, cell_call h2 hb, cell_call h3 hb, h4.call hb, below_call h7 hb⟩
theorem S9.drew {w : World} {a b c d : Value} {W : World} (h : S9 w a b c d W) : S9 w a b c d W.drew := ⟨h.1, h.2.1, h.2.2.1, h.2.2.2.1, h.2.2.2.2.1, h.2.2.2.2.2.drew⟩
theorem S9.alloc {w : World} {a b c d : Value} {W : World} (h : S9 w a b c d W) (o : Obj) : S9 w a b c d (W.alloc o) := h.call ((Below.refl _ _).alloc (Nat.le_refl _) o)
theorem S9.lt {w : World} {a b c d : Value} {W : World} (h : S9 w a b c d W) : w.heap.size + 1 + 1 < W.heap.size := h.2.2.2.2.1.lt
/-- behind the append -/
theorem S9.grown {w : World} {a b c d : Value} {W w1 : World} {row : Option Nat} (h : S9 w a b c d W) (hg : W.grownBy w1 row) (hr : ∀ k, row = some k → w.heap.size + 1 + 1 < k) : S9 w a b c d w1 := by
  have hl := h.lt
  obtain ⟨h0, h1, h2, h3, h4, h7⟩ := h
  have ne : ∀ n, n ≤ w.heap.size + 1 + 1 → some n ≠ row := fun n hn e => by have := hr n e.symm; omega
  exact ⟨(hg.cell_far ⟨_, 0, none⟩ (by show w.heap.size < _; omega) (ne _ (by show w.heap.size ≤ _; omega))).trans h0, (hg.cell_far ⟨_, 1, none⟩ (by show w.heap.size < _; omega) (ne _ (by show w.heap.size ≤ _; omega))).trans h1,
    (hg.cell_far ⟨_, 0, none⟩ (by show w.heap.size + 1 < _; omega) (ne _ (by show w.heap.size + 1 ≤ _; omega))).trans h2, (hg.cell_far ⟨_, 1, none⟩ (by show w.heap.size + 1 < _; omega) (ne _ (by show w.heap.size + 1 ≤ _; omega))).trans h3,
    (hg.block _ hl (ne _ (Nat.le_refl _))).trans h4, h7.grown hg h7.size (fun j hj => by have := hr j hj; omega)⟩
theorem S9.stored {w : World} {a b c d : Value} {W : World} {G : Nat} (h : S9 w a b c d W) (hG : w.heap.size + 1 + 1 < G) (x y : Value) : S9 w a b c d ((W.setCell ⟨G, 0, none⟩ x).setCell ⟨G, 1, none⟩ y) := by
  obtain ⟨h0, h1, h2, h3, h4, h7⟩ := h
  have far : ∀ (n i : Nat) (v : Value), n ≠ G → W.cell? ⟨n, i, none⟩ = some v → ((W.setCell ⟨G, 0, none⟩ x).setCell ⟨G, 1, none⟩ y).cell? ⟨n, i, none⟩ = some v := fun n i v hn hv => by
    rw [World.cell?_of_block (w := W.setCell ⟨G, 0, none⟩ x) (Below.heap_setCell _ ⟨G, 1, none⟩ y n hn), World.cell?_of_block (w := W) (Below.heap_setCell _ ⟨G, 0, none⟩ x n hn)]
    exact hv
  exact ⟨far _ _ _ (by omega) h0, far _ _ _ (by omega) h1, far _ _ _ (by omega) h2, far _ _ _ (by omega) h3, (h4.far (p := ⟨G, 0, none⟩) (by show _ ≠ G; omega) x).far (p := ⟨G, 1, none⟩) (by show _ ≠ G; omega) y,
    (h7.setCell (p := ⟨G, 0, none⟩) (by show _ ≤ G; omega) x).setCell (p := ⟨G, 1, none⟩) (by show _ ≤ G; omega) y⟩
theorem S9.relaid {w : World} {a b c d : Value} {W : World} {o o' : Obj} (h : S9 w a b c d (W.alloc o)) (hl : w.heap.size + 1 + 1 < W.heap.size) : S9 w a b c d (W.alloc o') := by
  obtain ⟨h0, h1, h2, h3, h4, h7⟩ := h
  have e : ∀ (n i : Nat), n < W.heap.size → (W.alloc o').cell? ⟨n, i, none⟩ = (W.alloc o).cell? ⟨n, i, none⟩ := fun n i hn => by
    rw [World.cell?_alloc_lt _ _ _ hn, World.cell?_alloc_lt _ _ _ hn]
  have eb : ∀ n, n < W.heap.size → (W.alloc o').heap[n]? = (W.alloc o).heap[n]? := fun n hn => (Below.heap_alloc W o' n hn).trans (Below.heap_alloc W o n hn).symm
  exact ⟨(e _ _ (by omega)).trans h0, (e _ _ (by omega)).trans h1, (e _ _ (by omega)).trans h2, (e _ _ (by omega)).trans h3, (eb _ hl).trans h4, ⟨h7.os, h7.tape, h7.output, by have := h7.size; simpa using this, fun k hk => (eb k (by omega)).trans (h7.block k hk)⟩⟩
def URel (w : World) (a b c d X Y : Value) (s5 : Value) (wx : World) : Prop := ∃ G, s5 = .pointer (some ⟨G, 0, none⟩) ∧ Blk wx G 24 #[X, Y] ∧ w.heap.size + 1 + 1 < G ∧ S9 w a b c d wx
theorem blk_app2 {W w1 : World} {v : Value} {g t : Nat} {cs : Array Value} (hk : Blk W g t cs) (hg : W.grownBy w1 v.ownBlock) (hne : ∀ k, v.ownBlock = some k → k ≠ g) : Blk w1 g t cs :=
  (hg.block g hk.lt (fun e => (hne g e.symm) rfl)).trans hk
theorem own_lower {w : World} {B B2 n : Nat} {v : Value} {xs : List Value} (h : w.ownsRow B 3 1 v n xs) (hB : B2 ≤ B) : w.ownsRow B2 3 1 v n xs := by
  refine ⟨h.1, ?_⟩
  rcases h.2 with hn | ⟨g, cap, cur, hv, hb, rest⟩
  · exact .inl hn
  · exact .inr ⟨g, cap, cur, hv, Nat.le_trans hB hb, rest⟩
theorem rlist_low (a b : Nat) (ha : a < B64) (hb : b < B64) (w : World) :
    Calls Tryd.prog 17 #[bm a b] w fun e w' => ∃ v, e = .returned v ∧ w'.ownsRow w.heap.size 3 1 v (nums a b 127).length (ivals (nums a b 127)) ∧ Below w.heap.size w w' :=
  (rlist_any a b ha hb w).mono fun e w' ⟨v, he, ho, hb⟩ => ⟨v, he, own_lower ho (Nat.le_succ _), hb⟩
theorem own_above {n0 : Nat} {W w3 : World} {v : Value} {n : Nat} {xs : List Value} (h : w3.ownsRow W.heap.size 3 1 v n xs) (hS : n0 + 1 + 1 < W.heap.size) : ∀ k, v.ownBlock = some k → n0 + 1 + 1 < k := fun k hk => Nat.lt_of_lt_of_le hS (h.lt k hk).1
theorem size_alloc1 (w : World) (o : Obj) : (w.alloc o).heap.size = w.heap.size + 1 := by simp
theorem size_alloc_le (w : World) (o : Obj) : w.heap.size ≤ (w.alloc o).heap.size := by simp
theorem ivals_app (l k : List Nat) : ivals l ++ ivals k = ivals (l ++ k) := by simp [ivals]
set_option maxHeartbeats 4000000 in
set_option maxRecDepth 100000 in
theorem runion_any (a b c d : Nat) (ha : a < B64) (hb : b < B64) (hc : c < B64) (hd : d < B64) (w : World) :
    Calls Tryd.prog 24 #[bm a b, bm c d] w fun e w' => e = .returned (bm ((a ||| c) % B63) (b ||| d)) ∧ Below w.heap.size w w' := by
  have HL1 : Hid (∀ w, _) := Lib.hid (fun w => rlist_low a b ha hb w)
  have HL2 : Hid (∀ w, _) := Lib.hid (fun w => rlist_low c d hc hd w)
  have HF := Lib.hid (of_union a b c d hb hd)
  have n1 := nums_len a b 127
  have n2 := nums_len c d 127
  generalize (a ||| c) % B63 = X at *
  generalize b ||| d = Y at *
  generalize nums a b 127 = l1 at *
  generalize nums c d 127 = l2 at *
  have hn : l1.length + l2.length ≤ 100000 := by omega
  have hf := HF.out
  obtain ⟨l3, hl3⟩ : ∃ l3, l1 ++ l2 = l3 := ⟨_, rfl⟩
  rw [hl3] at hf
  replace HF := Lib.hid hf
  have HL3 := Lib.hid hl3
  clear hf hl3
  unfold bm at *
  have hS0 : S9 w (.int .u64 a) (.int .u64 b) (.int .u64 c) (.int .u64 d) (((w.alloc (.cells #[.int .u64 a, .int .u64 b] 24)).alloc (.cells #[.int .u64 c, .int .u64 d] 24)).alloc (.cells #[.int .u64 0, .int .u64 0] 24)) := by
    obtain ⟨t1, t2, t3, t4⟩ := three w a b c d
    obtain ⟨r0, r1, -, -, -⟩ := cell2 t2
    obtain ⟨s0, s1, -, -, -⟩ := cell2 t3
    exact ⟨r0, r1, s0, s1, t4, t1⟩
  have HS0 := Lib.hid hS0
  clear ha hb hc hd hS0
  go_enter Tryd.func24, Tryd.ntmps24
  go_upto_region 1 with fail
  have hS := HS0.out
  generalize ((w.alloc (.cells #[.int .u64 a, .int .u64 b] 24)).alloc (.cells #[.int .u64 c, .int .u64 d] 24)).alloc (.cells #[.int .u64 0, .int .u64 0] 24) = W at *
  have hW : w.heap.size + 1 + 1 < W.drew.heap.size := hS.lt
  have hWb : (W.alloc (.cells #[.int .u64 0, .int .u64 0] 24)).drew.heap.size = W.heap.size + 1 := size_alloc1 W _
  have hWc : w.heap.size + 1 + 1 < W.heap.size := hS.lt
  have hWa : w.heap.size + 1 + 1 < (W.alloc (.cells #[.int .u64 0, .int .u64 0] 24)).drew.heap.size := by omega
  have hk0 : Blk (W.alloc (.cells #[.int .u64 0, .int .u64 0] 24)).drew W.heap.size 24 #[.int .u64 0, .int .u64 0] := Blk.drew_ (Blk.new W 24 #[.int .u64 0, .int .u64 0])
  have HWb := Lib.hid hWb
  clear hWb
  go_cut [5] (fun s5 wx => URel w (.int .u64 a) (.int .u64 b) (.int .u64 c) (.int .u64 d) (.int .u64 X) (.int .u64 Y) s5 wx)
  case first =>
    go_region_held3 (fun w' => w'.cell? ⟨w.heap.size, 0, none⟩ = some (.int .u64 a) ∧ w'.cell? ⟨w.heap.size, 1, none⟩ = some (.int .u64 b) ∧ w'.cell? ⟨w.heap.size + 1, 0, none⟩ = some (.int .u64 c) ∧ w'.cell? ⟨w.heap.size + 1, 1, none⟩ = some (.int .u64 d) ∧
        Blk w' (w.heap.size + 1 + 1) 24 #[.int .u64 0, .int .u64 0] ∧ Below w.heap.size w w')
      (first | (exact S9.drew (by assumption)) | (exact S9.alloc (by assumption) _) | (exact S9.call (by assumption) (by assumption)) | (exact S9.grown (by assumption) hg5 hr5) | (exact S9.relaid (by assumption) hl6) | (exact S9.stored (by assumption) hG6 _ _))
      (first
        | (go_at_call 17; (with_reducible refine (HL1.out _).mono ?_); rintro e w3 ⟨v3, rfl, ho3, hb3⟩)
        | (go_at_call 17; (with_reducible refine (HL2.out _).mono ?_); rintro e w4 ⟨v4, rfl, ho4, hb4⟩)
        | (go_at_call 22; refine (rof_any _ _ _ _ _ hI5).mono ?_; rintro e w6 ⟨rfl, hb6⟩; rw [HF.out]; have hkB := hkA.call hb6; obtain ⟨z0, z1, z2, z3, z4⟩ := cell2 hkB; have hG6 := hG5)
        | (go_at_call 22; refine (rof_any _ _ _ _ _ hI5).mono ?_; rintro e w6 ⟨rfl, hb6⟩; rw [HF.out]; have hl6 := Nat.lt_of_lt_of_le hW (Nat.le_trans (Nat.le_trans (Nat.le_trans hb3.size hb4.size) hg5.size) hb6.size))
        | (go_at_call 22; refine (rof_any _ _ _ _ _ (hI5.call ((Below.refl _ _).alloc (Nat.le_refl _) _))).mono ?_; rintro e w6 ⟨rfl, hb6⟩; rw [HF.out]; have hkB := (Blk.new w5 24 #[.int .u64 0, .int .u64 0]).call hb6; obtain ⟨z0, z1, z2, z3, z4⟩ := cell2 hkB; have hG6 := Nat.lt_of_lt_of_le hW (Nat.le_trans (Nat.le_trans hb3.size hb4.size) hg5.size))
        | (have hr5 := own_above ho3 hW; refine step_append_two (v := v3) (u := v4) rfl (.tmp 9) (.tmp 11) rfl rfl rfl (own_below ho3 hb4) ho4 (ivals_one l2) hn (Nat.le_trans hb3.size hb4.size) ?_; intro v5 w5 ho5 hg5; rw [ivals_app, ← List.length_append, HL3.out] at ho5; obtain ⟨A5, c5, rfl, hI5⟩ := own_ints ho5; clear ho5)
        | (have hr5 := own_above ho3 hWa; refine step_append_two (v := v3) (u := v4) rfl (.tmp 9) (.tmp 11) rfl rfl rfl (own_below ho3 hb4) ho4 (ivals_one l2) hn (Nat.le_trans hb3.size hb4.size) ?_; intro v5 w5 ho5 hg5; have hkA := blk_app2 ((hk0.call hb3).call hb4) hg5 (fun k hk e => by have := (ho3.lt k hk).1; rw [HWb.out] at this; omega); have hG5 := hWc; rw [ivals_app, ← List.length_append, HL3.out] at ho5; obtain ⟨A5, c5, rfl, hI5⟩ := own_ints ho5; clear ho5)
        | (have hr5 := own_above ho3 hW; refine step_append_two (v := v3) (u := v4) rfl (.tmp 9) (.tmp 11) rfl rfl rfl (World.ownsRow.alloc (own_below ho3 hb4) _) (World.ownsRow.alloc ho4 _) (ivals_one l2) hn (Nat.le_trans (Nat.le_trans hb3.size hb4.size) (size_alloc_le _ _)) ?_; intro v5 w5 ho5 hg5; have hkA := blk_app2 (Blk.new w4 24 #[.int .u64 0, .int .u64 0]) hg5 (fun k hk e => by have := ((own_below ho3 hb4).lt k hk).2; omega); have hG5 := Nat.lt_of_lt_of_le hW (Nat.le_trans hb3.size hb4.size); rw [ivals_app, ← List.length_append, HL3.out] at ho5; obtain ⟨A5, c5, rfl, hI5⟩ := own_ints ho5; clear ho5)
        | (have hr5 := own_above ho3 hW; refine step_append_two (v := v3) (u := v4) rfl (.tmp 9) (.tmp 11) rfl rfl rfl (own_below (World.ownsRow.alloc ho3 _) hb4) ho4 (ivals_one l2) hn (Nat.le_trans (Nat.le_trans hb3.size (size_alloc_le _ _)) hb4.size) ?_; intro v5 w5 ho5 hg5; have hkA := blk_app2 ((Blk.new w3 24 #[.int .u64 0, .int .u64 0]).call hb4) hg5 (fun k hk e => by have := (ho3.lt k hk).2; omega); have hG5 := Nat.lt_of_lt_of_le hW hb3.size; rw [ivals_app, ← List.length_append, HL3.out] at ho5; obtain ⟨A5, c5, rfl, hI5⟩ := own_ints ho5; clear ho5))
    all_goals
      go_wp2_with fail
      go_meet
      first
      | exact ⟨_, rfl, Blk.new w6 24 _, hl6, by assumption⟩
      | exact ⟨_, rfl, blk_upd2 _ _ hkB, hG6, by assumption⟩
  case rest =>
    obtain ⟨G, rfl, hkG, hG, hSr⟩ := hcut
    have HKG := Lib.hid hkG
    have HSR := Lib.hid hSr
    clear hkG hSr hS hW hWc hWa hk0 hG
    obtain ⟨r0, r1, r2, r3, r4⟩ := cell2 HKG.out
    obtain ⟨s0, s1, s2, s3, s4⟩ := cell2 HSR.out.2.2.2.2.1
    go_wp2_with fail
    have HK8 := blk_upd2 (.int .u64 X) (.int .u64 Y) HSR.out.2.2.2.2.1
    have HB8 := below_upd2 (.int .u64 X) (.int .u64 Y) HSR.out.2.2.2.2.2 (show w.heap.size ≤ w.heap.size + 1 + 1 by omega)
    obtain ⟨y0, y1, -, -, -⟩ := cell2 HK8
    exact bodyPost_ret (v := .agg #[.int .u64 X, .int .u64 Y]) (by simp [results, Tryd.results24, go_sem, y0, y1]) rfl ⟨rfl, HB8⟩
end Go.Proofs.YtfiingnanofneaaDoor
