/- The example's Split: the walk. -/
import Derived.Test.YtompeealmgdfhaaDoorS
import Derived.Deep.RegionHeld3
import Derived.Deep.RegionWith
import Derived.Deep.DeepCutAuto
set_option linter.unusedVariables false
set_option linter.unusedSimpArgs false
namespace Go.Proofs.YtompeealmgdfhaaDoor
open Go.Sort Go.ChangeShapes Go.WideShapes Go.ChangeAt Go.RowKit
open div
def usdB : ByteArray := ⟨#[85, 83, 68]⟩
theorem sumw_3 (g c : Nat) (w : World) (h : ∀ i, i < 3 → w.cell? ⟨g, i, none⟩ = some (.int .i64 1)) :
    Calls Tryd.prog 42 #[.slice (some ⟨g, 0, none⟩) 3 c] w fun e w' => e = .returned (.tuple #[.int .u64 3, .bool true]) ∧ w' = w := by
  have c0 := h 0 (by decide)
  have c1 := h 1 (by decide)
  have c2 := h 2 (by decide)
  clear h
  go_enter Tryd.func42, Tryd.ntmps42
  go_wp2_with fail
  refine wp_loop_rounds 4 ?_
  iterate 4
    rw [rounds_succ]
    go_wp2_with fail
  go_ret2
  exact ⟨rfl, rfl⟩
theorem hmk64 (w : World) : (Instr.makeSlice 64 (.int .i64 3) (.int .i64 3)).run Tryd.prog w = .ok (.slice (some ⟨w.heap.size, 0, none⟩) 3 3) (w.alloc (.cells #[.int .u64 0, .int .u64 0, .int .u64 0] 53)) := by kernel_rfl
theorem hmk65 (w : World) : (Instr.makeSlice 65 (.int .i64 3) (.int .i64 3)).run Tryd.prog w = .ok (.slice (some ⟨w.heap.size, 0, none⟩) 3 3) (w.alloc (.cells #[.int .i64 0, .int .i64 0, .int .i64 0] 3)) := by kernel_rfl
theorem hmk35 (w : World) : (Instr.makeSlice 35 (.int .i64 3) (.int .i64 3)).run Tryd.prog w = .ok (.slice (some ⟨w.heap.size, 0, none⟩) 3 3) (w.alloc (.cells #[.int .i64 0, .string ⟨#[]⟩, .int .i64 0, .string ⟨#[]⟩, .int .i64 0, .string ⟨#[]⟩] 23)) := by kernel_rfl
/-- what is known of the blocks of Split's own: the amount, the parts, the remainders, their variable, the order -/
structure SP (w : World) (b p r v o : Nat) (bc pc rc oc : Array Value) (x : World) : Prop where
  kb : Blk x b 23 bc
  kp : Blk x p 53 pc
  kr : Blk x r 53 rc
  kv : Blk x v 64 #[.slice (some ⟨r, 0, none⟩) 3 3]
  ko : Blk x o 3 oc
  kw : Below w.heap.size w x
section
variable {w x y : World} {b p r v o : Nat} {bc pc rc oc : Array Value}
theorem al2 {o : Obj} (h : Below w.heap.size w x) : Below w.heap.size w (x.alloc o) := h.alloc h.size o
theorem SP.call (h : SP w b p r v o bc pc rc oc x) (hb : Below x.heap.size x y) : SP w b p r v o bc pc rc oc y :=
  ⟨h.kb.call hb, h.kp.call hb, h.kr.call hb, h.kv.call hb, h.ko.call hb, below_call h.kw hb⟩
theorem SP.drew (h : SP w b p r v o bc pc rc oc x) : SP w b p r v o bc pc rc oc x.drew := h.call (Below.drew (Below.refl _ _))
theorem SP.stP (h : SP w b p r v o bc pc rc oc x) (d : w.heap.size ≤ b ∧ b < p ∧ p < r ∧ r < v ∧ v < o) (i : Nat) (u : Value) {pc' : Array Value} (e : pc.setIfInBounds i u = pc') : SP w b p r v o bc pc' rc oc (x.setCell ⟨p, i, none⟩ u) := by
  subst e
  exact ⟨h.kb.far (by simp; omega) u, h.kp.set_ i u, h.kr.far (by simp; omega) u, h.kv.far (by simp; omega) u, h.ko.far (by simp; omega) u, h.kw.setCell (p := ⟨p, i, none⟩) (by simp; omega) u⟩
theorem SP.stR (h : SP w b p r v o bc pc rc oc x) (d : w.heap.size ≤ b ∧ b < p ∧ p < r ∧ r < v ∧ v < o) (i : Nat) (u : Value) {rc' : Array Value} (e : rc.setIfInBounds i u = rc') : SP w b p r v o bc pc rc' oc (x.setCell ⟨r, i, none⟩ u) := by
  subst e
  exact ⟨h.kb.far (by simp; omega) u, h.kp.far (by simp; omega) u, h.kr.set_ i u, h.kv.far (by simp; omega) u, h.ko.far (by simp; omega) u, h.kw.setCell (p := ⟨r, i, none⟩) (by simp; omega) u⟩
theorem SP.stO (h : SP w b p r v o bc pc rc oc x) (d : w.heap.size ≤ b ∧ b < p ∧ p < r ∧ r < v ∧ v < o) (i : Nat) (u : Value) {oc' : Array Value} (e : oc.setIfInBounds i u = oc') : SP w b p r v o bc pc rc oc' (x.setCell ⟨o, i, none⟩ u) := by
  subst e
  exact ⟨h.kb.far (by simp; omega) u, h.kp.far (by simp; omega) u, h.kr.far (by simp; omega) u, h.kv.far (by simp; omega) u, h.ko.set_ i u, h.kw.setCell (p := ⟨o, i, none⟩) (by simp; omega) u⟩
theorem cv_drew {a : Addr} {u : Value} (h : x.cell? a = some u) : x.drew.cell? a = some u := h
theorem cv_re {a : Addr} {u : Value} (d : Nat) (os : Array Obj) (h : x.cell? a = some u) : (grow (redrawn x d) os).cell? a = some u := by
  rw [cell?_regrow _ _ _ _ (block_lt_of_cell h)]; exact h
theorem fz_re {a : Addr} (d : Nat) (os : Array Obj) (hl : a.block < x.heap.size) (h : x.frozen? a = false) : (grow (redrawn x.drew d) os).frozen? a = false := by
  rw [frozen?_regrow _ _ _ _ (show a.block < x.drew.heap.size from hl)]; exact h
theorem cv_set {k i j : Nat} {u y : Value} (h : x.cell? ⟨v, k, none⟩ = some u) (hn : v ≠ p) : (x.setCell ⟨p, i, none⟩ y).cell? ⟨v, k, none⟩ = some u := by
  rw [World.cell?_setCell_other _ _ _ _ (by simp [hn])]; exact h
theorem SP.var (h : SP w b p r v o bc pc rc oc x) : x.cell? ⟨v, 0, none⟩ = some (.slice (some ⟨r, 0, none⟩) 3 3) := h.kv.cell 0
end
set_option maxHeartbeats 8000000 in
set_option maxRecDepth 100000 in
theorem split_3 (g c : Nat) (w : World) (hg : g < w.heap.size) (h : ∀ i, i < 3 → w.cell? ⟨g, i, none⟩ = some (.int .i64 1)) :
    Calls Tryd.prog 21 #[mo 100 usdB, .slice (some ⟨g, 0, none⟩) 3 c] w fun e w' => (∃ l, e = .returned (.tuple #[.slice (some ⟨l, 0, none⟩) 3 3, .int .i64 0]) ∧ Blk w' l 23 #[.int .i64 34, .string usdB, .int .i64 33, .string usdB, .int .i64 33, .string usdB]) ∧ Below w.heap.size w w' := by
  have HC := Lib.hid (fun w => mcheck_ok 100 usdB (by decide) (by decide) (by decide) (by decide) w)
  have HS := Lib.hid (fun w h => sumw_3 g c w h)
  have HM := Lib.hid (fun w => magn_any 100 (by decide) (by decide) w)
  have HX : Hid (∀ w, Calls Tryd.prog 36 #[.int .u64 100, .int .u64 1] w fun e w' => e = .returned (.tuple #[.int .u64 0, .int .u64 100]) ∧ w' = w) := Lib.hid (fun w => Tryd.bits_Mul64 100 1 (by decide) (by decide) w)
  have HD : Hid (∀ w, Calls Tryd.prog 38 #[.int .u64 0, .int .u64 100, .int .u64 3] w fun e w' => e = .returned (.tuple #[.int .u64 33, .int .u64 1]) ∧ Below w.heap.size w w') := Lib.hid (fun w => div_nat 100 3 w (by decide) (by decide) (by decide))
  have HM : Hid (∀ w, Calls Tryd.prog 37 #[.int .i64 100] w fun e w' => e = .returned (.int .u64 100) ∧ w = w') := HM
  have HH := Lib.hid h
  have m1 := hmk64
  have m2 := hmk65
  have m3 := hmk35
  unfold mo at *
  clear h
  go_enter Tryd.func21, Tryd.ntmps21
  go_wp2_with fail
  refine (HC.out _).mono ?_
  rintro e w1 ⟨rfl, hb⟩
  obtain ⟨d1, o1, rfl⟩ := regrow_of hb
  clear hb
  have hc1 := HH.out 0 (by decide)
  have hc2 := HH.out 1 (by decide)
  have hc3 := HH.out 2 (by decide)
  go_wp2_with fail
  refine (HS.out _ ?_).mono ?_
  · intro i hi
    rw [cell?_regrow _ _ _ _ (by simp; omega), World.cell?_alloc_lt _ _ _ (by simpa using hg)]
    exact HH.out i hi
  rintro e w2 ⟨rfl, rfl⟩
  go_wp2_with fail
  refine (HM.out _).mono ?_
  rintro e w2 ⟨rfl, rfl⟩
  go_wp2_with fail
  obtain ⟨W, hW⟩ : ∃ W, W = ((((grow (redrawn (w.alloc (.cells #[.int .i64 100, .string usdB] 23)) d1) o1).alloc (.cells #[.int .u64 0, .int .u64 0, .int .u64 0] 53)).alloc (.cells #[.int .u64 0, .int .u64 0, .int .u64 0] 53)).alloc (.cells #[.slice (some ⟨w.heap.size + 1 + o1.size + 1, 0, none⟩) 3 3] 64)).alloc (.cells #[.int .i64 0, .int .i64 0, .int .i64 0] 3) := ⟨_, rfl⟩
  have hSP : SP w w.heap.size (w.heap.size + 1 + o1.size) (w.heap.size + 1 + o1.size + 1) (w.heap.size + 1 + o1.size + 1 + 1) (w.heap.size + 1 + o1.size + 1 + 1 + 1) #[.int .i64 100, .string usdB] #[.int .u64 0, .int .u64 0, .int .u64 0] #[.int .u64 0, .int .u64 0, .int .u64 0] #[.int .i64 0, .int .i64 0, .int .i64 0] W := by
    have k0 : Blk (grow (redrawn (w.alloc (.cells #[.int .i64 100, .string usdB] 23)) d1) o1) w.heap.size 23 #[.int .i64 100, .string usdB] := (Blk.new w 23 _).call (below_regrown _ _ _)
    have s0 : (grow (redrawn (w.alloc (.cells #[.int .i64 100, .string usdB] 23)) d1) o1).heap.size = w.heap.size + 1 + o1.size := by rw [size_regrow]; simp
    have b0 : Below w.heap.size w (grow (redrawn (w.alloc (.cells #[.int .i64 100, .string usdB] 23)) d1) o1) := bre (al (Below.refl _ _)) _ _
    rw [hW]
    generalize grow (redrawn (w.alloc (.cells #[.int .i64 100, .string usdB] 23)) d1) o1 = V at *
    rw [← s0]
    have k1 := Blk.new V 53 #[.int .u64 0, .int .u64 0, .int .u64 0]
    have s1 : (V.alloc (.cells #[.int .u64 0, .int .u64 0, .int .u64 0] 53)).heap.size = V.heap.size + 1 := by simp
    have k0 := k0.alloc (.cells #[.int .u64 0, .int .u64 0, .int .u64 0] 53)
    have b0 := al (o := .cells #[.int .u64 0, .int .u64 0, .int .u64 0] 53) b0
    generalize V.alloc (.cells #[.int .u64 0, .int .u64 0, .int .u64 0] 53) = V1 at *
    rw [← s1]
    have k2 := Blk.new V1 53 #[.int .u64 0, .int .u64 0, .int .u64 0]
    have s2 : (V1.alloc (.cells #[.int .u64 0, .int .u64 0, .int .u64 0] 53)).heap.size = V1.heap.size + 1 := by simp
    have k0 := k0.alloc (.cells #[.int .u64 0, .int .u64 0, .int .u64 0] 53)
    have k1 := k1.alloc (.cells #[.int .u64 0, .int .u64 0, .int .u64 0] 53)
    have b0 := al (o := .cells #[.int .u64 0, .int .u64 0, .int .u64 0] 53) b0
    generalize V1.alloc (.cells #[.int .u64 0, .int .u64 0, .int .u64 0] 53) = V2 at *
    rw [← s2]
    generalize hr : V1.heap.size = rr at *
    have k3 := Blk.new V2 64 #[.slice (some ⟨rr, 0, none⟩) 3 3]
    have s3 : (V2.alloc (.cells #[.slice (some ⟨rr, 0, none⟩) 3 3] 64)).heap.size = V2.heap.size + 1 := by simp
    have k0 := k0.alloc (.cells #[.slice (some ⟨rr, 0, none⟩) 3 3] 64)
    have k1 := k1.alloc (.cells #[.slice (some ⟨rr, 0, none⟩) 3 3] 64)
    have k2 := k2.alloc (.cells #[.slice (some ⟨rr, 0, none⟩) 3 3] 64)
    have b0 := al (o := .cells #[.slice (some ⟨rr, 0, none⟩) 3 3] 64) b0
    generalize V2.alloc (.cells #[.slice (some ⟨rr, 0, none⟩) 3 3] 64) = V3 at *
    rw [← s3]
    exact ⟨k0.alloc _, k1.alloc _, k2.alloc _, k3.alloc _, Blk.new V3 3 _, al b0⟩
  have hd : w.heap.size ≤ w.heap.size ∧ w.heap.size < w.heap.size + 1 + o1.size ∧ w.heap.size + 1 + o1.size < w.heap.size + 1 + o1.size + 1 ∧ w.heap.size + 1 + o1.size + 1 < w.heap.size + 1 + o1.size + 1 + 1 ∧ w.heap.size + 1 + o1.size + 1 + 1 < w.heap.size + 1 + o1.size + 1 + 1 + 1 := by omega
  rw [← hW]
  clear hW
  generalize w.heap.size + 1 + o1.size + 1 + 1 + 1 = o at *
  generalize w.heap.size + 1 + o1.size + 1 + 1 = v at *
  generalize w.heap.size + 1 + o1.size + 1 = r at *
  generalize w.heap.size + 1 + o1.size = p at *
  generalize hbb : w.heap.size = b at hd hSP ⊢
  replace hd : w.heap.size ≤ b ∧ b < p ∧ p < r ∧ r < v ∧ v < o := by rw [hbb]; exact hd
  clear hbb
  have HS0 := Lib.hid hSP
  clear hSP
  refine wp_loop_rounds 4 ?_
  rw [rounds_succ]
  have hg0 : W.cell? ⟨g, 0, none⟩ = some (.int .i64 1) := (HS0.out.kw.cell (p := ⟨g, 0, none⟩) hg).trans (HH.out 0 (by decide))
  go_upto_region 16 with (go_at_call 36; refine (HX.out _).mono ?_; rintro e w' ⟨rfl, rfl⟩)
  go_cut [] (fun wx => SP w b p r v o #[.int .i64 100, .string usdB] #[.int .u64 33, .int .u64 0, .int .u64 0] #[.int .u64 1, .int .u64 0, .int .u64 0] #[.int .i64 0, .int .i64 0, .int .i64 0] wx)
  case first =>
    have hv := HS0.out.var
    have hs := HS0.out
    have cp := (hs.kp.cell 0).trans (show _ = some (Value.int .u64 0) from rfl)
    have cr := (hs.kr.cell 0).trans (show _ = some (Value.int .u64 0) from rfl)
    have fp := hs.kp.frozen 0
    have fr := hs.kr.frozen 0
    have npr : p ≠ r := by omega
    have nrp : r ≠ p := by omega
    have nvp : v ≠ p := by omega
    have npv : p ≠ v := by omega
    have nvr : v ≠ r := by omega
    have nrv : r ≠ v := by omega
    have lp := hs.kp.lt
    have lr := hs.kr.lt
    have lv := hs.kv.lt
    go_region_with (go_at_call 38; refine (HD.out _).mono ?_; rintro e w5 ⟨rfl, hb5⟩; obtain ⟨d5, o5, rfl⟩ := regrow_of hb5; clear hb5; have cp2 := cv_re d5 o5 (cv_drew cp); have cr2 := cv_re d5 o5 (cv_drew cr); have cv2 := cv_re d5 o5 (cv_drew hv); have fp2 := fz_re d5 o5 lp fp; have fr2 := fz_re d5 o5 lr fr)
    all_goals
      go_wp2_with fail
      go_meet
      repeat (first | exact hs | refine SP.stR (rc := #[.int .u64 0, .int .u64 0, .int .u64 0]) ?_ hd 0 _ rfl | refine SP.stP (pc := #[.int .u64 0, .int .u64 0, .int .u64 0]) ?_ hd 0 _ rfl | refine SP.drew ?_ | refine SP.call ?_ (below_regrown _ _ _))
  case rest =>
    have cp := (hcut.kp.cell 0).trans (show _ = some (Value.int .u64 33) from rfl)
    have co := (hcut.ko.cell 0).trans (show _ = some (Value.int .i64 0) from rfl)
    have fo := hcut.ko.frozen 0
    have lo := hcut.ko.lt
    have HS1 := Lib.hid (SP.stO hcut hd 0 (.int .i64 0) (oc' := #[.int .i64 0, .int .i64 0, .int .i64 0]) rfl)
    clear hcut hg0
    go_wp2_with fail
    generalize wc.setCell ⟨o, 0, none⟩ (.int .i64 0) = V1 at *
    clear cp co fo lo
    rw [rounds_succ]
    have hg1 : V1.cell? ⟨g, 1, none⟩ = some (.int .i64 1) := (HS1.out.kw.cell (p := ⟨g, 1, none⟩) hg).trans (HH.out 1 (by decide))
    go_upto_region 16 with (go_at_call 36; refine (HX.out _).mono ?_; rintro e w' ⟨rfl, rfl⟩)
    go_cut [] (fun wx => SP w b p r v o #[.int .i64 100, .string usdB] #[.int .u64 33, .int .u64 33, .int .u64 0] #[.int .u64 1, .int .u64 1, .int .u64 0] #[.int .i64 0, .int .i64 0, .int .i64 0] wx)
    case first =>
      have hv := HS1.out.var
      have hs := HS1.out
      have cp := (hs.kp.cell 1).trans (show _ = some (Value.int .u64 0) from rfl)
      have cr := (hs.kr.cell 1).trans (show _ = some (Value.int .u64 0) from rfl)
      have fp := hs.kp.frozen 1
      have fr := hs.kr.frozen 1
      have npr : p ≠ r := by omega
      have nrp : r ≠ p := by omega
      have nvp : v ≠ p := by omega
      have npv : p ≠ v := by omega
      have nvr : v ≠ r := by omega
      have nrv : r ≠ v := by omega
      have lp := hs.kp.lt
      have lr := hs.kr.lt
      have lv := hs.kv.lt
      go_region_with (go_at_call 38; refine (HD.out _).mono ?_; rintro e w5 ⟨rfl, hb5⟩; obtain ⟨d5, o5, rfl⟩ := regrow_of hb5; clear hb5; have cp2 := cv_re d5 o5 (cv_drew cp); have cr2 := cv_re d5 o5 (cv_drew cr); have cv2 := cv_re d5 o5 (cv_drew hv); have fp2 := fz_re d5 o5 lp fp; have fr2 := fz_re d5 o5 lr fr)
      all_goals
        go_wp2_with fail
        go_meet
        repeat (first | exact hs | refine SP.stR (rc := #[.int .u64 1, .int .u64 0, .int .u64 0]) ?_ hd 1 _ rfl | refine SP.stP (pc := #[.int .u64 33, .int .u64 0, .int .u64 0]) ?_ hd 1 _ rfl | refine SP.drew ?_ | refine SP.call ?_ (below_regrown _ _ _))
    case rest =>
      have cp := (hcut.kp.cell 1).trans (show _ = some (Value.int .u64 33) from rfl)
      have co := (hcut.ko.cell 1).trans (show _ = some (Value.int .i64 0) from rfl)
      have fo := hcut.ko.frozen 1
      have lo := hcut.ko.lt
      have HS2 := Lib.hid (SP.stO hcut hd 1 (.int .i64 1) (oc' := #[.int .i64 0, .int .i64 1, .int .i64 0]) rfl)
      clear hcut hg1
      go_wp2_with fail
      generalize wc.setCell ⟨o, 1, none⟩ (.int .i64 1) = V2 at *
      clear cp co fo lo
      rw [rounds_succ]
      have hg2 : V2.cell? ⟨g, 2, none⟩ = some (.int .i64 1) := (HS2.out.kw.cell (p := ⟨g, 2, none⟩) hg).trans (HH.out 2 (by decide))
      go_upto_region 16 with (go_at_call 36; refine (HX.out _).mono ?_; rintro e w' ⟨rfl, rfl⟩)
      go_cut [] (fun wx => SP w b p r v o #[.int .i64 100, .string usdB] #[.int .u64 33, .int .u64 33, .int .u64 33] #[.int .u64 1, .int .u64 1, .int .u64 1] #[.int .i64 0, .int .i64 1, .int .i64 0] wx)
      case first =>
        have hv := HS2.out.var
        have hs := HS2.out
        have cp := (hs.kp.cell 2).trans (show _ = some (Value.int .u64 0) from rfl)
        have cr := (hs.kr.cell 2).trans (show _ = some (Value.int .u64 0) from rfl)
        have fp := hs.kp.frozen 2
        have fr := hs.kr.frozen 2
        have npr : p ≠ r := by omega
        have nrp : r ≠ p := by omega
        have nvp : v ≠ p := by omega
        have npv : p ≠ v := by omega
        have nvr : v ≠ r := by omega
        have nrv : r ≠ v := by omega
        have lp := hs.kp.lt
        have lr := hs.kr.lt
        have lv := hs.kv.lt
        go_region_with (go_at_call 38; refine (HD.out _).mono ?_; rintro e w5 ⟨rfl, hb5⟩; obtain ⟨d5, o5, rfl⟩ := regrow_of hb5; clear hb5; have cp2 := cv_re d5 o5 (cv_drew cp); have cr2 := cv_re d5 o5 (cv_drew cr); have cv2 := cv_re d5 o5 (cv_drew hv); have fp2 := fz_re d5 o5 lp fp; have fr2 := fz_re d5 o5 lr fr)
        all_goals
          go_wp2_with fail
          go_meet
          repeat (first | exact hs | refine SP.stR (rc := #[.int .u64 1, .int .u64 1, .int .u64 0]) ?_ hd 2 _ rfl | refine SP.stP (pc := #[.int .u64 33, .int .u64 33, .int .u64 0]) ?_ hd 2 _ rfl | refine SP.drew ?_ | refine SP.call ?_ (below_regrown _ _ _))
      case rest =>
        have cp := (hcut.kp.cell 2).trans (show _ = some (Value.int .u64 33) from rfl)
        have co := (hcut.ko.cell 2).trans (show _ = some (Value.int .i64 0) from rfl)
        have fo := hcut.ko.frozen 2
        have lo := hcut.ko.lt
        have HS3 := Lib.hid (SP.stO hcut hd 2 (.int .i64 2) (oc' := #[.int .i64 0, .int .i64 1, .int .i64 2]) rfl)
        clear hcut hg2
        go_wp2_with fail
        generalize wc.setCell ⟨o, 2, none⟩ (.int .i64 2) = V3 at *
        clear cp co fo lo
        rw [rounds_succ]
        go_wp2_with fail
        have hR : Rem V3 v r := ⟨HS3.out.kv.lt, HS3.out.kr.lt, HS3.out.var, fun i hi => by
          rw [HS3.out.kr.cell]
          have : i = 0 ∨ i = 1 ∨ i = 2 := by omega
          rcases this with rfl | rfl | rfl <;> rfl⟩
        have hO : Ord V3 o := ⟨HS3.out.ko.lt, fun i hi => by
          rw [HS3.out.ko.cell]
          have : i = 0 ∨ i = 1 ∨ i = 2 := by omega
          rcases this with rfl | rfl | rfl <;> rfl⟩
        have HST := Lib.hid (stable_any v r o V3 hR hO)
        clear hR hO
        refine HST.out.mono ?_
        rintro e V4 ⟨rfl, hb⟩
        have HS4 := Lib.hid (SP.call HS3.out hb)
        clear hb HST
        have c0 := (HS4.out.ko.cell 0).trans (show _ = some (Value.int .i64 0) from rfl)
        have cp := (HS4.out.kp.cell 0).trans (show _ = some (Value.int .u64 33) from rfl)
        have fp := HS4.out.kp.frozen 0
        have lp := HS4.out.kp.lt
        have HS5 := Lib.hid (SP.stP HS4.out hd 0 (.int .u64 34) (pc' := #[.int .u64 34, .int .u64 33, .int .u64 33]) rfl)
        go_wp2_with fail
        refine wp_loop_rounds 2 ?_
        rw [rounds_succ]
        go_wp2_with fail
        generalize V4.setCell ⟨p, 0, none⟩ (.int .u64 34) = V5 at *
        clear c0 cp fp lp
        rw [rounds_succ]
        go_wp2_with fail
        have cb0 := (HS5.out.kb.cell 0).trans (show _ = some (Value.int .i64 100) from rfl)
        have cb1 := (HS5.out.kb.cell 1).trans (show _ = some (Value.string usdB) from rfl)
        have cp0 := (HS5.out.kp.cell 0).trans (show _ = some (Value.int .u64 34) from rfl)
        have cp1 := (HS5.out.kp.cell 1).trans (show _ = some (Value.int .u64 33) from rfl)
        have cp2 := (HS5.out.kp.cell 2).trans (show _ = some (Value.int .u64 33) from rfl)
        have lp := HS5.out.kp.lt
        have lb := HS5.out.kb.lt
        refine wp_loop_rounds 4 ?_
        iterate 4
          rw [rounds_succ]
          go_wp2_with fail
        go_ret2
        exact ⟨⟨V5.heap.size, rfl, Blk.new _ _ _⟩, al2 HS5.out.kw⟩
end Go.Proofs.YtompeealmgdfhaaDoor
