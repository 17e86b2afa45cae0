/- New. -/
import Derived.Test.YtbfmfnfndmfeeaaDoorI
import Derived.Carry
set_option linter.unusedVariables false
set_option linter.unusedSimpArgs false
namespace Go.Proofs.YtbfmfnfndmfeeaaDoor
open Go.Sort Go.ChangeShapes Go.WideShapes Go.ChangeAt Go.RowKit
open cal
/-- a slice of ints, as it is read -/
def Ints (w : World) (a : Option Addr) (len cap : Nat) (zs : List Int) : Prop :=
  zs.length = len ∧ len ≤ cap ∧ cap ≤ maxLen ∧ ∀ i, i < len → ∃ b off, a = some ⟨b, off, none⟩ ∧ b < w.heap.size ∧ w.cell? ⟨b, off + i, none⟩ = some (.int .i64 (zs.getD i 0))
theorem Ints.call {w w1 : World} {a : Option Addr} {len cap : Nat} {zs : List Int} (h : Ints w a len cap zs) (hb : Below w.heap.size w w1) : Ints w1 a len cap zs := by
  obtain ⟨h1, h2, h3, h4⟩ := h
  refine ⟨h1, h2, h3, fun i hi => ?_⟩
  obtain ⟨b, off, e, hl, hc⟩ := h4 i hi
  exact ⟨b, off, e, Nat.lt_of_lt_of_le hl hb.size, (hb.cell (p := ⟨b, off + i, none⟩) hl).trans hc⟩
/-- whether a number is among the first k -/
def inZ (zs : List Int) (k : Nat) (x : Int) : Bool := (zs.take k).any (fun y => x == y)
theorem take_getD (zs : List Int) (k : Nat) (h : k < zs.length) : zs.take (k + 1) = zs.take k ++ [zs.getD k 0] := by
  rw [List.take_succ_eq_append_getElem h, List.getD_eq_getElem?_getD, List.getElem?_eq_getElem h]; rfl
theorem inZ_succ (zs : List Int) (k : Nat) (h : k < zs.length) : inZ zs (k + 1) = fun x => (x == zs.getD k 0) || inZ zs k x := by
  funext x
  unfold inZ
  rw [take_getD zs k h, List.any_append]
  simp [Bool.or_comm]
theorem bD_wf {x : Int} (h : bD x = true) : (Lit.int .i64 x).wf = true := by
  obtain ⟨h0, h1⟩ := bD_true h
  simp [Lit.wf, IntKind.min, IntKind.max, IntKind.signed, IntKind.bits]
  omega
def CalAt (w : World) (C : Nat) (S : Int → Bool) : Prop := ∃ B n, Blk w C 53 #[.map (some B)] ∧ SetAt w B n S
theorem CalAt.call {w w1 : World} {C : Nat} {S : Int → Bool} (h : CalAt w C S) (hb : Below w.heap.size w w1) : CalAt w1 C S := by
  obtain ⟨B, n, h1, h2⟩ := h
  exact ⟨B, n, h1.call hb, h2.call hb⟩
theorem Blk.grown {w w1 : World} {g : Nat} {t : TypeId} {cs : Array Value} {B : Nat} (h : Blk w g t cs) (hg : w.grownBy w1 (some B)) (hne : g ≠ B) : Blk w1 g t cs :=
  (hg.block g h.lt (fun e => hne (Option.some.inj e))).trans h
@[go_sem] theorem run_makeM (w : World) : (Instr.makeMap 51 none).run Tryd.prog w = .ok (.map (some w.heap.size)) (w.alloc (.map #[] 0)) := by kernel_rfl
theorem blk_made (w : World) (t : TypeId) (cs : Array Value) : Blk ((w.alloc (.map #[] 0)).alloc (.cells cs t)) (w.heap.size + 1) t cs := by
  have h := Blk.new (w.alloc (.map #[] 0)) t cs
  rwa [show (w.alloc (.map #[] 0)).heap.size = w.heap.size + 1 from by unfold World.alloc; exact Array.size_push ..] at h
set_option maxHeartbeats 2000000 in
theorem new_ok (A : Option Addr) (len cap : Nat) (zs : List Int) (w : World) (hI : Ints w A len cap zs) (hl : len ≤ 400) (hok : ∀ i, i < len → bD (zs.getD i 0) = true) :
    Calls Tryd.prog 26 #[.slice A len cap] w fun e w' => (∃ C, e = .returned (.tuple #[.pointer (some ⟨C, 0, none⟩), .int .i64 0]) ∧ CalAt w' C (inZ zs len)) ∧ Below w.heap.size w w' := by
  have HI := Lib.hid hI
  have HOK := Lib.hid hok
  have hl2 : (len : Int) ≤ 400 := by omega
  clear hI hok
  go_enter Tryd.func26, Tryd.ntmps26
  go_wp2_with fail
  go_loopw [15] (fun x wr => ∃ i : Nat, i ≤ len ∧ x = .int .i64 i ∧ Below w.heap.size w wr ∧ Blk wr (w.heap.size + 1) 53 #[.map (some w.heap.size)] ∧ SetAt wr w.heap.size i (inZ zs i)) (fun x _ => len - (intOf x).toNat)
  case atStart => exact ⟨0, Nat.zero_le _, rfl, al (al (Below.refl _ _)), blk_made _ _ _, (set_made w).call (al (Below.refl _ _))⟩
  case round =>
    obtain ⟨i, hi, rfl, hB, hK, hS⟩ := hrel
    have HB := Lib.hid hB
    have HK := Lib.hid hK
    have HS := Lib.hid hS
    clear hB hK hS
    by_cases hil : i < len
    · have hlt : (i : Int) < (len : Int) := by omega
      obtain ⟨b, off, rfl, hbw, hc0⟩ := HI.out.2.2.2 i hil
      have hc : wr.cell? ⟨b, off + i, none⟩ = some (.int .i64 (zs.getD i 0)) := (HB.out.cell (p := ⟨b, off + i, none⟩) hbw).trans hc0
      have hz := HOK.out i hil
      have HN := Lib.hid (inZ_succ zs i (by rw [HI.out.1]; exact hil))
      have HW := Lib.hid (bD_wf hz)
      have HD : Hid (∀ w, _) := Lib.hid (fun w => isDate_any (zs.getD i 0) w)
      rw [hz] at HD
      generalize zs.getD i 0 = z at *
      clear hc0 hz
      go_wp2_with fail
      refine (HD.out _).mono ?_
      rintro e w1 ⟨rfl, hb⟩
      have HB1 := Lib.hid (beI HB.out (Nat.le_refl _) hb)
      have HK1 := Lib.hid (HK.out.call hb)
      obtain ⟨w2, hrun, hS2, hg⟩ := (HS.out.call hb).store HW.out (show i < maxLen from Nat.lt_of_lt_of_le hil (Nat.le_trans HI.out.2.1 HI.out.2.2.1))
      have HB2 := Lib.hid (HB1.out.grown hg HB1.out.size (fun k e => Nat.le_of_eq (Option.some.inj e)))
      have HK2 := Lib.hid (HK1.out.grown hg (by omega))
      have HS2 := Lib.hid hS2
      have q0 := HK1.out.cell 0
      have q1 : w.heap.size + 1 < w1.heap.size := HK1.out.lt
      clear hb hS2 hg HB HK HS HD
      change w1.cell? _ = some (.map (some w.heap.size)) at q0
      go_wp2_with fail
      go_round
      case rel => exact ⟨i + 1, hil, by simp, HB2.out, HK2.out, by rw [HN.out]; exact HS2.out⟩
      case measure => simp [intOf]; omega
    · have hE : i = len := by omega
      subst hE
      go_wp2_with fail
      exact bodyPost_ret (v := .tuple #[.pointer (some ⟨_, 0, none⟩), .int .i64 0]) (by simp [results, Tryd.results26, go_sem]) rfl ⟨⟨_, rfl, _, _, HK.out, HS.out⟩, HB.out⟩
theorem new_long (A : Option Addr) (len cap : Nat) (w : World) (hl : 400 < len) :
    Calls Tryd.prog 26 #[.slice A len cap] w fun e w' => e = .returned (.tuple #[.pointer none, .int .i64 3]) ∧ Below w.heap.size w w' := by
  have hl2 : (400 : Int) < len := by omega
  go_enter Tryd.func26, Tryd.ntmps26
  go_wp2_with fail
  exact bodyPost_ret (v := .tuple #[.pointer none, .int .i64 3]) (by simp [results, Tryd.results26, go_sem]) rfl ⟨rfl, Below.refl _ _⟩
set_option maxHeartbeats 2000000 in
theorem new_bad (A : Option Addr) (len cap : Nat) (zs : List Int) (w : World) (hI : Ints w A len cap zs) (hl : len ≤ 400) (k : Nat) (hk : k < len) (hok : ∀ i, i < k → bD (zs.getD i 0) = true) (hbad : bD (zs.getD k 0) = false) :
    Calls Tryd.prog 26 #[.slice A len cap] w fun e w' => e = .returned (.tuple #[.pointer none, .int .i64 4]) ∧ Below w.heap.size w w' := by
  have HI := Lib.hid hI
  have HOK := Lib.hid hok
  have hl2 : (len : Int) ≤ 400 := by omega
  clear hI hok
  go_enter Tryd.func26, Tryd.ntmps26
  go_wp2_with fail
  go_loopw [15] (fun x wr => ∃ i : Nat, i ≤ k ∧ x = .int .i64 i ∧ Below w.heap.size w wr ∧ Blk wr (w.heap.size + 1) 53 #[.map (some w.heap.size)] ∧ SetAt wr w.heap.size i (inZ zs i)) (fun x _ => k - (intOf x).toNat)
  case atStart => exact ⟨0, Nat.zero_le _, rfl, al (al (Below.refl _ _)), blk_made _ _ _, (set_made w).call (al (Below.refl _ _))⟩
  case round =>
    obtain ⟨i, hi, rfl, hB, hK, hS⟩ := hrel
    have HB := Lib.hid hB
    have HK := Lib.hid hK
    have HS := Lib.hid hS
    clear hB hK hS
    have hil : i < len := by omega
    have hlt : (i : Int) < (len : Int) := by omega
    obtain ⟨b, off, rfl, hbw, hc0⟩ := HI.out.2.2.2 i hil
    have hc : wr.cell? ⟨b, off + i, none⟩ = some (.int .i64 (zs.getD i 0)) := (HB.out.cell (p := ⟨b, off + i, none⟩) hbw).trans hc0
    clear hc0
    by_cases hik : i < k
    · have hz := HOK.out i hik
      have HN := Lib.hid (inZ_succ zs i (by rw [HI.out.1]; exact hil))
      have HW := Lib.hid (bD_wf hz)
      have HD : Hid (∀ w, _) := Lib.hid (fun w => isDate_any (zs.getD i 0) w)
      rw [hz] at HD
      clear hz hbad
      generalize zs.getD i 0 = z at *
      go_wp2_with fail
      refine (HD.out _).mono ?_
      rintro e w1 ⟨rfl, hb⟩
      have HB1 := Lib.hid (beI HB.out (Nat.le_refl _) hb)
      have HK1 := Lib.hid (HK.out.call hb)
      obtain ⟨w2, hrun, hS2, hg⟩ := (HS.out.call hb).store HW.out (show i < maxLen from Nat.lt_of_lt_of_le hil (Nat.le_trans HI.out.2.1 HI.out.2.2.1))
      have HB2 := Lib.hid (HB1.out.grown hg HB1.out.size (fun k e => Nat.le_of_eq (Option.some.inj e)))
      have HK2 := Lib.hid (HK1.out.grown hg (by omega))
      have HS2 := Lib.hid hS2
      have q0 := HK1.out.cell 0
      have q1 : w.heap.size + 1 < w1.heap.size := HK1.out.lt
      clear hb hS2 hg HB HK HS HD
      change w1.cell? _ = some (.map (some w.heap.size)) at q0
      go_wp2_with fail
      go_round
      case rel => exact ⟨i + 1, hik, by simp, HB2.out, HK2.out, by rw [HN.out]; exact HS2.out⟩
      case measure => simp [intOf]; omega
    · have hE : i = k := by omega
      subst hE
      have HD : Hid (∀ w, _) := Lib.hid (fun w => isDate_any (zs.getD i 0) w)
      rw [hbad] at HD
      clear hbad
      generalize zs.getD i 0 = z at *
      go_wp2_with fail
      refine (HD.out _).mono ?_
      rintro e w1 ⟨rfl, hb⟩
      have HB1 := Lib.hid (beI HB.out (Nat.le_refl _) hb)
      clear hb
      go_wp2_with fail
      exact bodyPost_ret (v := .tuple #[.pointer none, .int .i64 4]) (by simp [results, Tryd.results26, go_sem]) rfl ⟨rfl, HB1.out⟩
end Go.Proofs.YtbfmfnfndmfeeaaDoor
