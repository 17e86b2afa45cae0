import Derived.Test.YtlkbghdeingimaaW
import Derived.Deep.RegionHeld3
import Derived.Deep.DeepCutAuto
import Derived.Deep.LoopGhost
set_option linter.unusedVariables false
set_option linter.unusedSimpArgs false
namespace Go.Proofs.Ytlkbghdeingimaa
open Go.Sort Go.ChangeShapes Go.WideShapes Go.ChangeAt Go.RowKit

theorem cell_re_alloc {w : World} {a : Addr} {v : Value} (h : w.cell? a = some v) (d : Nat) (os : Array Obj) (o : Obj) : ((grow (redrawn w d) os).alloc o).cell? a = some v := by
  have hlt : a.block < w.heap.size := block_lt_of_cell h
  rw [World.cell?_alloc_lt _ _ _ (by rw [size_regrow]; omega)]
  exact cell_regrown h d os
theorem below_way1 {w wr : World} (h : Below w.heap.size w wr) (d : Nat) (os : Array Obj) (o : Obj) : Below w.heap.size w ((grow (redrawn wr.drew d) os).alloc o) :=
  (below_re (h.drew) h.size d os).alloc (by rw [size_regrow]; exact Nat.le_trans h.size (Nat.le_add_right _ _)) o
theorem below_way2 {w wr : World} (h : Below w.heap.size w wr) (d : Nat) (os : Array Obj) (o : Obj) : Below w.heap.size w (grow (redrawn (wr.drew.alloc o) d) os) :=
  below_re (h.drew.alloc h.size o) (Nat.le_trans h.size (by simp)) d os
theorem below_set10 {w wc : World} {B : Nat} (h : Below w.heap.size w wc) (hB : w.heap.size ≤ B) (v0 v1 v2 v3 v4 v5 v6 v7 v8 v9 : Value) :
    Below w.heap.size w ((((((((((wc.setCell ⟨B, 0, none⟩ v0).setCell ⟨B, 1, none⟩ v1).setCell ⟨B, 2, none⟩ v2).setCell ⟨B, 3, none⟩ v3).setCell ⟨B, 4, none⟩ v4).setCell ⟨B, 5, none⟩ v5).setCell ⟨B, 6, none⟩ v6).setCell ⟨B, 7, none⟩ v7).setCell ⟨B, 8, none⟩ v8).setCell ⟨B, 9, none⟩ v9) :=
  (((((((((h.setCell hB _).setCell hB _).setCell hB _).setCell hB _).setCell hB _).setCell hB _).setCell hB _).setCell hB _).setCell hB _).setCell hB _
theorem blk_set10 {wc : World} {B t : Nat} {u0 u1 u2 u3 u4 u5 u6 u7 u8 u9 : Value} (h : Blk wc B t #[u0, u1, u2, u3, u4, u5, u6, u7, u8, u9]) (v0 v1 v2 v3 v4 v5 v6 v7 v8 v9 : Value) :
    Blk ((((((((((wc.setCell ⟨B, 0, none⟩ v0).setCell ⟨B, 1, none⟩ v1).setCell ⟨B, 2, none⟩ v2).setCell ⟨B, 3, none⟩ v3).setCell ⟨B, 4, none⟩ v4).setCell ⟨B, 5, none⟩ v5).setCell ⟨B, 6, none⟩ v6).setCell ⟨B, 7, none⟩ v7).setCell ⟨B, 8, none⟩ v8).setCell ⟨B, 9, none⟩ v9) B t #[v0, v1, v2, v3, v4, v5, v6, v7, v8, v9] := by
  have := (((((((((h.set_ 0 v0).set_ 1 v1).set_ 2 v2).set_ 3 v3).set_ 4 v4).set_ 5 v5).set_ 6 v6).set_ 7 v7).set_ 8 v8).set_ 9 v9
  simpa using this
/-- what is told of a slice of integers that came in -/
def IsRow (k : IntKind) (w : World) (a : Option Addr) (len cap : Nat) (zs : List Int) : Prop :=
  (a = none ∧ len = 0 ∧ cap = 0 ∧ zs = []) ∨
  ∃ x, a = some x ∧ len ≤ cap ∧ cap ≤ maxLen ∧ zs.length = cap ∧ (∀ i, i < zs.length → w.cell? (x.add i) = some (.int k (zs.getD i 0))) ∧ ∀ n ∈ zs, (Lit.int k n).wf = true

abbrev sX : ByteArray := ⟨#[120]⟩
def aI (am cl : Int) (i : Nat) : Au := ⟨sX, sE, am, 0, cl, 0, sttI am 0 cl 0, 0, 10, i⟩
def SumOk (am cl s : Int) (i : Nat) : Prop := 1 ≤ am ∧ am ≤ 999999999999 ∧ (i : Int) ≤ cl ∧ cl ≤ am ∧ (i = 0 ↔ cl = 0) ∧ cl = min s am ∧ 0 ≤ s ∧ s ≤ i * 999999999999
theorem idX : idL sX.data.toList = true := by decide
theorem curE : curL sE.data.toList = true := by decide
theorem chk_I {am cl : Int} {i : Nat} (h1 : 1 ≤ am) (h2 : am ≤ 999999999999) (h3 : (i : Int) ≤ cl) (h4 : cl ≤ am) (h5 : i = 0 ↔ cl = 0) (h6 : i ≤ 8) : chk sX sE am 0 cl 0 (sttI am 0 cl 0) 0 10 i = 0 := by
  unfold chk
  rw [if_neg (by rw [idX]; simp), if_neg (by rw [curE]; simp), if_neg (by simp [amtB]; omega), if_neg (by omega), if_neg (by simp [timeB]), if_neg (by omega), if_neg]
  intro h
  rcases h with h | h
  · exact h rfl
  · exact h.2 rfl
def PCase (am cl s p : Int) (i : Nat) (r : Au × Int × Int × Int) : Prop :=
  (cl = am ∧ r = (⟨⟨#[]⟩, ⟨#[]⟩, 0, 0, 0, 0, 0, 0, 0, 0⟩, 0, 0, 8)) ∨
  (cl = s ∧ s < am ∧ s + p ≤ am ∧ r = (⟨sX, sE, am, 0, s + p, 0, sttI am 0 (s + p) 0, 0, 10, (i : Int) + 1⟩, p, 0, 0)) ∨
  (cl = s ∧ s < am ∧ am < s + p ∧ r = (⟨sX, sE, am, 0, am, 0, sttI am 0 am 0, 0, 10, (i : Int) + 1⟩, am - s, 0, 0))
theorem pcase {am cl s p : Int} {i : Nat} (hS : SumOk am cl s i) (hi : i < 8) (p1 : 1 ≤ p) (p2 : p ≤ 999999999999) : PCase am cl s p i (clearR (aI am cl i) p false) := by
  obtain ⟨h1, h2, h3, h4, h5, h6, h7, h8⟩ := hS
  have hc : chk sX sE am 0 cl 0 (sttI am 0 cl 0) 0 10 i = 0 := chk_I h1 h2 h3 h4 h5 (by omega)
  by_cases hcl : cl = am
  · left
    refine ⟨hcl, ?_⟩
    have hck : (aI am cl i).ck = 8 := by
      show cko sX sE am 0 cl 0 (sttI am 0 cl 0) 0 10 i = 8
      unfold cko; rw [if_pos hc, if_neg]
      unfold sttI; rw [if_neg (by omega), if_neg (by omega)]; split <;> omega
    unfold clearR; rw [if_pos (by rw [hck]; simp), hck]; rfl
  · have hs : cl = s := by rw [Int.min_def] at h6; split at h6 <;> omega
    have hck : (aI am cl i).ck = 0 := by
      show cko sX sE am 0 cl 0 (sttI am 0 cl 0) 0 10 i = 0
      unfold cko; rw [if_pos hc, if_pos]
      unfold sttI; rw [if_pos (by omega)]
    have hp : amtB p 1 = true := by simp [amtB]; omega
    right
    by_cases hle : s + p ≤ am
    · left
      refine ⟨hs, by omega, hle, ?_⟩
      unfold clearR
      rw [if_neg (by rw [hck]; simp), if_neg (by rw [hp]; simp), if_neg (by show ¬ (8 ≤ (i : Int)); omega), if_pos (by show p ≤ am - 0 - cl - 0; omega)]
      subst hs
      rfl
    · right
      refine ⟨hs, by omega, by omega, ?_⟩
      unfold clearR
      rw [if_neg (by rw [hck]; simp), if_neg (by rw [hp]; simp), if_neg (by show ¬ (8 ≤ (i : Int)); omega), if_neg (by show ¬ (p ≤ am - 0 - cl - 0); omega)]
      subst hs
      show (Au.re ⟨sX, sE, am, 0, cl + (am - 0 - cl - 0), 0, sttI am 0 cl 0, 0, 10, (i : Int) + 1⟩, am - 0 - cl - 0, (0 : Int), (0 : Int)) = _
      rw [show am - 0 - cl - 0 = am - cl by omega, show cl + (am - cl) = am by omega]
      rfl
theorem sum_b1 {am s p : Int} {i : Nat} (h : SumOk am s s i) (hs : s < am) (p1 : 1 ≤ p) (hle : s + p ≤ am) (p2 : p ≤ 999999999999) : SumOk am (s + p) (s + p) (i + 1) := by
  obtain ⟨h1, h2, h3, h4, h5, h6, h7, h8⟩ := h
  refine ⟨h1, h2, by omega, hle, ⟨by omega, by omega⟩, by rw [Int.min_eq_left hle], by omega, by omega⟩
theorem sum_b2 {am s p : Int} {i : Nat} (h : SumOk am s s i) (hs : s < am) (p1 : 1 ≤ p) (hle : am < s + p) (p2 : p ≤ 999999999999) : SumOk am am (s + p) (i + 1) := by
  obtain ⟨h1, h2, h3, h4, h5, h6, h7, h8⟩ := h
  refine ⟨h1, h2, by omega, Int.le_refl _, ⟨by omega, by omega⟩, by rw [Int.min_eq_right (by omega)], by omega, by omega⟩
theorem blk_start (w1 : World) (am : Int) (h : 1 ≤ am) : Blk (w1.alloc (.cells (auc sX sE am 0 0 0 1 0 10 0) 24)) w1.heap.size 24 (auc sX sE am 0 0 0 (sttI am 0 0 0) 0 10 (0 : Nat)) := by
  rw [show sttI am 0 0 0 = 1 by unfold sttI; rw [if_pos (by omega)]]
  exact Blk.new w1 24 _
/-- at the head of the loop -/
def PRel (w : World) (B : Nat) (am : Int) (len : Nat) (g : Nat) (s7 s8 s9 : Value) (wr : World) : Prop :=
  ∃ (i : Nat) (cl s : Int), i ≤ len ∧ g = len - i ∧ s9 = .int .i64 i ∧ s7 = .int .i64 s ∧ s8 = .int .i64 cl ∧ SumOk am cl s i ∧ Below w.heap.size w wr ∧
    Blk wr B 24 (auc sX sE am 0 cl 0 (sttI am 0 cl 0) 0 10 i)
/-- behind the clearing -/
def QRel (w : World) (B : Nat) (am cl : Int) (i : Nat) (r : Au × Int × Int × Int) (s10 s11 s12 s13 : Value) (wr : World) : Prop :=
  ∃ C : Nat, s10 = .pointer (some ⟨C, 0, none⟩) ∧ s11 = .int .i64 r.2.1 ∧ s12 = .int .i64 r.2.2.1 ∧ s13 = .int .i64 r.2.2.2 ∧ B ≠ C ∧ Below w.heap.size w wr ∧
    Blk wr B 24 (auc sX sE am 0 cl 0 (sttI am 0 cl 0) 0 10 i) ∧ Blk wr C 24 (auc r.1.id r.1.cur r.1.ap r.1.rv r.1.cl r.1.ex r.1.st r.1.tt r.1.un r.1.pa)

set_option maxRecDepth 100000 in
set_option maxHeartbeats 1000000 in
theorem parts_loop (am : Int) (A : Option Addr) (len cap : Nat) (z : List Int) (w : World) (ha1 : 1 ≤ am) (ha2 : am ≤ 999999999999) (hl : len ≤ 8) (hlc : len ≤ cap)
    (hz : ∀ i, i < len → ∃ b off, A = some ⟨b, off, none⟩ ∧ b < w.heap.size ∧ w.cell? ⟨b, off + i, none⟩ = some (.int .i64 (z.getD i 0))) (hm : cap ≤ maxLen) (hc0 : (chk sX sE am 0 0 0 1 0 10 0 == 0) = true) :
    Calls Try.prog 7 #[.int .i64 am, .slice A len cap] w fun e w' => e = .returned (.bool true) ∧ Below w.heap.size w w' := by
  unfold maxLen at hm
  have hl' : (len : Int) ≤ 8 := by omega
  have hl8 : decide (8 < (len : Int)) = false := by simp; omega
  have hX1 : sX.size ≤ maxLen := by decide
  have hX2 : sE.size ≤ maxLen := by decide
  have HZ := Lib.hid hz
  clear hz
  go_enter Try.func7, Try.ntmps7
  go_wp2_with fail
  refine (new_ok sX sE am 0 10 _ (by decide) (by decide) hc0).mono ?_
  rintro e w1 ⟨rfl, hb⟩
  have B1 := Lib.hid hb
  clear hb hc0
  go_wp2_with fail
  go_loopg [7, 8, 9] len (fun g s7 s8 s9 wr => PRel w w1.heap.size am len g s7 s8 s9 wr)
  case atStart => exact ⟨0, 0, 0, Nat.zero_le _, rfl, rfl, rfl, rfl, ⟨ha1, ha2, by simp, by omega, by simp, by rw [Int.min_eq_left (by omega)], by simp, by simp⟩, B1.out.alloc B1.out.size _, blk_start w1 am ha1⟩
  case round =>
    obtain ⟨i, cl, s, hi, rfl, rfl, rfl, rfl, hS, hB, hk⟩ := hrel
    by_cases hlt : i < len
    · have hlt' : (i : Int) < (len : Int) := by omega
      obtain ⟨b, off, rfl, hbw, hcw⟩ := HZ.out i hlt
      clear HZ
      have hcell : wr.cell? ⟨b, off + i, none⟩ = some (.int .i64 (z.getD i 0)) := (hB.cell (p := ⟨b, off + i, none⟩) hbw).trans hcw
      generalize z.getD i 0 = p at hcell hcw
      have HCW := Lib.hid hcw
      clear hcw
      have HS := Lib.hid hS
      have HB := Lib.hid hB
      have HK := Lib.hid hk
      obtain ⟨k1, k2, k3⟩ := hk.rules
      clear hS hB hk
      by_cases p1 : 1 ≤ p
      · by_cases p2 : p ≤ 999999999999
        · have hcl := fun w => clear_any (aI am cl i) p false w hX1 hX2
          have hcase := pcase HS.out (by omega) p1 p2
          generalize clearR (aI am cl i) p false = r at hcl hcase
          obtain ⟨⟨id2, cur2, ap2, rv2, cl2, ex2, st2, tt2, un2, pa2⟩, m9, n9, e9⟩ := r
          have HC := Lib.hid hcl
          have HP := Lib.hid hcase
          clear hcl hcase
          go_upto_region 10 with fail
          go_cut [10, 11, 12, 13] (fun s10 s11 s12 s13 wx => QRel w w1.heap.size am cl i (⟨id2, cur2, ap2, rv2, cl2, ex2, st2, tt2, un2, pa2⟩, m9, n9, e9) s10 s11 s12 s13 wx)
          case first =>
            go_region_held3 (fun w' => w1.heap.size < w'.heap.size ∧ w'.cell? ⟨w1.heap.size, 0, none⟩ = some (.string sX) ∧ w'.cell? ⟨w1.heap.size, 1, none⟩ = some (.string sE) ∧ w'.cell? ⟨w1.heap.size, 2, none⟩ = some (.int .i64 am) ∧ w'.cell? ⟨w1.heap.size, 3, none⟩ = some (.int .i64 0) ∧ w'.cell? ⟨w1.heap.size, 4, none⟩ = some (.int .i64 cl) ∧ w'.cell? ⟨w1.heap.size, 5, none⟩ = some (.int .i64 0) ∧ w'.cell? ⟨w1.heap.size, 6, none⟩ = some (.int .i64 (sttI am 0 cl 0)) ∧ w'.cell? ⟨w1.heap.size, 7, none⟩ = some (.int .i64 0) ∧ w'.cell? ⟨w1.heap.size, 8, none⟩ = some (.int .i64 10) ∧ w'.cell? ⟨w1.heap.size, 9, none⟩ = some (.int .i64 i) ∧ w'.cell? ⟨b, off + i, none⟩ = some (.int .i64 p))
              (first | (go_keep; done) | ((repeat' apply And.intro) <;> (first | (go_keep; done) | (refine cell_re_alloc ?_ _ _ _; go_keep; done) | (refine cell_regrown ?_ _ _; go_keep; done) | (have k4 : w1.heap.size < wr.drew.heap.size := k3; simp [heap_redrawn]; omega)))) (first | (go_at_call 19; refine (HC.out _).mono ?_; rintro e w2 ⟨rfl, hb⟩; obtain ⟨d, os, rfl⟩ := regrow_of hb; clear hb))
            · go_wp2_with fail
              go_meet
              refine ⟨_, rfl, rfl, rfl, rfl, by omega, below_way1 HB.out _ _ _, (Blk.call (w := wr.drew) HK.out (below_regrown wr.drew d os)).alloc _, ?_⟩
              have h := Blk.new (grow (redrawn wr.drew d) os) 24 (auc id2 cur2 ap2 rv2 cl2 ex2 st2 tt2 un2 pa2)
              rw [size_regrow] at h
              exact h
            · go_wp2_with fail
              go_meet
              exact ⟨_, rfl, rfl, rfl, rfl, by omega, below_way2 HB.out _ _ _, (Blk.alloc (w := wr.drew) HK.out _).call (below_regrown _ d os), (Blk.new wr.drew 24 _).call (below_regrown _ d os)⟩
          case rest =>
            obtain ⟨C, rfl, rfl, rfl, rfl, hne, hB2, hkB, hkC⟩ := hcut
            have HB2 := Lib.hid hB2
            have HKB := Lib.hid hkB
            have HKC := Lib.hid hkC
            have HCELL := Lib.hid hcell
            clear hB2 k1 k2 k3 hcell
            obtain ⟨k1, k2, k3⟩ := hkB.rules
            obtain ⟨j1, j2, j3⟩ := hkC.rules
            clear hkB hkC HB HK
            rcases HP.out with ⟨hcl, hr⟩ | ⟨hcl, hsa, hle, hr⟩ | ⟨hcl, hsa, hle, hr⟩
            · simp only [Prod.mk.injEq, Au.mk.injEq] at hr
              obtain ⟨⟨rfl, rfl, rfl, rfl, rfl, rfl, rfl, rfl, rfl, rfl⟩, rfl, rfl, rfl⟩ := hr
              obtain ⟨h1, h2, h3, h4, h5, h6, h7, h8⟩ := HS.out
              have hs : am ≤ s := by rw [Int.min_def] at h6; split at h6 <;> omega
              have hq : (cl == am) = true := by simp [hcl]
              clear hcl h6 h5 HP HC
              go_wp2_with fail
              refine (awake_any _).mono ?_
              rintro e w2 ⟨rfl, hb⟩
              go_wp2_with fail
              go_ret
              exact ⟨rfl, below_call HB2.out hb⟩
            · have hr := hr.symm
              simp only [Prod.mk.injEq, Au.mk.injEq] at hr
              obtain ⟨⟨rfl, rfl, rfl, rfl, rfl, rfl, rfl, rfl, rfl, rfl⟩, rfl, rfl, rfl⟩ := hr
              have hcl' : s = cl := hcl.symm
              subst hcl'
              have S8 := Lib.hid (sum_b1 HS.out hsa p1 hle p2)
              have hcell2 : wc.cell? ⟨b, off + i, none⟩ = some (.int .i64 p) := (HB2.out.cell (p := ⟨b, off + i, none⟩) hbw).trans HCW.out
              clear HP HC
              obtain ⟨-, -, -, -, -, -, h7, h8⟩ := HS.out
              go_wp2_with fail
              go_roundg (len - (i + 1))
              case measure => omega
              case rel =>
                exact ⟨i + 1, s + p, s + p, hlt, rfl, by go_num, rfl, rfl, S8.out, below_set10 HB2.out B1.out.size _ _ _ _ _ _ _ _ _ _, blk_set10 HKB.out _ _ _ _ _ _ _ _ _ _⟩
            · have hr := hr.symm
              simp only [Prod.mk.injEq, Au.mk.injEq] at hr
              obtain ⟨⟨rfl, rfl, rfl, rfl, rfl, rfl, rfl, rfl, rfl, rfl⟩, rfl, rfl, rfl⟩ := hr
              have hcl' : s = cl := hcl.symm
              subst hcl'
              have S8 := Lib.hid (sum_b2 HS.out hsa p1 hle p2)
              have hcell2 : wc.cell? ⟨b, off + i, none⟩ = some (.int .i64 p) := (HB2.out.cell (p := ⟨b, off + i, none⟩) hbw).trans HCW.out
              clear HP HC
              obtain ⟨-, -, -, -, -, -, h7, h8⟩ := HS.out
              have hmin : (s + (am - s) != am) = false := by simp; omega
              go_wp2_with fail
              go_roundg (len - (i + 1))
              case measure => omega
              case rel =>
                exact ⟨i + 1, am, s + p, hlt, rfl, by go_num, rfl, by rw [show s + (am - s) = am by omega], S8.out, below_set10 HB2.out B1.out.size _ _ _ _ _ _ _ _ _ _, blk_set10 HKB.out _ _ _ _ _ _ _ _ _ _⟩
        · have hcx : decide (p < 1) = false := by simp; omega
          go_wp2_with fail
          refine (awake_any _).mono ?_
          rintro e w2 ⟨rfl, hb⟩
          go_wp2_with fail
          go_ret
          exact ⟨rfl, below_call HB.out hb⟩
      · go_wp2_with fail
        refine (awake_any _).mono ?_
        rintro e w2 ⟨rfl, hb⟩
        go_wp2_with fail
        go_ret
        exact ⟨rfl, below_call HB.out hb⟩
    · have hB' := Lib.hid hB
      clear hB hS hk
      go_wp2_with fail
      refine (awake_any _).mono ?_
      rintro e w2 ⟨rfl, hb⟩
      go_wp2_with fail
      go_ret
      exact ⟨rfl, below_call hB'.out hb⟩

theorem row_at {k : IntKind} {w : World} {a : Option Addr} {len cap : Nat} {z : List Int} (h : IsRow k w a len cap z) : len ≤ cap ∧ cap ≤ maxLen ∧
    ∀ i, i < len → ∃ b off, a = some ⟨b, off, none⟩ ∧ b < w.heap.size ∧ w.cell? ⟨b, off + i, none⟩ = some (.int k (z.getD i 0)) := by
  rcases h with ⟨rfl, rfl, rfl, rfl⟩ | ⟨x, rfl, hl, hm, hz, hc, -⟩
  · exact ⟨Nat.le_refl _, Nat.zero_le _, fun i hi => absurd hi (Nat.not_lt_zero _)⟩
  · refine ⟨hl, hm, fun i hi => ?_⟩
    obtain ⟨b, off, rfl, hb⟩ := ints_at hc (by omega)
    exact ⟨b, off, rfl, block_lt_of_cell (a := ⟨b, off + i, none⟩) (hb i (by omega)), hb i (by omega)⟩

theorem parts_walk (am : Int) (A : Option Addr) (len cap : Nat) (z : List Int) (w : World) (hr : IsRow .i64 w A len cap z) :
    Calls Try.prog 7 #[.int .i64 am, .slice A len cap] w fun e w' => e = .returned (.bool true) ∧ Below w.heap.size w w' := by
  obtain ⟨hlc, hm, hz⟩ := row_at hr
  have hX1 : sX.size ≤ maxLen := by decide
  have hX2 : sE.size ≤ maxLen := by decide
  cases hc : (chk sX sE am 0 0 0 1 0 10 0 == 0)
  · have hc' := neq_of_ne hc
    clear hz hr
    go_enter Try.func7, Try.ntmps7
    go_wp2_with fail
    refine (new_no sX sE am 0 10 _ hX1 hX2 hc).mono ?_
    rintro e w1 ⟨rfl, hb⟩
    have B1 := Lib.hid hb
    clear hb
    go_wp2_with fail
    refine (awake_any _).mono ?_
    rintro e w2 ⟨rfl, hb⟩
    have B2 := Lib.hid (below_call (B1.out.alloc B1.out.size _) hb)
    go_wp2_with fail
    go_ret
    exact ⟨rfl, B2.out⟩
  · have hz0 : chk sX sE am 0 0 0 1 0 10 0 = 0 := by simpa using hc
    obtain ⟨⟨a1, a2⟩, -⟩ := chk_0 hz0
    by_cases hl : len ≤ 8
    · exact parts_loop am A len cap z w a1 a2 hl hlc hz hm hc
    · have hl' : 8 < (len : Int) := by omega
      clear hz hr hz0
      unfold maxLen at hm
      go_enter Try.func7, Try.ntmps7
      go_wp2_with fail
      refine (new_ok sX sE am 0 10 _ hX1 hX2 hc).mono ?_
      rintro e w1 ⟨rfl, hb⟩
      have B1 := Lib.hid hb
      clear hb
      go_wp2_with fail
      refine (awake_any _).mono ?_
      rintro e w2 ⟨rfl, hb⟩
      have B2 := Lib.hid (below_call (B1.out.alloc B1.out.size _) hb)
      go_wp2_with fail
      go_ret
      exact ⟨rfl, B2.out⟩
end Go.Proofs.Ytlkbghdeingimaa
namespace Go.Proofs.Ytlkbghdeingimaa.authParts
open Go.ChangeShapes Go.WideShapes Go.ChangeAt Go.RowKit
theorem walk (am : Int) (A : Option Addr) (len cap : Nat) (z : List Int) (w : World) (_ : (Lit.int .i64 am).wf = true) (hr : IsRow .i64 w A len cap z) :
    Calls Try.prog 7 #[.int .i64 am, .slice A len cap] w fun e w' => e = .returned (.bool true) ∧ Below w.heap.size w w' := parts_walk am A len cap z w hr
end Go.Proofs.Ytlkbghdeingimaa.authParts
