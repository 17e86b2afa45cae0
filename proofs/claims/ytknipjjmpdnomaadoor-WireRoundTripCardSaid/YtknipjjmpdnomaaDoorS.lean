/- The walk of WireRoundTrip. -/
import Derived.Test.YtknipjjmpdnomaaDoorR
import Derived.Test.YtknipjjmpdnomaaDoorG
set_option linter.unusedVariables false
set_option linter.unusedSimpArgs false
namespace Go.Proofs.YtknipjjmpdnomaaDoor
open Go.Sort Go.ChangeShapes Go.WideShapes Go.ChangeAt Go.RowKit
theorem tabP_of_wireRoundTrip {W : World} (h : laidMetH Tryd.prog Rows.wireRoundTripRow.laid W) : TabP W := by
  rw [MakeChecks.laidMetH_plain _ _ _ (by kernel_rfl)] at h
  have h2 := h.tail.tail
  exact Lib.tabIs_of_head (g := 3) (by kernel_rfl) (by kernel_rfl) Tryd.underlying111 Tryd.underlying84 (by kernel_rfl) (by kernel_rfl) h2
/-- what is told of a slice of fields that came in -/
def IsRecs32 (w : World) (a : Option Addr) (len cap : Nat) : Prop :=
  (a = none ∧ len = 0 ∧ cap = 0) ∨
  ∃ x : Addr, a = some x ∧ len ≤ cap ∧ cap ≤ maxLen ∧ ∀ i, i < len → ∃ (x0 x1 : Int) (x2 : ByteArray) (x3 : Int), w.cell? (x.add (i * 4 + 0)) = some (.int .u8 x0) ∧ (Lit.int .u8 x0).wf = true ∧ w.cell? (x.add (i * 4 + 1)) = some (.int .i64 x1) ∧ (Lit.int .i64 x1).wf = true ∧
    w.cell? (x.add (i * 4 + 2)) = some (.string x2) ∧ x2.size ≤ maxLen ∧ w.cell? (x.add (i * 4 + 3)) = some (.int .i64 x3) ∧ (Lit.int .i64 x3).wf = true
def FdsAt (w : World) (A : Option Addr) (len : Nat) (xs : Nat → Fd) : Prop :=
  ∀ i, i < len → ∃ b off, A = some ⟨b, off, none⟩ ∧ b < w.heap.size ∧ w.cell? ⟨b, off + i * 4, none⟩ = some (.int .u8 (xs i).d) ∧ w.cell? ⟨b, off + i * 4 + 1, none⟩ = some (.int .i64 (xs i).n) ∧ w.cell? ⟨b, off + i * 4 + 2, none⟩ = some (.string (xs i).t) ∧ w.cell? ⟨b, off + i * 4 + 3, none⟩ = some (.int .i64 (xs i).w) ∧ (xs i).t.size ≤ maxLen ∧ 0 ≤ (xs i).d ∧ (xs i).n ≤ 9223372036854775807
theorem fds_of {w : World} {a : Option Addr} {len cap : Nat} (h : IsRecs32 w a len cap) : len ≤ cap ∧ cap ≤ maxLen ∧ ∃ xs, FdsAt w a len xs := by
  rcases h with ⟨rfl, rfl, rfl⟩ | ⟨x, rfl, hl, hm, hc⟩
  · exact ⟨Nat.le_refl _, Nat.zero_le _, fun _ => ⟨0, 0, ⟨#[]⟩, 0⟩, fun i hi => absurd hi (Nat.not_lt_zero _)⟩
  · refine ⟨hl, hm, ?_⟩
    have key : ∀ i, i < len → ∃ r : Fd, ∃ b off, some x = some (⟨b, off, none⟩ : Addr) ∧ b < w.heap.size ∧ w.cell? ⟨b, off + i * 4, none⟩ = some (.int .u8 r.d) ∧ w.cell? ⟨b, off + i * 4 + 1, none⟩ = some (.int .i64 r.n) ∧ w.cell? ⟨b, off + i * 4 + 2, none⟩ = some (.string r.t) ∧ w.cell? ⟨b, off + i * 4 + 3, none⟩ = some (.int .i64 r.w) ∧ r.t.size ≤ maxLen ∧ 0 ≤ r.d ∧ r.n ≤ 9223372036854775807 := fun i hi => by
      obtain ⟨x0, x1, x2, x3, h0, f0, h1, f1, h2, s2, h3, -⟩ := hc i hi
      obtain ⟨b, off, spot⟩ := x
      obtain ⟨y0, _, _, _, z0, _⟩ := hc 0 (by omega)
      have hspot : spot = none := by simpa [Addr.add] using World.cell?_spot z0
      subst hspot
      rw [Go.WideShapes.add_plain] at h0 h1 h2 h3
      exact ⟨⟨x0, x1, x2, x3⟩, b, off, rfl, block_lt_of_cell (a := ⟨b, off + (i * 4 + 0), none⟩) h0, h0, h1, h2, h3, s2, (wf_u8 f0).1, (wf_i64 f1).2⟩
    exact ⟨fun i => if h : i < len then (key i h).choose else ⟨0, 0, ⟨#[]⟩, 0⟩, fun i hi => by
      have := (key i hi).choose_spec
      simpa only [dif_pos hi] using this⟩
theorem cell4 {w : World} {g : Nat} {d n x : Int} {t : ByteArray} (h : Blk w g 32 #[.int .u8 d, .int .i64 n, .string t, .int .i64 x]) : w.cell? ⟨g, 0, none⟩ = some (.int .u8 d) ∧ w.cell? ⟨g, 1, none⟩ = some (.int .i64 n) ∧ w.cell? ⟨g, 2, none⟩ = some (.string t) ∧ w.cell? ⟨g, 3, none⟩ = some (.int .i64 x) ∧ g < w.heap.size :=
  ⟨h.cell 0, h.cell 1, h.cell 2, h.cell 3, h.lt⟩
set_option maxHeartbeats 4000000 in
set_option maxRecDepth 20000 in
theorem wireRoundTrip.walk (A : Option Addr) (len cap : Nat) (more : ByteArray) (w : World) (hr : IsRecs32 w A len cap) (hm : more.size ≤ maxLen) (hT : TabP w) :
    Calls Tryd.prog 4 #[.slice A len cap, .string more] w fun e w' => e = .returned (.bool true) ∧ Below w.heap.size w w' := by
  obtain ⟨hlc, hcm, xs, hz⟩ := fds_of hr
  have HT := Lib.hid hT
  have HZ := Lib.hid hz
  have HA := Lib.hid awake_any
  have hlm : len ≤ maxLen := Nat.le_trans hlc hcm
  unfold maxLen at hm hlm
  clear hr hT hz hcm hlc
  by_cases c0 : 30 < len
  · have c0' : decide ((30 : Int) < (len : Int)) = true := decide_eq_true (by omega)
    clear c0
    go_enter Tryd.func4, Tryd.ntmps4
    go_wp2_with fail
    refine (HA.out _ HT.out).mono ?_
    rintro e w1 ⟨rfl, hb⟩
    have HB := Lib.hid hb
    clear hb
    go_wp2_with fail
    go_ret
    exact ⟨rfl, HB.out⟩
  have c0' : decide ((30 : Int) < (len : Int)) = false := decide_eq_false (by omega)
  have c0n : len ≤ 30 := by omega
  have c0m : (len : Int) ≤ 30 := by omega
  clear c0 hlm
  by_cases c1 : 300 < more.size
  · have c1' : decide ((300 : Int) < (more.size : Int)) = true := decide_eq_true (by omega)
    clear c1
    go_enter Tryd.func4, Tryd.ntmps4
    go_wp2_with fail
    refine (HA.out _ HT.out).mono ?_
    rintro e w1 ⟨rfl, hb⟩
    have HB := Lib.hid hb
    clear hb
    go_wp2_with fail
    go_ret
    exact ⟨rfl, HB.out⟩
  have c1' : decide ((300 : Int) < (more.size : Int)) = false := decide_eq_false (by omega)
  have c1n : more.size ≤ 300 := by omega
  have c1m : (more.size : Int) ≤ 300 := by omega
  clear c1 hm
  have HN30 := Lib.hid c0n
  have HM300 := Lib.hid c1n
  have HWR := Lib.hid (fun (i : Nat) (hi : i < len) (ht : (xs i).t.size ≤ 300) (W : World) (hW : TabP W) => write_any (xs i) (by obtain ⟨_, _, _, _, _, _, _, _, _, h, _⟩ := HZ.out i hi; exact h) (Lib.hid (by obtain ⟨_, _, _, _, _, _, _, _, _, _, h⟩ := HZ.out i hi; exact h)) (by omega) W hW)
  unfold Fd.cs at HWR
  have HD0 := Lib.hid (fun (i : Nat) (hi : i < len) => (show 0 ≤ (xs i).d by obtain ⟨_, _, _, _, _, _, _, _, _, h, _⟩ := HZ.out i hi; exact h))
  have HCA := Lib.hid (fun i h => cat_add xs i h)
  have HCS := Lib.hid (fun i h => cat_skip xs i h)
  have HSZ := Lib.hid (fun i => cat_size xs i)
  have HVZ := Lib.hid (fun i h => wr_size (xs i) h)
  have RNU := Lib.hid (fun i hi h hd g w hk => rd_num xs i len hi c0n h hd g w hk)
  have RAL := Lib.hid (fun i hi h hd g w hk => rd_alpha xs i len hi c0n h hd g w hk)
  have RVA := Lib.hid (fun i hi h hd g w hk => rd_var xs i len hi c0n h hd g w hk)
  have REN := Lib.hid (fun g w hk => end_any2 g (cat xs len) (by have := cat_size xs len; omega) w hk)
  have RLE := Lib.hid (fun g w hk => left_any2 g (cat xs len) (cat xs len).size 0 (by have := cat_size xs len; omega) (Nat.le_refl _) w hk)
  rw [Nat.sub_self] at RLE
  have HC0 : Hid (cat xs 0 = ⟨#[]⟩) := Lib.hid rfl
  have HNR := Lib.hid newr_any
  generalize cat xs = C at *
  clear c1n
  go_enter Tryd.func4, Tryd.ntmps4
  go_wp2_with fail
  go_loopw [5, 6] (fun x y wr => ∃ i : Nat, i ≤ len ∧ x = .string (C i) ∧ y = .int .i64 i ∧ Hid (Below w.heap.size w wr) ∧ Hid (∀ j, j < i → (xs j).t.size ≤ 300)) (fun _ y _ => len - (intOf y).toNat)
  case atStart => exact ⟨0, Nat.zero_le _, by rw [HC0.out], rfl, Lib.hid (Below.refl _ _), Lib.hid (fun j hj => absurd hj (by omega))⟩
  case round =>
    obtain ⟨i, hi, rfl, rfl, hB, hTX⟩ := hrel
    by_cases hik : i < len
    · have hlt : (i : Int) < (len : Int) := by omega
      obtain ⟨b, off, rfl, hbw, g0, g1, g2, g3, s1, -, -⟩ := HZ.out i hik
      have k0 : wr.cell? ⟨b, off + i * 4, none⟩ = some (.int .u8 (xs i).d) := (hB.out.cell (p := ⟨b, off + i * 4, none⟩) hbw).trans g0
      have k1 : wr.cell? ⟨b, off + i * 4 + 1, none⟩ = some (.int .i64 (xs i).n) := (hB.out.cell (p := ⟨b, off + i * 4 + 1, none⟩) hbw).trans g1
      have k2 : wr.cell? ⟨b, off + i * 4 + 2, none⟩ = some (.string (xs i).t) := (hB.out.cell (p := ⟨b, off + i * 4 + 2, none⟩) hbw).trans g2
      have k3 : wr.cell? ⟨b, off + i * 4 + 3, none⟩ = some (.int .i64 (xs i).w) := (hB.out.cell (p := ⟨b, off + i * 4 + 3, none⟩) hbw).trans g3
      have hci : (C i).size ≤ 8000 := by have := HSZ.out i; omega
      unfold maxLen at s1
      clear g0 g1 g2 g3
      by_cases hbig : 300 < (xs i).t.size
      · have c2 : decide ((300 : Int) < ((xs i).t.size : Int)) = true := decide_eq_true (by omega)
        have HTN := Lib.hid (HT.out.call hB.out)
        clear HZ HWR RNU RAL RVA HCA HCS HSZ HVZ hTX HD0
        generalize C i = G at *
        generalize (xs i).t = t2 at *
        generalize (xs i).n = n2 at *
        generalize (xs i).d = d2 at *
        generalize (xs i).w = w2 at *
        go_wp2_with fail
        refine (HA.out _ HTN.out).mono ?_
        rintro e w1 ⟨rfl, hb⟩
        have HB1 := Lib.hid (below_call hB.out hb)
        clear hb
        go_wp2_with fail
        go_ret
        exact ⟨rfl, HB1.out⟩
      · have c2 : decide ((300 : Int) < ((xs i).t.size : Int)) = false := decide_eq_false (by omega)
        have HW := Lib.hid (HWR.out i hik (by omega))
        have hTX1 : Hid (∀ j, j < i + 1 → (xs j).t.size ≤ 300) := Lib.hid (fun j hj => by
          by_cases hji : j < i
          · exact hTX.out j hji
          · obtain rfl : j = i := by omega
            omega)
        have HTN := Lib.hid (HT.out.call hB.out)
        have hle1 : i + 1 ≤ len := by omega
        by_cases hE : wrE (xs i) = 0
        · have HX := Lib.hid (HCA.out i hE)
          have hvz := HVZ.out i hE
          have hE1 : ((wrE (xs i)) == 0) = true := by rw [hE]; rfl
          rw [hE] at HW
          clear HZ HWR RNU RAL RVA HCA HCS HSZ HVZ hTX HD0 hE hE1
          generalize C i = G at *
          generalize wrV (xs i) = V at *
          generalize (xs i).t = t2 at *
          generalize (xs i).n = n2 at *
          generalize (xs i).d = d2 at *
          generalize (xs i).w = w2 at *
          clear s1 hbig
          go_wp2_with fail
          refine (HW.out _ HTN.out).mono ?_
          rintro e w1 ⟨rfl, hb⟩
          have HB1 := Lib.hid (below_call hB.out hb)
          clear hb
          go_wp2_with fail
          go_roundw
          case rel => exact ⟨i + 1, hle1, by rw [HX.out], by go_num, HB1, hTX1⟩
          case measure => simp [intOf]; omega
        · have HX := Lib.hid (HCS.out i hE)
          have hE1 : ((wrE (xs i)) == 0) = false := by rw [beq_eq_false_iff_ne]; exact hE
          clear HZ HWR RNU RAL RVA HCA HCS HSZ HVZ hTX HD0
          generalize wrE (xs i) = E at *
          generalize C i = G at *
          generalize wrV (xs i) = V at *
          generalize (xs i).t = t2 at *
          generalize (xs i).n = n2 at *
          generalize (xs i).d = d2 at *
          generalize (xs i).w = w2 at *
          clear s1 hbig
          go_wp2_with fail
          refine (HW.out _ HTN.out).mono ?_
          rintro e w1 ⟨rfl, hb⟩
          have HB1 := Lib.hid (below_call hB.out hb)
          clear hb
          go_wp2_with fail
          go_roundw
          case rel => exact ⟨i + 1, hle1, by rw [HX.out], by go_num, HB1, hTX1⟩
          case measure => simp [intOf]; omega
    · have hge : ¬ (i : Int) < (len : Int) := by omega
      obtain rfl : i = len := by omega
      have HB := hB
      have HTX := hTX
      clear hTX hik hi
      generalize wr = wa at *
      go_wp2_with fail
      refine (HNR.out _ _).mono ?_
      rintro e w3 ⟨rfl, hw3⟩
      have HK3 := Lib.hid (show Blk w3 wa.heap.size 59 (rd (C i) 0 0) by rw [hw3]; exact Blk.new _ _ _)
      have HB3 := Lib.hid (show Below w.heap.size w w3 by rw [hw3]; exact HB.out.alloc HB.out.size _)
      have HGW := Lib.hid HB.out.size
      clear hw3
      go_wp2_with fail
      go_loopw [10] (fun y wr => ∃ k : Nat, Hid (k ≤ i) ∧ y = .int .i64 k ∧ Hid (Below w.heap.size w wr) ∧ Hid (Blk wr wa.heap.size 59 (rd (C i) (C k).size 0))) (fun y _ => i - (intOf y).toNat)
      case atStart => exact ⟨0, Lib.hid (Nat.zero_le _), rfl, HB3, Lib.hid (by rw [HC0.out]; exact HK3.out)⟩
      case round =>
        obtain ⟨k, hk, rfl, hB2, hK2⟩ := hrel
        have hk1 := hk.out
        by_cases hki : k < i
        · have hlt : (k : Int) < (i : Int) := by omega
          obtain ⟨b, off, rfl, hbw, g0, g1, g2, g3, s1, -, -⟩ := HZ.out k hki
          have k0 : wr.cell? ⟨b, off + k * 4, none⟩ = some (.int .u8 (xs k).d) := (hB2.out.cell (p := ⟨b, off + k * 4, none⟩) hbw).trans g0
          have k1 : wr.cell? ⟨b, off + k * 4 + 1, none⟩ = some (.int .i64 (xs k).n) := (hB2.out.cell (p := ⟨b, off + k * 4 + 1, none⟩) hbw).trans g1
          have k2 : wr.cell? ⟨b, off + k * 4 + 2, none⟩ = some (.string (xs k).t) := (hB2.out.cell (p := ⟨b, off + k * 4 + 2, none⟩) hbw).trans g2
          have k3 : wr.cell? ⟨b, off + k * 4 + 3, none⟩ = some (.int .i64 (xs k).w) := (hB2.out.cell (p := ⟨b, off + k * 4 + 3, none⟩) hbw).trans g3
          have ht3 := HTX.out k hki
          have HW := Lib.hid (HWR.out k hki ht3)
          have hle1 : Hid (k + 1 ≤ i) := Lib.hid (by omega)
          have hd0 := HD0.out k hki
          have HTA := Lib.hid (fun o => (HT.out.call hB2.out).call (al_ (w := wr) (o := o)))
          have HBA := Lib.hid (fun o => below_call hB2.out (al_ (w := wr) (o := o)))
          have HKA := Lib.hid (fun o => hK2.out.alloc o)
          have hne : wa.heap.size ≠ wr.heap.size := Nat.ne_of_lt hK2.out.lt
          have HNE := Lib.hid hne
          clear g0 g1 g2 g3 s1 hk1 hne
          by_cases hE : wrE (xs k) = 0
          · have HWE := HW
            rw [hE] at HWE
            have h33 : (xs k).d % 3 = 0 ∨ (xs k).d % 3 = 1 ∨ (xs k).d % 3 = 2 := by omega
            rcases h33 with h3 | h3 | h3
            · have RX := Lib.hid (fun g w hk => RNU.out k hki hE h3 g w hk)
              rw [hE] at HW
              have e0 : Int.tmod (xs k).d 3 = 0 := by rw [Int.tmod_eq_emod_of_nonneg hd0]; exact h3
              have e1 : (xs k).d % 3 = 0 := h3
              clear hE h3 HWE
              clear HZ HWR RNU RAL RVA HCA HCS HSZ HVZ HTX HD0
              generalize wrV (xs k) = V at *
              generalize (xs k).t = t2 at *
              generalize (xs k).n = n2 at *
              generalize (xs k).d = d2 at *
              generalize (xs k).w = w2 at *
              go_wp2_with fail
              refine (HW.out _ (HTA.out _)).mono ?_
              rintro e w4 ⟨rfl, hb⟩
              have HB4 := Lib.hid (below_call (HBA.out _) hb)
              have HK4 := Lib.hid ((HKA.out _).call hb)
              have HF4 := Lib.hid ((Blk.new wr 32 #[.int .u8 d2, .int .i64 n2, .string t2, .int .i64 w2]).call hb)
              clear hb
              obtain ⟨r0, r1, r2, r3, rl⟩ := cell4 HF4.out
              go_wp2_with fail
              go_quiet (fail)
              go_wp2_with fail
              refine (RX.out _ _ (blk_dn HK4.out nq)).mono ?_
              rintro e w5 ⟨rfl, hk5, hb5, hp5⟩
              have HK5 := Lib.hid hk5
              have HB5 := Lib.hid ((bdn HB4.out nq).trans (hb5.mono HGW.out))
              have HF5 := Lib.hid (hp5 _ _ _ (Ne.symm HNE.out) (blk_dn HF4.out nq))
              clear hk5 hb5 hp5 r0 r1 r2 r3 rl
              obtain ⟨r0, r1, r2, r3, rl⟩ := cell4 HF5.out
              go_wp2_with fail
              go_roundw
              case rel => exact ⟨k + 1, hle1, by go_num, HB5, HK5⟩
              case measure => have := hle1.out; simp [intOf]; omega
            · have RX := Lib.hid (fun g w hk => RAL.out k hki hE h3 g w hk)
              rw [hE] at HW
              have e0 : Int.tmod (xs k).d 3 = 1 := by rw [Int.tmod_eq_emod_of_nonneg hd0]; exact h3
              have e1 : (xs k).d % 3 = 1 := h3
              clear hE h3 HWE
              clear HZ HWR RNU RAL RVA HCA HCS HSZ HVZ HTX HD0
              generalize wrV (xs k) = V at *
              generalize (xs k).t = t2 at *
              generalize (xs k).n = n2 at *
              generalize (xs k).d = d2 at *
              generalize (xs k).w = w2 at *
              go_wp2_with fail
              refine (HW.out _ (HTA.out _)).mono ?_
              rintro e w4 ⟨rfl, hb⟩
              have HB4 := Lib.hid (below_call (HBA.out _) hb)
              have HK4 := Lib.hid ((HKA.out _).call hb)
              have HF4 := Lib.hid ((Blk.new wr 32 #[.int .u8 d2, .int .i64 n2, .string t2, .int .i64 w2]).call hb)
              clear hb
              obtain ⟨r0, r1, r2, r3, rl⟩ := cell4 HF4.out
              go_wp2_with fail
              go_quiet (fail)
              go_wp2_with fail
              refine (RX.out _ _ (blk_dn HK4.out nq)).mono ?_
              rintro e w5 ⟨rfl, hk5, hb5, hp5⟩
              have HK5 := Lib.hid hk5
              have HB5 := Lib.hid ((bdn HB4.out nq).trans (hb5.mono HGW.out))
              have HF5 := Lib.hid (hp5 _ _ _ (Ne.symm HNE.out) (blk_dn HF4.out nq))
              clear hk5 hb5 hp5 r0 r1 r2 r3 rl
              obtain ⟨r0, r1, r2, r3, rl⟩ := cell4 HF5.out
              go_wp2_with fail
              go_roundw
              case rel => exact ⟨k + 1, hle1, by go_num, HB5, HK5⟩
              case measure => have := hle1.out; simp [intOf]; omega
            · have RX := Lib.hid (fun g w hk => RVA.out k hki hE h3 g w hk)
              rw [hE] at HW
              have e0 : Int.tmod (xs k).d 3 = 2 := by rw [Int.tmod_eq_emod_of_nonneg hd0]; exact h3
              have e1 : (xs k).d % 3 = 2 := h3
              clear hE h3 HWE
              clear HZ HWR RNU RAL RVA HCA HCS HSZ HVZ HTX HD0
              generalize wrV (xs k) = V at *
              generalize (xs k).t = t2 at *
              generalize (xs k).n = n2 at *
              generalize (xs k).d = d2 at *
              generalize (xs k).w = w2 at *
              go_wp2_with fail
              refine (HW.out _ (HTA.out _)).mono ?_
              rintro e w4 ⟨rfl, hb⟩
              have HB4 := Lib.hid (below_call (HBA.out _) hb)
              have HK4 := Lib.hid ((HKA.out _).call hb)
              have HF4 := Lib.hid ((Blk.new wr 32 #[.int .u8 d2, .int .i64 n2, .string t2, .int .i64 w2]).call hb)
              clear hb
              obtain ⟨r0, r1, r2, r3, rl⟩ := cell4 HF4.out
              go_wp2_with fail
              go_quiet (fail)
              go_wp2_with fail
              refine (RX.out _ _ (blk_dn HK4.out nq)).mono ?_
              rintro e w5 ⟨rfl, hk5, hb5, hp5⟩
              have HK5 := Lib.hid hk5
              have HB5 := Lib.hid ((bdn HB4.out nq).trans (hb5.mono HGW.out))
              have HF5 := Lib.hid (hp5 _ _ _ (Ne.symm HNE.out) (blk_dn HF4.out nq))
              clear hk5 hb5 hp5 r0 r1 r2 r3 rl
              obtain ⟨r0, r1, r2, r3, rl⟩ := cell4 HF5.out
              go_wp2_with fail
              go_roundw
              case rel => exact ⟨k + 1, hle1, by go_num, HB5, HK5⟩
              case measure => have := hle1.out; simp [intOf]; omega
          · have HX := Lib.hid (HCS.out k hE)
            have hE1 : ((wrE (xs k)) == 0) = false := by rw [beq_eq_false_iff_ne]; exact hE
            have hE2 : ((wrE (xs k)) != 0) = true := by rw [bne_iff_ne]; exact hE
            clear HZ HWR RNU RAL RVA HCA HCS HSZ HVZ HTX HD0
            generalize wrE (xs k) = E at *
            generalize wrV (xs k) = V at *
            generalize (xs k).t = t2 at *
            generalize (xs k).n = n2 at *
            generalize (xs k).d = d2 at *
            generalize (xs k).w = w2 at *
            go_wp2_with fail
            refine (HW.out _ (HTA.out _)).mono ?_
            rintro e w4 ⟨rfl, hb⟩
            have HB4 := Lib.hid (below_call (HBA.out _) hb)
            have HK4 := Lib.hid ((HKA.out _).call hb)
            have HF4 := Lib.hid ((Blk.new wr 32 #[.int .u8 d2, .int .i64 n2, .string t2, .int .i64 w2]).call hb)
            clear hb
            obtain ⟨r0, r1, r2, r3, rl⟩ := cell4 HF4.out
            go_wp2_with fail
            go_roundw
            case rel => exact ⟨k + 1, hle1, by go_num, HB4, Lib.hid (by rw [HX.out]; exact HK4.out)⟩
            case measure => have := hle1.out; simp [intOf]; omega
        · have hge : ¬ (k : Int) < (i : Int) := by omega
          have hke : k = i := by omega
          subst hke
          have H15 := Lib.hid (fun w => hex_any more (by have := HM300.out; omega) w)
          have H13 := Lib.hid (fun w => unhex_any (bst (heL (ls more) more.size)) (by rw [bst_size, heL_len]; have := HM300.out; omega) w)
          rw [(uh_he more).1, (uh_he more).2] at H13
          generalize bst (heL (ls more) more.size) = HX at *
          have HER := Lib.hid (fun a e g w h => err_any g more a e w h)
          clear HZ HWR RNU RAL RVA HCA HCS HSZ HVZ HTX HD0 hki hk1
          rcases vdich more with ⟨n, hn, h2, hd⟩ | ⟨E, hE⟩
          · obtain ⟨v1, v2, v3⟩ := v_ok more n hn h2 hd
            have hx0 : more.extract 0 more.size = more := ls_ext (by rw [ls_ex, List.drop_zero, Nat.sub_zero, List.take_of_length_le (by rw [← ls_size]; exact Nat.le_refl _)])
            have RV := Lib.hid (fun g w hk => rvar2_ok g 0 n (2 + n) 99 more (more.extract 2 (2 + n)) rfl (by omega) (by omega) (by omega) (by have := HM300.out; omega) (by rw [hx0]; exact hd) (by omega) (by rw [hx0]) w hk)
            rw [Nat.zero_add] at RV
            have H11 := Lib.hid (fun w hT => var_any (more.extract 2 (2 + n)) 2 (by rw [ByteArray.size_extract]; have := HM300.out; omega) w hT)
            rw [v1, v2] at H11
            have HLE := Lib.hid (fun g w h => left_any2 g more (2 + n) 0 (by have := HM300.out; omega) h2 w h)
            have q1 := cut_h more (2 + n) h2
            have hxz : (more.extract 2 (2 + n)).size ≤ 300 := by rw [ByteArray.size_extract]; have := HM300.out; omega
            generalize more.extract 2 (2 + n) = X at *
            generalize more.extract 0 (2 + n) = V at *
            rw [← v3] at RV HLE q1
            have hVm : V.size ≤ more.size := by omega
            obtain ⟨D, hD⟩ : ∃ D : Nat, D = more.size - V.size := ⟨_, rfl⟩
            rw [← hD] at HLE
            have e7 : (more.size : Int) - (V.size : Int) = (D : Int) := by omega
            have c7 : decide ((more.size : Int) < (V.size : Int)) = false := decide_eq_false (by omega)
            have c7b : ¬ more.size < V.size := by omega
            have hVi : (V.size : Int) ≤ 300 := by omega
            clear hn h2 hd v1 v2 v3 hx0 hD
            go_wp2_with fail
            refine (REN.out _ _ hK2.out).mono ?_
            rintro e w5 ⟨rfl, hb⟩
            have HB5 := Lib.hid (below_call hB2.out hb)
            have HK5 := Lib.hid (hK2.out.call hb)
            clear hb
            go_wp2_with fail
            refine (RLE.out _ _ HK5.out).mono ?_
            rintro e w6 ⟨rfl, hb⟩
            have HB6 := Lib.hid (below_call HB5.out hb)
            clear hb
            go_wp2_with fail
            refine (HNR.out _ _).mono ?_
            rintro e w7 ⟨rfl, hw7⟩
            have HK7 := Lib.hid (show Blk w7 w6.heap.size 59 (rd more 0 0) by rw [hw7]; exact Blk.new _ _ _)
            have HB7 := Lib.hid (show Below w.heap.size w w7 by rw [hw7]; exact HB6.out.alloc HB6.out.size _)
            clear hw7
            go_wp2_with fail
            refine (RV.out _ _ HK7.out).mono ?_
            rintro e w8 ⟨rfl, hk8, hb8, -⟩
            have HK8 := Lib.hid hk8
            have HB8 := Lib.hid (HB7.out.trans (hb8.mono HB6.out.size))
            clear hk8 hb8
            go_wp2_with fail
            refine (H11.out _ (HT.out.call HB8.out)).mono ?_
            rintro e w9 ⟨rfl, hb⟩
            have HK9 := Lib.hid (HK8.out.call hb)
            have HB9 := Lib.hid (below_call HB8.out hb)
            clear hb
            go_wp2_with (go_at_call 24; refine (HER.out _ _ _ _ HK9.out).mono ?_; rintro e w10 ⟨rfl, rfl⟩)
            refine (HLE.out _ _ HK9.out).mono ?_
            rintro e w11 ⟨rfl, hb⟩
            have HB11 := Lib.hid (below_call HB9.out hb)
            clear hb
            go_wp2_with fail
            refine (H15.out _).mono ?_
            rintro e w12 ⟨rfl, hb⟩
            have HB12 := Lib.hid (below_call HB11.out hb)
            clear hb
            go_wp2_with fail
            refine (H13.out _).mono ?_
            rintro e w13 ⟨rfl, hb⟩
            have HB13 := Lib.hid (below_call HB12.out hb)
            clear hb
            go_wp2_with fail
            refine (HA.out _ (HT.out.call HB13.out)).mono ?_
            rintro e w14 ⟨rfl, hb⟩
            have HB14 := Lib.hid (below_call HB13.out hb)
            clear hb
            go_wp2_with fail
            go_ret
            exact ⟨rfl, HB14.out⟩
          · have RV := Lib.hid (fun g w hk => rvar2_bad g more E hE (by have := HM300.out; omega) w hk)
            have H11 := Lib.hid (fun w hT => var_any ⟨#[]⟩ 2 (by decide) w hT)
            generalize vaV ⟨#[]⟩ 2 = V at *
            generalize vaE ⟨#[]⟩ 2 = F at *
            have hE1 : (E == 0) = false := by rw [beq_eq_false_iff_ne]; have := vbad_e hE; omega
            clear hE
            go_wp2_with fail
            refine (REN.out _ _ hK2.out).mono ?_
            rintro e w5 ⟨rfl, hb⟩
            have HB5 := Lib.hid (below_call hB2.out hb)
            have HK5 := Lib.hid (hK2.out.call hb)
            clear hb
            go_wp2_with fail
            refine (RLE.out _ _ HK5.out).mono ?_
            rintro e w6 ⟨rfl, hb⟩
            have HB6 := Lib.hid (below_call HB5.out hb)
            clear hb
            go_wp2_with fail
            refine (HNR.out _ _).mono ?_
            rintro e w7 ⟨rfl, hw7⟩
            have HK7 := Lib.hid (show Blk w7 w6.heap.size 59 (rd more 0 0) by rw [hw7]; exact Blk.new _ _ _)
            have HB7 := Lib.hid (show Below w.heap.size w w7 by rw [hw7]; exact HB6.out.alloc HB6.out.size _)
            clear hw7
            go_wp2_with fail
            refine (RV.out _ _ HK7.out).mono ?_
            rintro e w8 ⟨rfl, hk8, hb8⟩
            have HK8 := Lib.hid hk8
            have HB8 := Lib.hid (HB7.out.trans (hb8.mono HB6.out.size))
            clear hk8 hb8
            go_wp2_with fail
            refine (H11.out _ (HT.out.call HB8.out)).mono ?_
            rintro e w9 ⟨rfl, hb⟩
            have HK9 := Lib.hid (HK8.out.call hb)
            have HB9 := Lib.hid (below_call HB8.out hb)
            clear hb
            go_wp2_with (go_at_call 24; refine (HER.out _ _ _ _ HK9.out).mono ?_; rintro e w10 ⟨rfl, rfl⟩)
            refine (H15.out _).mono ?_
            rintro e w12 ⟨rfl, hb⟩
            have HB12 := Lib.hid (below_call HB9.out hb)
            clear hb
            go_wp2_with fail
            refine (H13.out _).mono ?_
            rintro e w13 ⟨rfl, hb⟩
            have HB13 := Lib.hid (below_call HB12.out hb)
            clear hb
            go_wp2_with fail
            refine (HA.out _ (HT.out.call HB13.out)).mono ?_
            rintro e w14 ⟨rfl, hb⟩
            have HB14 := Lib.hid (below_call HB13.out hb)
            clear hb
            go_wp2_with fail
            go_ret
            exact ⟨rfl, HB14.out⟩
end Go.Proofs.YtknipjjmpdnomaaDoor
