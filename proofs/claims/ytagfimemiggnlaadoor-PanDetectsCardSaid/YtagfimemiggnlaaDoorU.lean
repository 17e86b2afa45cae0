/- Strip of the program. -/
import Derived.Test.YtagfimemiggnlaaDoorT
set_option linter.unusedVariables false
set_option linter.unusedSimpArgs false
namespace Go.Proofs.YtagfimemiggnlaaDoor
open Go.Sort Go.ChangeShapes Go.WideShapes Go.ChangeAt Go.RowKit
def Sti (w wr : World) (s : ByteArray) (k : Nat) (l : List UInt8) : Prop := Lib.IsBuilderF 43 5 w.heap.size w.heap.size (Lib.byteCells l) wr ∧ wr.heap[w.heap.size + 1]? = some (.stringIter s k) ∧ Below w.heap.size w wr
theorem Sti.new (w : World) (s : ByteArray) : Sti w ((w.alloc (.cells #[.pointer none, .slice none 0 0] 43)).iter s 0) s 0 [] := by
  refine ⟨(Lib.IsBuilderF.of (Lib.fresh_isBuilder 43 5 w)).alloc _, ?_, ((Below.refl _ w).alloc (Nat.le_refl _) _).alloc (by simp) _⟩
  have := World.iter_heap (w.alloc (.cells #[.pointer none, .slice none 0 0] 43)) s 0
  simpa using this
theorem Sti.next {w wr : World} {s : ByteArray} {k : Nat} {l : List UInt8} (h : Sti w wr s k l) (k' : Nat) : Sti w (wr.iterAt (w.heap.size + 1) s k') s k' l :=
  ⟨h.1.iterAt h.2.1 _, Lib.iterAt_heap wr _ s k k' h.2.1, Lib.below_iterAt h.2.2 (by omega) s _⟩
theorem Sti.rune {w wr : World} {s : ByteArray} {k : Nat} {l : List UInt8} (h : Sti w wr s k l) (c : UInt8) (hc : c.toNat < 128) (hl : l.length ≤ 100000) :
    Calls Tryd.prog 40 #[.pointer (some ⟨w.heap.size, 0, none⟩), .int .i32 c.toNat] wr fun e w' => e = .returned (.tuple #[.int .i64 1, .nilIface]) ∧ Sti w w' s k (l ++ [c]) :=
  (bu_rune w.heap.size w.heap.size _ c.toNat (by omega) (by omega) _ h.1 (by rw [Lib.byteCells_length]; omega) h.2.2.size).mono fun e w' ⟨he, a, b, o⟩ => ⟨he, by
    refine ⟨?_, o.iter h.2.1 (by omega), h.2.2.trans b⟩
    rw [Lib.byteCells_append]
    exact .inr a⟩
theorem Sti.str {w wr : World} {s : ByteArray} {k : Nat} {l : List UInt8} (h : Sti w wr s k l) :
    Calls Tryd.prog 35 #[.pointer (some ⟨w.heap.size, 0, none⟩)] wr fun e w' => e = .returned (.string (bst l)) ∧ Below w.heap.size w w' :=
  (Tryd.Builder_String_any_k w.heap.size w.heap.size l _ h.1 h.2.2.size).mono fun e w' ⟨he, _, b, _⟩ => ⟨he, h.2.2.trans b⟩
theorem Sti.pos {w wr : World} {s : ByteArray} {k : Nat} {l : List UInt8} (h : Sti w wr s k l) : wr.iterPos (w.heap.size + 1) = k := by
  simp only [World.iterPos, h.2.1]
theorem idx_at (s : ByteArray) (i : Nat) (h : i < s.size) (w : World) : (Instr.index 9 (.string s) (.int .i64 i)).run Tryd.prog w = .ok (.int .u8 (s[i]).toNat) w := by
  have g0 : (0 : Int) ≤ i := by omega
  have g1 : (i : Int) < s.size := by omega
  simp [go_sem, g0, g1, h]
set_option maxHeartbeats 4000000 in
theorem strip_any (s : ByteArray) (hs : s.size ≤ 200) (w : World) : Calls Tryd.prog 27 #[.string s] w fun e w' => e = .returned (.tuple #[.string (stV s), .int .i64 (stE s)]) ∧ Below w.heap.size w w' := by
  have RC := Lib.hid (fun w => check_any (bst (stL s s.size)) (by rw [bst_size]; have := stL_len s s.size; omega) w)
  have RI := Lib.hid isdigit_any
  have HE := Lib.hid (@st_chk s)
  have HB := Lib.hid (fun k (h : badB s k = true) (hk : k < s.size) => st_bad (okS_bad h s.size hk))
  have HV := Lib.hid (show stV s = if stE s = 0 then bst (stL s s.size) else ⟨#[]⟩ from rfl)
  have HO := Lib.hid (@okS_succ s)
  have HL : Hid (∀ k, stL s (k + 1) = stL s k ++ if dgI s k = true then [(ls s).getD k 0] else []) := Lib.hid (fun _ => rfl)
  have HG := Lib.hid (getD_at s)
  have HI := Lib.hid (fun k hk => @dgI_in s k hk)
  have HIN := Lib.hid (fun i h => @dgI_neg s i h)
  have HLL := Lib.hid (stL_len s)
  generalize stE s = E at *
  generalize stV s = V at *
  have hsi : (s.size : Int) ≤ 200 := by omega
  have HT0 := Lib.hid (Sti.new w s)
  go_enter Tryd.func27, Tryd.ntmps27
  go_wp2_with fail
  go_loopw [] (fun wr => ∃ (k : Nat), Hid (k ≤ s.size) ∧ Hid (Sti w wr s k (stL s k)) ∧ Hid (okS s k = true)) (fun wr => s.size - wr.iterPos (w.heap.size + 1))
  case atStart => exact ⟨0, Lib.hid (Nat.zero_le _), HT0, Lib.hid rfl⟩
  case round =>
    obtain ⟨k, HK, hT, hO⟩ := hrel
    have HL4 := Lib.hid (show (stL s k).length ≤ 400 by have := HLL.out k; have := HK.out; omega)
    have HBW := Lib.hid hT.out.2.2
    by_cases hlt : k < s.size
    · have hlt' : (k : Int) < (s.size : Int) := by omega
      have HT2 := Lib.hid (hT.out.next (k + 1))
      have HPO := Lib.hid hT.out.pos
      by_cases h128 : s[k].toNat < 128
      · have hnx := fun ty => Lib.run_next_ascii_at (P := Tryd.prog) wr (w.heap.size + 1) s k ty hT.out.2.1 hlt h128
        have hvd := HI.out k hlt
        have hst := HL.out k
        rw [HG.out k hlt] at hst
        cases hd : dgB s[k].toNat
        · have hdn : ¬ (48 ≤ s[k].toNat ∧ s[k].toNat ≤ 57) := fun h => by rw [(dgB_iff _).2 h] at hd; cases hd
          have h0 : dgI s k = false := hvd.trans hd
          rw [h0, if_neg (by simp), List.append_nil] at hst
          have hb1 : badB s k = !(sepB ((ls s).getD k 0) && (dgI s ((k : Int) - 1) && dgI s ((k : Int) + 1))) := by unfold badB; rw [h0]; rfl
          have hse : sepB ((ls s).getD k 0) = ((s[k].toNat == 32) || (s[k].toNat == 45)) := by rw [HG.out k hlt]; rfl
          obtain ⟨v, hv⟩ : ∃ v : Int, (s[k].toNat : Int) = v := ⟨_, rfl⟩
          rw [← hst] at HT2
          by_cases hs1 : v = 32 ∨ v = 45
          · have hsep : sepB ((ls s).getD k 0) = true := by
              rw [hse, Bool.or_eq_true, beq_iff_eq, beq_iff_eq]; omega
            rw [hsep] at hb1
            have c3 : decide (48 ≤ v) = false := decide_eq_false (by omega)
            have c4 : ((v != 32) && (v != 45)) = false := by rcases hs1 with rfl | rfl <;> rfl
            have c5 : (v != 32) = !(v == 32) := rfl
            obtain ⟨b32, hb32⟩ : ∃ b, (v == 32) = b := ⟨_, rfl⟩
            have c6 : b32 = false → (v != 45) = false := fun h => by
              rcases hs1 with rfl | rfl
              · rw [← hb32] at h; cases h
              · rfl
            by_cases hk0 : k = 0
            · have hbad : badB s k = true := by rw [hb1, HIN.out _ (.inl (by omega))]; rfl
              obtain ⟨q1, q2⟩ := HB.out k hbad hlt
              have HQ1 := Lib.hid q1
              have HQ2 := Lib.hid q2
              subst hk0
              have HT2' := Lib.hid HT2.out.2.2
              clear hst hb1 hse hsep h0 q1 q2 hs1 hdn hd hvd hbad h128 c4
              cases b32
              · have c7 := c6 rfl
                clear c6 c5
                have c8 : (v != 32) = true := by rw [bne, hb32]; rfl
                go_wp2_with fail
                exact bodyPost_ret (v := .tuple #[.string ⟨#[]⟩, .int .i64 2]) (by simp [results, Tryd.results27, go_sem]) rfl ⟨by rw [HQ1.out, HQ2.out], HT2'.out⟩
              · clear c6 c5
                have c8 : (v != 32) = false := by rw [bne, hb32]; rfl
                go_wp2_with fail
                exact bodyPost_ret (v := .tuple #[.string ⟨#[]⟩, .int .i64 2]) (by simp [results, Tryd.results27, go_sem]) rfl ⟨by rw [HQ1.out, HQ2.out], HT2'.out⟩
            · have e0 : ((k : Int) == 0) = false := by rw [beq_eq_false_iff_ne]; omega
              have e0n : ¬ k = 0 := hk0
              by_cases hkl : k + 1 = s.size
              · have hbad : badB s k = true := by rw [hb1, HIN.out ((k : Int) + 1) (.inr (by omega))]; simp
                obtain ⟨q1, q2⟩ := HB.out k hbad hlt
                have HQ1 := Lib.hid q1
                have HQ2 := Lib.hid q2
                have HT2' := Lib.hid HT2.out.2.2
                have e1 : ((k : Int) == (s.size : Int) - 1) = true := by rw [beq_iff_eq]; omega
                clear hst hb1 hse hsep h0 q1 q2 hs1 hdn hd hvd hbad h128 c4 hkl
                cases b32
                · have c7 := c6 rfl
                  clear c6 c5
                  have c8 : (v != 32) = true := by rw [bne, hb32]; rfl
                  go_wp2_with fail
                  exact bodyPost_ret (v := .tuple #[.string ⟨#[]⟩, .int .i64 2]) (by simp [results, Tryd.results27, go_sem]) rfl ⟨by rw [HQ1.out, HQ2.out], HT2'.out⟩
                · clear c6 c5
                  have c8 : (v != 32) = false := by rw [bne, hb32]; rfl
                  go_wp2_with fail
                  exact bodyPost_ret (v := .tuple #[.string ⟨#[]⟩, .int .i64 2]) (by simp [results, Tryd.results27, go_sem]) rfl ⟨by rw [HQ1.out, HQ2.out], HT2'.out⟩
              · have e1 : ((k : Int) == (s.size : Int) - 1) = false := by rw [beq_eq_false_iff_ne]; omega
                obtain ⟨j, rfl⟩ : ∃ j, k = j + 1 := ⟨k - 1, by omega⟩
                have hj : j < s.size := by omega
                have hj2 : j + 1 + 1 < s.size := by omega
                have hp1 : dgI s (((j + 1 : Nat) : Int) - 1) = dgB (s[j]).toNat := by
                  rw [show ((j + 1 : Nat) : Int) - 1 = (j : Int) by omega]; exact HI.out j hj
                have hp2 : dgI s (((j + 1 : Nat) : Int) + 1) = dgB (s[j + 1 + 1]).toNat := by
                  rw [show ((j + 1 : Nat) : Int) + 1 = ((j + 1 + 1 : Nat) : Int) by omega]; exact HI.out (j + 1 + 1) hj2
                rw [hp1, hp2] at hb1
                have hx1 : ∀ w : World, (Instr.index 9 (.string s) (.int .i64 (((j + 1 : Nat) : Int) - 1))).run Tryd.prog w = .ok (.int .u8 (s[j]).toNat) w := fun w => by
                  rw [show ((j + 1 : Nat) : Int) - 1 = (j : Int) by omega]
                  exact idx_at s j hj w
                have hx2 : ∀ w : World, (Instr.index 9 (.string s) (.int .i64 (((j + 1 : Nat) : Int) + 1))).run Tryd.prog w = .ok (.int .u8 (s[j + 1 + 1]).toNat) w := fun w => by
                  rw [show ((j + 1 : Nat) : Int) + 1 = ((j + 1 + 1 : Nat) : Int) by omega]
                  exact idx_at s (j + 1 + 1) hj2 w
                have I1 := Lib.hid (RI.out (s[j]).toNat)
                have I2 := Lib.hid (RI.out (s[j + 1 + 1]).toNat)
                generalize (s[j]).toNat = u1 at *
                generalize (s[j + 1 + 1]).toNat = u2 at *
                obtain ⟨kk, hkk⟩ : ∃ kk : Int, ((j + 1 : Nat) : Int) = kk := ⟨_, rfl⟩
                have hk0 : 0 ≤ kk := by omega
                have hk1 : kk < (s.size : Int) := by omega
                rw [hkk] at hx1 hx2 hnx e0 e1 hlt'
                have HKK := Lib.hid hkk
                cases g1 : dgB u1
                · rw [g1] at I1 hb1
                  obtain ⟨q1, q2⟩ := HB.out _ (by rw [hb1]; rfl) hlt
                  have HQ1 := Lib.hid q1
                  have HQ2 := Lib.hid q2
                  have HT2' := Lib.hid HT2.out.2.2
                  clear hst hb1 hse hsep h0 q1 q2 hs1 hdn hd hvd h128 c4 hkl hp1 hp2 hkk g1 e0n hj hj2
                  cases b32
                  · have c7 := c6 rfl
                    clear c6 c5
                    have c8 : (v != 32) = true := by rw [bne, hb32]; rfl
                    go_wp2_with (go_at_call 41; (with_reducible refine (I1.out _).mono ?_); rintro e w' ⟨rfl, rfl⟩)
                    exact bodyPost_ret (v := .tuple #[.string ⟨#[]⟩, .int .i64 2]) (by simp [results, Tryd.results27, go_sem]) rfl ⟨by rw [HQ1.out, HQ2.out], HT2'.out⟩
                  · clear c6 c5
                    have c8 : (v != 32) = false := by rw [bne, hb32]; rfl
                    go_wp2_with (go_at_call 41; (with_reducible refine (I1.out _).mono ?_); rintro e w' ⟨rfl, rfl⟩)
                    exact bodyPost_ret (v := .tuple #[.string ⟨#[]⟩, .int .i64 2]) (by simp [results, Tryd.results27, go_sem]) rfl ⟨by rw [HQ1.out, HQ2.out], HT2'.out⟩
                · rw [g1] at I1 hb1
                  cases g2 : dgB u2
                  · rw [g2] at I2 hb1
                    obtain ⟨q1, q2⟩ := HB.out _ (by rw [hb1]; rfl) hlt
                    have HQ1 := Lib.hid q1
                    have HQ2 := Lib.hid q2
                    have HT2' := Lib.hid HT2.out.2.2
                    clear hst hb1 hse hsep h0 q1 q2 hs1 hdn hd hvd h128 c4 hkl hp1 hp2 hkk g1 g2 e0n hj hj2
                    cases b32
                    · have c7 := c6 rfl
                      clear c6 c5
                      have c8 : (v != 32) = true := by rw [bne, hb32]; rfl
                      go_wp2_with (first | (go_at_call 41; (with_reducible refine (I1.out _).mono ?_); rintro e w' ⟨rfl, rfl⟩) | (go_at_call 41; (with_reducible refine (I2.out _).mono ?_); rintro e w' ⟨rfl, rfl⟩))
                      exact bodyPost_ret (v := .tuple #[.string ⟨#[]⟩, .int .i64 2]) (by simp [results, Tryd.results27, go_sem]) rfl ⟨by rw [HQ1.out, HQ2.out], HT2'.out⟩
                    · clear c6 c5
                      have c8 : (v != 32) = false := by rw [bne, hb32]; rfl
                      go_wp2_with (first | (go_at_call 41; (with_reducible refine (I1.out _).mono ?_); rintro e w' ⟨rfl, rfl⟩) | (go_at_call 41; (with_reducible refine (I2.out _).mono ?_); rintro e w' ⟨rfl, rfl⟩))
                      exact bodyPost_ret (v := .tuple #[.string ⟨#[]⟩, .int .i64 2]) (by simp [results, Tryd.results27, go_sem]) rfl ⟨by rw [HQ1.out, HQ2.out], HT2'.out⟩
                  · rw [g2] at I2 hb1
                    have HOK := Lib.hid (HO.out _ hO.out (by rw [hb1]; rfl))
                    have HLT := Lib.hid hlt
                    clear hst hb1 hse hsep h0 hs1 hdn hd hvd h128 c4 hkl hp1 hp2 hkk g1 g2 e0n hj hj2
                    cases b32
                    · have c7 := c6 rfl
                      clear c6 c5
                      have c8 : (v != 32) = true := by rw [bne, hb32]; rfl
                      go_wp2_with (first | (go_at_call 41; (with_reducible refine (I1.out _).mono ?_); rintro e w' ⟨rfl, rfl⟩) | (go_at_call 41; (with_reducible refine (I2.out _).mono ?_); rintro e w' ⟨rfl, rfl⟩))
                      go_roundw
                      case rel => exact ⟨j + 1 + 1, Lib.hid (by have := HLT.out; omega), HT2, HOK⟩
                      case measure => rw [HT2.out.pos, HPO.out]; have := HLT.out; omega
                    · clear c6 c5
                      have c8 : (v != 32) = false := by rw [bne, hb32]; rfl
                      go_wp2_with (first | (go_at_call 41; (with_reducible refine (I1.out _).mono ?_); rintro e w' ⟨rfl, rfl⟩) | (go_at_call 41; (with_reducible refine (I2.out _).mono ?_); rintro e w' ⟨rfl, rfl⟩))
                      go_roundw
                      case rel => exact ⟨j + 1 + 1, Lib.hid (by have := HLT.out; omega), HT2, HOK⟩
                      case measure => rw [HT2.out.pos, HPO.out]; have := HLT.out; omega
          · have hsep : sepB ((ls s).getD k 0) = false := by
              rw [hse, Bool.or_eq_false_iff, beq_eq_false_iff_ne, beq_eq_false_iff_ne]; omega
            rw [hsep] at hb1
            obtain ⟨q1, q2⟩ := HB.out k (by rw [hb1]; rfl) hlt
            have HQ1 := Lib.hid q1
            have HQ2 := Lib.hid q2
            have HT2' := Lib.hid HT2.out.2.2
            have c1 : (v != 32) = true := by rw [bne_iff_ne]; omega
            have c2 : (v != 45) = true := by rw [bne_iff_ne]; omega
            have c1b : (v == 32) = false := by rw [beq_eq_false_iff_ne]; omega
            have c2b : (v == 45) = false := by rw [beq_eq_false_iff_ne]; omega
            by_cases hlo : v < 48
            · have c3 : decide (48 ≤ v) = false := decide_eq_false (by omega)
              clear hst hb1 hse hsep h0 q1 q2 hs1 hdn hd hvd h128
              go_wp2_with fail
              exact bodyPost_ret (v := .tuple #[.string ⟨#[]⟩, .int .i64 2]) (by simp [results, Tryd.results27, go_sem]) rfl ⟨by rw [HQ1.out, HQ2.out], HT2'.out⟩
            · have c3 : decide (48 ≤ v) = true := decide_eq_true (by omega)
              have c4 : decide (v ≤ 57) = false := decide_eq_false (by omega)
              clear hst hb1 hse hsep h0 q1 q2 hs1 hdn hd hvd h128
              go_wp2_with fail
              exact bodyPost_ret (v := .tuple #[.string ⟨#[]⟩, .int .i64 2]) (by simp [results, Tryd.results27, go_sem]) rfl ⟨by rw [HQ1.out, HQ2.out], HT2'.out⟩
        · have h0 : dgI s k = true := hvd.trans hd
          have hv9 := (dgB_iff _).1 hd
          rw [h0, if_pos rfl] at hst
          have HOK := Lib.hid (HO.out k hO.out (show badB s k = false by unfold badB; rw [h0]; rfl))
          have HRU := Lib.hid (HT2.out.rune s[k] h128 (by have := HL4.out; omega))
          rw [← hst] at HRU
          have c3 : decide (48 ≤ (s[k].toNat : Int)) = true := decide_eq_true (by omega)
          have c4 : decide ((s[k].toNat : Int) ≤ 57) = true := decide_eq_true (by omega)
          clear hst h0 hd hvd h128 hv9
          go_wp2_with fail
          refine (HRU.out).mono ?_
          rintro e w2 ⟨rfl, hb2⟩
          have HB2 := Lib.hid hb2
          clear hb2
          go_wp2_with fail
          go_roundw
          case rel => exact ⟨k + 1, Lib.hid hlt, HB2, HOK⟩
          case measure => rw [HB2.out.pos, HPO.out]; omega
      · have hnx := fun ty => Lib.run_next_any_at (P := Tryd.prog) wr (w.heap.size + 1) s k ty hT.out.2.1 hlt
        have hh := decode_high s k hlt (by omega)
        have HT3 := Lib.hid (hT.out.next (k + (Utf8.decode s k).2)).2.2
        obtain ⟨v, hv⟩ : ∃ v : Int, ((Utf8.decode s k).1 : Int) = v := ⟨_, rfl⟩
        have hd : dgB s[k].toNat = false := by
          cases h : dgB s[k].toNat
          · rfl
          · have := (dgB_iff _).1 h; omega
        have h0 : dgI s k = false := (HI.out k hlt).trans hd
        have hsep : sepB ((ls s).getD k 0) = false := by
          rw [HG.out k hlt]
          unfold sepB
          rw [Bool.or_eq_false_iff, beq_eq_false_iff_ne, beq_eq_false_iff_ne]; omega
        obtain ⟨q1, q2⟩ := HB.out k (by unfold badB; rw [h0, hsep]; rfl) hlt
        have HQ1 := Lib.hid q1
        have HQ2 := Lib.hid q2
        have c3 : decide (48 ≤ v) = true := decide_eq_true (by omega)
        have c4 : decide (v ≤ 57) = false := decide_eq_false (by omega)
        have c1 : (v != 32) = true := by rw [bne_iff_ne]; omega
        have c2 : (v != 45) = true := by rw [bne_iff_ne]; omega
        have c1b : (v == 32) = false := by rw [beq_eq_false_iff_ne]; omega
        have c2b : (v == 45) = false := by rw [beq_eq_false_iff_ne]; omega
        clear q1 q2 hd h0 hsep hh h128
        go_wp2_with fail
        exact bodyPost_ret (v := .tuple #[.string ⟨#[]⟩, .int .i64 2]) (by simp [results, Tryd.results27, go_sem]) rfl ⟨by rw [HQ1.out, HQ2.out], HT3.out⟩
    · obtain rfl : k = s.size := by have := HK.out; omega
      have hnx := fun ty => Lib.run_next_end_at (P := Tryd.prog) wr (w.heap.size + 1) s s.size ty hT.out.2.1 hlt
      have HST := Lib.hid hT.out.str
      have hE := HE.out hO.out
      rw [← hE] at RC
      have hV := HV.out
      generalize bst (stL s s.size) = S at *
      clear hE
      by_cases hz : E = 0
      · have HVV := Lib.hid (show V = S by rw [hV, if_pos hz])
        subst hz
        clear hV
        go_wp2_with fail
        refine (HST.out).mono ?_
        rintro e w1 ⟨rfl, hb1⟩
        have HB1 := Lib.hid hb1
        clear hb1
        go_wp2_with fail
        refine (RC.out _).mono ?_
        rintro e w2 ⟨rfl, hb2⟩
        have HB2 := Lib.hid (below_call HB1.out hb2)
        clear hb2
        go_wp2_with fail
        exact bodyPost_ret (v := .tuple #[.string S, .int .i64 0]) (by simp [results, Tryd.results27, go_sem]) rfl ⟨by rw [HVV.out], HB2.out⟩
      · have HVV := Lib.hid (show V = ⟨#[]⟩ by rw [hV, if_neg hz])
        have c1 : (E != 0) = true := by rw [bne_iff_ne]; exact hz
        have c1b : (E == 0) = false := by rw [beq_eq_false_iff_ne]; exact hz
        clear hV hz
        go_wp2_with fail
        refine (HST.out).mono ?_
        rintro e w1 ⟨rfl, hb1⟩
        have HB1 := Lib.hid hb1
        clear hb1
        go_wp2_with fail
        refine (RC.out _).mono ?_
        rintro e w2 ⟨rfl, hb2⟩
        have HB2 := Lib.hid (below_call HB1.out hb2)
        clear hb2
        go_wp2_with fail
        exact bodyPost_ret (v := .tuple #[.string ⟨#[]⟩, .int .i64 E]) (by simp [results, Tryd.results27, go_sem]) rfl ⟨by rw [HVV.out], HB2.out⟩
end Go.Proofs.YtagfimemiggnlaaDoor
