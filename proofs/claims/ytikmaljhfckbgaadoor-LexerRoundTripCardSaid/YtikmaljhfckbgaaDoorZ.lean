/- The walk of LexerRoundTrip. -/
import Derived.Test.YtikmaljhfckbgaaDoorY
set_option linter.unusedVariables false
set_option linter.unusedSimpArgs false
namespace Go.Proofs.YtikmaljhfckbgaaDoor
open Go.Sort Go.ChangeShapes Go.WideShapes Go.ChangeAt Go.RowKit
set_option maxHeartbeats 2000000 in
set_option maxRecDepth 100000 in
theorem rtLong (s : ByteArray) (w : World) (h : decide ((1900 : Int) < (s.size : Int)) = true) (hT : LT w) : Calls Tryd.prog 7 #[.string s] w fun e w' => e = .returned (.bool true) ∧ Below w.heap.size w w' := by
  have HT := Lib.hid hT
  have HAW := Lib.hid awake_any
  clear hT
  go_enter Tryd.func7, Tryd.ntmps7
  go_wp2_with fail
  refine (HAW.out _ (HT.out.call (Below.refl w.heap.size w))).mono ?_
  rintro e wz ⟨rfl, hbz⟩
  have BZ := Lib.hid (below_call (Below.refl w.heap.size w) hbz)
  clear hbz
  go_wp2_with fail
  go_ret
  exact ⟨rfl, BZ.out⟩
set_option maxHeartbeats 2000000 in
set_option maxRecDepth 100000 in
theorem rtBad (s : ByteArray) (w : World) (h : decide ((1900 : Int) < (s.size : Int)) = false) (hT : LT w) (E p : Int) (hE : (E == 0) = false) (A : Hid (∀ w, LT w → Calls Tryd.prog 10 #[.string s] w (SPost w.heap.size w ⟨[], E, p⟩))) : Calls Tryd.prog 7 #[.string s] w fun e w' => e = .returned (.bool true) ∧ Below w.heap.size w w' := by
  have HT := Lib.hid hT
  have HAW := Lib.hid awake_any
  clear hT
  have hE2 : (E != 0) = true := by rw [bne, hE]; rfl
  go_enter Tryd.func7, Tryd.ntmps7
  go_wp2_with fail
  refine (A.out _ HT.out).mono ?_
  rintro e w1 ⟨v1, rfl, o1, b1⟩
  obtain ⟨a, ca, hv, -, -, -⟩ := lxO_of (lxAt_of rfl o1)
  dsimp only [List.length_nil] at hv
  subst hv
  have B1 := Lib.hid b1
  clear o1 b1
  go_wp2_with fail
  refine (HAW.out _ (HT.out.call B1.out)).mono ?_
  rintro e wz ⟨rfl, hbz⟩
  have BZ := Lib.hid (below_call B1.out hbz)
  clear hbz
  go_wp2_with fail
  go_ret
  exact ⟨rfl, BZ.out⟩
theorem key_at {l m : List Lx} (h : m.map key = l.map key) (i : Nat) (h1 : i < l.length) (h2 : i < m.length) : m[i].k = l[i].k ∧ m[i].t = l[i].t ∧ m[i].v = l[i].v := by
  have e : (m.map key)[i]'(by rw [List.length_map]; exact h2) = (l.map key)[i]'(by rw [List.length_map]; exact h1) := by congr 1
  rw [List.getElem_map, List.getElem_map] at e
  unfold key at e
  injection e with k1 e
  injection e with k2 k3
  exact ⟨k1, k2, k3⟩
set_option maxHeartbeats 2000000 in
set_option maxRecDepth 100000 in
theorem rtGood (s S : ByteArray) (w : World) (h : decide ((1900 : Int) < (s.size : Int)) = false) (hT : LT w) (l m : List Lx) (p q : Int) (n : Nat) (hn : l.length = n) (hm : m.length = n) (h0 : 0 < n) (hmax : n ≤ 5000) (HK : Hid (m.map key = l.map key))
    (A : Hid (∀ w, LT w → Calls Tryd.prog 10 #[.string s] w (SPost w.heap.size w ⟨l, 0, p⟩)))
    (P : Hid (∀ a cap w, n ≤ cap → cap ≤ maxLen → LxO w a l → LT w → Calls Tryd.prog 13 #[.slice a n cap] w fun e w' => e = .returned (.string S) ∧ Below w.heap.size w w'))
    (B : Hid (∀ w, LT w → Calls Tryd.prog 10 #[.string S] w (SPost w.heap.size w ⟨m, 0, q⟩)))
    (Q : Hid (∀ a cap w, n ≤ cap → cap ≤ maxLen → LxO w a m → LT w → Calls Tryd.prog 13 #[.slice a n cap] w fun e w' => e = .returned (.string S) ∧ Below w.heap.size w w')) : Calls Tryd.prog 7 #[.string s] w fun e w' => e = .returned (.bool true) ∧ Below w.heap.size w w' := by
  have HT := Lib.hid hT
  have HAW := Lib.hid awake_any
  clear hT
  have HN := Lib.hid hn
  have HM := Lib.hid hm
  have hni : (n : Int) ≤ 5000 := by omega
  have hz : ((n : Int) == 0) = false := by rw [beq_eq_false_iff_ne]; omega
  have hz2 : ((n : Int) != (n : Int)) = false := by simp
  have hS : (S.toList == S.toList) = true := beq_self_eq_true _
  clear hn hm
  go_enter Tryd.func7, Tryd.ntmps7
  go_wp2_with fail
  refine (A.out _ HT.out).mono ?_
  rintro e w1 ⟨v1, rfl, o1, b1⟩
  obtain ⟨a, ca, hv, ha1, ha2, L1⟩ := lxO_of (lxAt_of rfl o1)
  dsimp only at hv ha1
  rw [HN.out] at hv ha1
  subst hv
  have B1 := Lib.hid b1
  have HL1 := Lib.hid L1
  have HA1 := Lib.hid ha1
  have HA2 := Lib.hid ha2
  clear o1 b1 L1 ha1 ha2
  go_wp2_with fail
  refine (P.out _ _ _ HA1.out HA2.out HL1.out (HT.out.call B1.out)).mono ?_
  rintro e w2 ⟨rfl, b2⟩
  have B2 := Lib.hid (below_call B1.out b2)
  have HL2 := Lib.hid (HL1.out.call b2)
  clear b2
  go_wp2_with fail
  refine (B.out _ (HT.out.call B2.out)).mono ?_
  rintro e w3 ⟨v2, rfl, o2, b3⟩
  obtain ⟨b, cb, hv, hb1, hb2, L3⟩ := lxO_of (lxAt_of rfl o2)
  dsimp only at hv hb1
  rw [HM.out] at hv hb1
  subst hv
  have B3 := Lib.hid (below_call B2.out b3)
  have HLa := Lib.hid (HL2.out.call b3)
  have HLb := Lib.hid L3
  have HB1 := Lib.hid hb1
  have HB2 := Lib.hid hb2
  clear o2 b3 L3 hb1 hb2
  have ia : (n : Int) ≤ (ca : Int) := by have := HA1.out; omega
  have ib : (n : Int) ≤ (cb : Int) := by have := HB1.out; omega
  go_wp2_with fail
  go_loopw [9] (fun x wr => ∃ (k c : Nat), k ≤ n ∧ x = .int .i64 k ∧ Hid (wr = w3.drewN c)) (fun x _ => n - (intOf x).toNat)
  case atStart => exact ⟨0, 0, Nat.zero_le _, rfl, Lib.hid rfl⟩
  case round =>
    obtain ⟨k, c, hk, rfl, hw⟩ := hrel
    by_cases hlt : k < n
    · have hlt' : (k : Int) < (n : Int) := by omega
      have hl1 : k < l.length := by rw [HN.out]; exact hlt
      have hl2 : k < m.length := by rw [HM.out]; exact hlt
      obtain ⟨g, o1, rfl, hg, c0, c1, c2, -⟩ := HLa.out k hl1
      obtain ⟨r, o2, rfl, hr, d0, d1, d2, -⟩ := HLb.out k hl2
      obtain ⟨e1, e2, e3⟩ := key_at HK.out k hl1 hl2
      rw [e1] at d0
      rw [e2] at d1
      rw [e3] at d2
      clear e1 e2 e3
      generalize l[k].k = K at *
      generalize l[k].t = T at *
      generalize l[k].v = V at *
      have s0 : wr.cell? ⟨g, o1 + k * 4, none⟩ = some (.int .i64 K) := by rw [hw.out]; exact c0
      have s1 : wr.cell? ⟨g, o1 + k * 4 + 1, none⟩ = some (.string T) := by rw [hw.out]; exact c1
      have s2 : wr.cell? ⟨g, o1 + k * 4 + 2, none⟩ = some (.int .i64 V) := by rw [hw.out]; exact c2
      have t0 : wr.cell? ⟨r, o2 + k * 4, none⟩ = some (.int .i64 K) := by rw [hw.out]; exact d0
      have t1 : wr.cell? ⟨r, o2 + k * 4 + 1, none⟩ = some (.string T) := by rw [hw.out]; exact d1
      have t2 : wr.cell? ⟨r, o2 + k * 4 + 2, none⟩ = some (.int .i64 V) := by rw [hw.out]; exact d2
      have n0 : (K != K) = false := by simp
      have n1 : (T.toList != T.toList) = false := by simp
      have n2 : (V != V) = false := by simp
      clear c0 c1 c2 d0 d1 d2 hg hr
      go_wp2_with fail
      go_quiet (fail)
      go_wp2_with fail
      go_roundw
      case rel => exact ⟨k + 1, c + nq, by omega, by go_num, Lib.hid (by rw [hw.out]; exact World.drewN_drewN _ _ _)⟩
      case measure => simp [intOf]; omega
    · have hge : ¬ (k : Int) < (n : Int) := by omega
      have B4 := Lib.hid (show Below w.heap.size w wr by rw [hw.out]; exact bdn B3.out c)
      have HLc := Lib.hid (show LxO wr a l by rw [hw.out]; exact HLa.out)
      have HLd := Lib.hid (show LxO wr b m by rw [hw.out]; exact HLb.out)
      clear hlt hw
      go_wp2_with fail
      refine (Q.out _ _ _ HB1.out HB2.out HLd.out (HT.out.call B4.out)).mono ?_
      rintro e w5 ⟨rfl, b5⟩
      have B5 := Lib.hid (below_call B4.out b5)
      have HLe := Lib.hid (HLc.out.call b5)
      clear b5
      go_wp2_with fail
      refine (P.out _ _ _ HA1.out HA2.out HLe.out (HT.out.call B5.out)).mono ?_
      rintro e w6 ⟨rfl, b6⟩
      have B6 := Lib.hid (below_call B5.out b6)
      clear b6
      go_wp2_with fail
      refine (HAW.out _ (HT.out.call B6.out)).mono ?_
      rintro e wz ⟨rfl, hbz⟩
      have BZ := Lib.hid (below_call B6.out hbz)
      clear hbz
      go_wp2_with fail
      go_ret
      exact ⟨rfl, BZ.out⟩
theorem lexerRoundTrip.walk (s : ByteArray) (w : World) (hs : s.size ≤ maxLen) (hT : LT w) : Calls Tryd.prog 7 #[.string s] w fun e w' => e = .returned (.bool true) ∧ Below w.heap.size w w' := by
  by_cases h : 1900 < s.size
  · exact rtLong s w (decide_eq_true (by omega)) hT
  have hd : decide ((1900 : Int) < (s.size : Int)) = false := decide_eq_false (by omega)
  cases he : ((scan s).e == 0)
  · have hl := scan_bad s he
    refine rtBad s w hd hT (scan s).e (scan s).p he (Lib.hid fun w hT => ?_)
    have := scan_any s w hT
    rw [show scan s = ⟨[], (scan s).e, (scan s).p⟩ by rw [← hl]] at this
    exact this
  · have he0 : (scan s).e = 0 := by simpa using he
    obtain ⟨k1, k2, k3, k4, k5⟩ := round_trip s (by omega) he0
    have hlen : (scan (prt (scan s).l)).l.length = (scan s).l.length := by have := congrArg List.length k5; rwa [List.length_map, List.length_map] at this
    refine rtGood s (prt (scan s).l) w hd hT (scan s).l (scan (prt (scan s).l)).l (scan s).p (scan (prt (scan s).l)).p _ rfl hlen (List.length_pos_iff.2 k2) k1.1 (Lib.hid k5)
      (Lib.hid fun w hT => ?_) (Lib.hid fun a cap w h1 h2 h3 hT => print_any a cap _ h1 h2 k1 w h3 hT) (Lib.hid fun w hT => ?_) (Lib.hid fun a cap w h1 h2 h3 hT => ?_)
    · have := scan_any s w hT
      rw [show scan s = ⟨(scan s).l, 0, (scan s).p⟩ by rw [← he0]] at this
      exact this
    · have := scan_any (prt (scan s).l) w hT
      rw [show scan (prt (scan s).l) = ⟨(scan (prt (scan s).l)).l, 0, (scan (prt (scan s).l)).p⟩ by rw [← k3]] at this
      exact this
    · have := print_any a cap _ (by rw [hlen]; exact h1) h2 k4 w h3 hT
      rw [hlen, key_prt _ _ k5] at this
      exact this
end Go.Proofs.YtikmaljhfckbgaaDoor
