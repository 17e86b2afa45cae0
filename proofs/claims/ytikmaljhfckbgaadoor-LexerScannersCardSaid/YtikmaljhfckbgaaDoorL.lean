/- Scan of the program. -/
import Derived.Test.YtikmaljhfckbgaaDoorJ
import Derived.Laws.AppendOwn
set_option linter.unusedVariables false
set_option linter.unusedSimpArgs false
namespace Go.Proofs.YtikmaljhfckbgaaDoor
open Go.Sort Go.ChangeShapes Go.WideShapes Go.ChangeAt Go.RowKit
theorem info30 : (Tryd.prog.info? 30).map (fun i => (i.zero, i.size, i.bytes)) = some (some (.agg #[.int .i64 0, .string ByteArray.empty, .int .i64 0, .int .i64 0]), 4, 40) := by kernel_rfl
theorem own_below {wr w1 : World} {B : Nat} {t : TypeId} {z n : Nat} {v : Value} {xs : List Value} (h : wr.ownsRow B t z v n xs) (hb : Below wr.heap.size wr w1) : w1.ownsRow B t z v n xs := by
  obtain ⟨hl, h⟩ := h
  refine ⟨hl, ?_⟩
  rcases h with hn | ⟨g, cap, cur, hv, hB, hg, r⟩
  · exact .inl hn
  · exact .inr ⟨g, cap, cur, hv, hB, (hb.block g (Array.getElem?_eq_some_iff.1 hg).1).trans hg, r⟩
/-- the result of a scan, with its lexemes in a row of the call's own -/
def SPost (B : Nat) (w : World) (R : Sc) (e : Ending) (w' : World) : Prop :=
  ∃ v, e = .returned (.tuple #[v, .int .i64 R.e, .int .i64 R.p]) ∧ w'.ownsRow B 30 4 v R.l.length (lxs R.l) ∧ Below B w w'
theorem scn_bad {f : Nat} {c : UInt8} {r : List UInt8} {p : Nat} {acc : List Lx} {e : Int} (h : stp (c :: r) = .bad e) : scn (f + 1) (c :: r) p acc = ⟨[], e, p⟩ := by
  show (match stp (c :: r) with | .bad e => (⟨[], e, p⟩ : Sc) | .skip n => scn f ((c :: r).drop n) (p + n) acc | .tok n k t v => scn f ((c :: r).drop n) (p + n) (acc ++ [(⟨k, bst t, v, p⟩ : Lx)])) = _
  rw [h]
theorem scn_skip {f : Nat} {c : UInt8} {r : List UInt8} {p n : Nat} {acc : List Lx} (h : stp (c :: r) = .skip n) : scn (f + 1) (c :: r) p acc = scn f ((c :: r).drop n) (p + n) acc := by
  show (match stp (c :: r) with | .bad e => (⟨[], e, p⟩ : Sc) | .skip n => scn f ((c :: r).drop n) (p + n) acc | .tok n k t v => scn f ((c :: r).drop n) (p + n) (acc ++ [(⟨k, bst t, v, p⟩ : Lx)])) = _
  rw [h]
theorem scn_tok {f : Nat} {c : UInt8} {r : List UInt8} {p n : Nat} {k v : Int} {t : List UInt8} {acc : List Lx} (h : stp (c :: r) = .tok n k t v) : scn (f + 1) (c :: r) p acc = scn f ((c :: r).drop n) (p + n) (acc ++ [⟨k, bst t, v, p⟩]) := by
  show (match stp (c :: r) with | .bad e => (⟨[], e, p⟩ : Sc) | .skip n => scn f ((c :: r).drop n) (p + n) acc | .tok n k t v => scn f ((c :: r).drop n) (p + n) (acc ++ [(⟨k, bst t, v, p⟩ : Lx)])) = _
  rw [h]
theorem scn_nil {f p : Nat} {acc : List Lx} : scn f [] p acc = ⟨acc ++ [⟨0, ⟨#[]⟩, 0, p⟩], 0, 0⟩ := by cases f <;> rfl
theorem own_next {w wr w1 : World} {v v' : Value} {n g : Nat} {xs ys : List Value} {o : Obj} (hnx : Below w.heap.size w wr) (hown : wr.ownsRow w.heap.size 30 4 v n xs) (hgrow : (wr.alloc o).grownBy w1 v.ownBlock) : Below w.heap.size w w1 :=
  (hnx.alloc hnx.size o).grown hgrow (by simp; have := hnx.size; omega) (fun j hj => (hown.lt j hj).1)
set_option maxHeartbeats 2000000 in
set_option maxRecDepth 100000 in
theorem scan_long (s : ByteArray) (h : decide ((4000 : Int) < (s.size : Int)) = true) (w : World) (R : Sc) (hR : Hid (R = ⟨[], 3, 0⟩)) : Calls Tryd.prog 10 #[.string s] w (SPost w.heap.size w R) := by
  have P := Lib.hid (show SPost w.heap.size w R (.returned (.tuple #[.slice none 0 0, .int .i64 3, .int .i64 0])) w from ⟨_, by rw [hR.out], by rw [hR.out]; exact World.ownsRow_nil _ _ _ _, Below.refl _ _⟩)
  go_enter Tryd.func10, Tryd.ntmps10
  go_wp2_with fail
  go_ret3
  exact P.out
set_option maxHeartbeats 2000000 in
set_option maxRecDepth 100000 in
theorem scan_short (s : ByteArray) (h : decide ((4000 : Int) < (s.size : Int)) = false) (hs : s.size ≤ 4000) (w : World) (hT : LT w) (R : Sc) (hR : Hid (scn s.size (ls s) 0 [] = R)) : Calls Tryd.prog 10 #[.string s] w (SPost w.heap.size w R) := by
  obtain ⟨i0, hi, hz0, hz1, hz2⟩ := info_parts info30
  have HT := Lib.hid hT
  have HX := Lib.hid lexeme_any
  have hsi : (s.size : Int) ≤ 4000 := by omega
  have HSZ := Lib.hid hs
  clear hT
  go_enter Tryd.func10, Tryd.ntmps10
  go_wp2_with fail
  go_loopw [5, 6] (fun v x wr => ∃ (p f : Nat) (acc : List Lx), Hid (p ≤ s.size) ∧ x = .int .i64 p ∧ Hid (wr.ownsRow w.heap.size 30 4 v acc.length (lxs acc)) ∧ Hid (Below w.heap.size w wr) ∧ Hid (s.size ≤ p + f) ∧ Hid (acc.length ≤ p) ∧ Hid (scn f ((ls s).drop p) p acc = R)) (fun _ x _ => s.size - (intOf x).toNat)
  case atStart => exact ⟨0, s.size, [], Lib.hid (Nat.zero_le _), rfl, Lib.hid (World.ownsRow_nil _ _ _ _), Lib.hid (Below.refl _ _), Lib.hid (by omega), Lib.hid (Nat.le_refl _), hR⟩
  case round =>
    obtain ⟨p, f, acc, hp, rfl, hown, hB, hf, ha, hR⟩ := hrel
    have hp1 : (p : Int) ≤ (s.size : Int) := by have := hp.out; omega
    have hp2 := hp.out
    by_cases hlt : p < s.size
    · have hlt' : (p : Int) < (s.size : Int) := by omega
      have hL : (ls s).drop p = s[p] :: (ls s).drop (p + 1) := drop_at s p hlt
      have hG := stp_good s[p] ((ls s).drop (p + 1))
      have hlen : ((ls s).drop (p + 1)).length + 1 = s.size - p := by rw [List.length_drop, ← ls_size]; omega
      rw [hlen, ← hL] at hG
      have hXX := HX.out (s.extract p s.size) (by rw [ex_sz]; omega) (by rw [ex_sz]; omega) wr (HT.out.call hB.out)
      have hex : ls (s.extract p s.size) = (ls s).drop p := by rw [ls_ex, List.take_of_length_le (by rw [List.length_drop, ← ls_size]; exact Nat.le_refl _)]
      rw [hex] at hXX
      obtain ⟨f, rfl⟩ : ∃ f', f = f' + 1 := ⟨f - 1, by have := hf.out; omega⟩
      have z1 := cut_l s p hp2
      have HF2 := hf.out
      have HA2 := ha.out
      cases hS : stp ((ls s).drop p) with
      | bad E =>
        have hRR := hR.out
        rw [hL] at hRR hS
        rw [scn_bad hS] at hRR
        rw [hL, hS] at hXX hG
        have e2 : (St.bad E).r = .tuple #[.int .i64 0, lx 0 ⟨#[]⟩ 0 0, .int .i64 E] := rfl
        rw [e2] at hXX
        have HXX := Lib.hid hXX
        clear e2
        have hE : (E == 0) = false := by rw [beq_eq_false_iff_ne]; rcases hG with h | h | h <;> omega
        have hE2 : (E != 0) = true := by rw [bne, hE]; rfl
        have HRR := Lib.hid hRR
        clear hXX hRR hS hG hL hlen hex HF2 HA2
        go_wp2_with fail
        refine HXX.out.mono ?_
        rintro e w1 ⟨rfl, hb⟩
        have HB1 := Lib.hid (below_call hB.out hb)
        clear hb
        go_wp2_with fail
        go_ret3
        exact ⟨_, by rw [← HRR.out] <;> rfl, by rw [← HRR.out]; exact World.ownsRow_nil _ _ _ _, by first | exact HB1.out | exact HB1.out.alloc HB1.out.size _⟩
      | skip n =>
        have hRR := hR.out
        rw [hL] at hRR hS
        rw [scn_skip hS, ← hL, List.drop_drop] at hRR
        rw [hL, hS] at hXX hG
        obtain ⟨g1, g2⟩ : 1 ≤ n ∧ n ≤ s.size - p := hG
        have e2 : (St.skip n).r = .tuple #[.int .i64 (n : Int), lx 0 ⟨#[]⟩ 0 0, .int .i64 0] := rfl
        rw [e2] at hXX
        have HXX := Lib.hid hXX
        clear e2
        have hn : (n : Int) ≤ 4000 := by omega
        have hn0 : (1 : Int) ≤ (n : Int) := by omega
        have HRR := Lib.hid hRR
        clear hXX hRR hS hL hlen hex
        go_wp2_with fail
        refine HXX.out.mono ?_
        rintro e w1 ⟨rfl, hb⟩
        have HB1 := Lib.hid (below_call hB.out hb)
        have HO1 := Lib.hid ((own_below hown.out hb).alloc (.cells #[.int .i64 0, .string ⟨#[]⟩, .int .i64 0, .int .i64 0] 30))
        clear hb
        go_wp2_with fail
        go_roundw
        case rel => exact ⟨p + n, f, acc, Lib.hid (by omega), by go_num, HO1, Lib.hid (HB1.out.alloc HB1.out.size _), Lib.hid (by omega), Lib.hid (by omega), HRR⟩
        case measure => simp [intOf]; omega
      | tok n k t v =>
        have hRR := hR.out
        rw [hL] at hRR hS
        rw [scn_tok hS, ← hL, List.drop_drop] at hRR
        rw [hL, hS] at hXX hG
        obtain ⟨g1, g2, g3, g4⟩ : 1 ≤ n ∧ n ≤ s.size - p ∧ 1 ≤ k ∧ k ≤ 4 := hG
        have hn : (n : Int) ≤ 4000 := by omega
        have hn0 : (1 : Int) ≤ (n : Int) := by omega
        have hk : (k == 0) = false := by rw [beq_eq_false_iff_ne]; omega
        have hk2 : (k != 0) = true := by rw [bne, hk]; rfl
        obtain ⟨T, hT⟩ : ∃ T, bst t = T := ⟨_, rfl⟩
        have e2 : (St.tok n k t v).r = .tuple #[.int .i64 (n : Int), lx k T v 0, .int .i64 0] := by rw [← hT]; rfl
        rw [e2] at hXX
        rw [hT] at hRR
        have HXX := Lib.hid hXX
        have HRR := Lib.hid hRR
        clear hXX hRR hS hL hlen hex hT e2 g3 g4
        go_wp2_with fail
        refine HXX.out.mono ?_
        rintro e w1 ⟨rfl, hb⟩
        have HB1 := Lib.hid (below_call hB.out hb)
        have HO1 := Lib.hid (own_below hown.out hb)
        clear hb
        go_wp2_with (at_builtin; refine wpList_append_own _ rfl _ _ 23 rfl w.heap.size 30 i0 (.agg #[.int .i64 0, .string ByteArray.empty, .int .i64 0, .int .i64 0]) 4 40 Tryd.underlying23 hi hz0 hz1 hz2 rfl (by decide) _ _ _ rfl ((HO1.out.alloc _).alloc _) _ 1 1 [.int .i64 k, .string T, .int .i64 v, .int .i64 (p : Int)] rfl rfl ?c1 ?c2 ?c3 ?c4 ?c5 ?_)
        case c1 =>
          intro j u hj
          match j, hj with
          | 0, hj => simp at hj; subst hj; simp [Addr.add]
          | 1, hj => simp at hj; subst hj; simp [Addr.add]
          | 2, hj => simp at hj; subst hj; simp [Addr.add]
          | 3, hj => simp at hj; subst hj; simp [Addr.add]
        case c2 =>
          intro u hu
          simp only [List.mem_cons, List.not_mem_nil, or_false] at hu
          rcases hu with rfl | rfl | rfl | rfl <;> rfl
        case c3 => unfold maxLen; omega
        case c4 => omega
        case c5 => have := HB1.out.size; simp; omega
        intro v' w2 hown' hgrow _
        rw [← lxs_snoc acc ⟨k, T, v, (p : Int)⟩] at hown'
        have HO2 := Lib.hid hown'
        have HB2 := Lib.hid (((HB1.out.alloc HB1.out.size _).alloc (by have := HB1.out.size; simp; omega) _).grown hgrow (by have := HB1.out.size; simp; omega) (fun j hj => (HO1.out.lt j hj).1))
        clear hown' hgrow
        go_wp2_with fail
        go_roundw
        case rel => exact ⟨p + n, f, acc ++ [⟨k, T, v, (p : Int)⟩], Lib.hid (by omega), by go_num, Lib.hid (by rw [List.length_append]; exact HO2.out), HB2, Lib.hid (by omega), Lib.hid (by rw [List.length_append]; simp; omega), HRR⟩
        case measure => simp [intOf]; omega
    · have hge : ¬ (p : Int) < (s.size : Int) := by omega
      obtain rfl : p = s.size := by omega
      have hRR := hR.out
      rw [List.drop_of_length_le (by rw [← ls_size]; exact Nat.le_refl _), scn_nil] at hRR
      have HRR := Lib.hid hRR
      have HA2 := ha.out
      have HO1 := hown
      have HB1 := hB
      clear hRR hlt
      go_wp2_with (at_builtin; refine wpList_append_own _ rfl _ _ 23 rfl w.heap.size 30 i0 (.agg #[.int .i64 0, .string ByteArray.empty, .int .i64 0, .int .i64 0]) 4 40 Tryd.underlying23 hi hz0 hz1 hz2 rfl (by decide) _ _ _ rfl (HO1.out.alloc _) _ 1 1 [.int .i64 0, .string ⟨#[]⟩, .int .i64 0, .int .i64 (s.size : Int)] rfl rfl ?d1 ?d2 ?d3 ?d4 ?d5 ?_)
      case d2 => exact ⟨rfl, rfl, rfl, rfl⟩
      case d3 => unfold maxLen; omega
      case d4 => omega
      case d5 => have := HB1.out.size; simp; omega
      intro v' w2 hown' hgrow _
      rw [← lxs_snoc acc ⟨0, ⟨#[]⟩, 0, (s.size : Int)⟩] at hown'
      have HO2 := Lib.hid hown'
      have HB2 := Lib.hid ((HB1.out.alloc HB1.out.size _).grown hgrow (by have := HB1.out.size; simp; omega) (fun j hj => (HO1.out.lt j hj).1))
      clear hown' hgrow
      go_wp2_with fail
      go_ret3
      exact ⟨_, by rw [← HRR.out] <;> rfl, by rw [← HRR.out, List.length_append]; exact HO2.out, HB2.out⟩
end Go.Proofs.YtikmaljhfckbgaaDoor
