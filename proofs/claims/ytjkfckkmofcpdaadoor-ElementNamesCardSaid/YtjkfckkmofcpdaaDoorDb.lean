/- ByName. -/
import Derived.Test.YtjkfckkmofcpdaaDoorDa
set_option linter.unusedVariables false
set_option linter.unusedSimpArgs false
namespace Go.Proofs.YtjkfckkmofcpdaaDoor
open Go.Sort Go.ChangeShapes Go.WideShapes Go.ChangeAt Go.RowKit
theorem dload_T {T : Array Value} (h : T = dtab.toArray) : T = dtab.toArray := h
set_option maxHeartbeats 4000000 in
set_option maxRecDepth 20000 in
theorem byname_any (s : ByteArray) (w : World) (hX : DT w) : Calls Tryd.prog 11 #[.string s] w fun e w' => e = .returned (.tuple #[.int .i64 (dn (fmI s)), .bool (decide (fmI s < 23))]) ∧ Below w.heap.size w w' := by
  have HI := Lib.hid dind
  obtain ⟨T, hT⟩ : ∃ T, T = dtab.toArray := ⟨_, rfl⟩
  obtain ⟨V, hV⟩ : ∃ V, V = fmI s := ⟨_, rfl⟩
  rw [← hT] at HI
  rw [← hV]
  have HV := Lib.hid hV
  have HX := Lib.hid hX
  have HT := Lib.hid hT
  clear hX hT hV
  go_enter Tryd.func11, Tryd.ntmps11
  go_wp2_with (refine wpList_load_mid rfl 47 (Operand.global 0) rfl 0 0 rfl dtab _ HX.out Tryd.underlying47 (by decide) (by kernel_rfl) ?_)
  rw [← HT.out]
  go_wp2_with fail
  go_loopg [7] 23 (fun g i wr => Hid (Below w.heap.size w wr) ∧ ∃ k : Nat, g + k = 23 ∧ i = .int .i64 k ∧ Hid (V = fm s g k))
  case atStart => exact ⟨Lib.hid (Below.refl _ _), 0, rfl, rfl, HV⟩
  case round =>
    obtain ⟨HB, k, hk, rfl, hv⟩ := hrel
    have HK := Lib.hid hk
    by_cases hlt : k < 23
    · have h1 : (k : Int) < 23 := by omega
      have hi := fun w => HI.out k hlt w
      obtain ⟨f, rfl⟩ : ∃ f, gk = f + 1 := ⟨gk - 1, by omega⟩
      have hv1 := hv.out
      unfold fm at hv1
      by_cases he : dnm k = s
      · rw [if_pos he] at hv1
        have HV1 := Lib.hid hv1
        have HLT := Lib.hid hlt
        have hc : ((dnm k).toList == s.toList) = true := by rw [he]; exact beq_self_eq_true _
        have HS := Lib.hid (show dn V = dn k by rw [hv1])
        dsimp only [spA] at hi
        generalize dn k = a0 at *
        generalize dnm k = a1 at *
        generalize dk k = a2 at *
        generalize dl k = a3 at *
        generalize dv k = a4 at *
        clear hk he hv1 hlt
        go_wp2_with fail
        refine bodyPost_ret (v := .tuple #[.int .i64 a0, .bool true]) ?c1 rfl ⟨?c2, ?c3⟩
        case c1 => simp [results, Tryd.results11, go_sem]
        case c2 => rw [HS.out, HV1.out, decide_eq_true HLT.out]
        case c3 => exact HB.out.alloc HB.out.size _
      · rw [if_neg he] at hv1
        have HV1 := Lib.hid hv1
        have hc : ((dnm k).toList == s.toList) = false := toList_ne he
        dsimp only [spA] at hi
        generalize dn k = a0 at *
        generalize dnm k = a1 at *
        generalize dk k = a2 at *
        generalize dl k = a3 at *
        generalize dv k = a4 at *
        clear hk he hv1 hlt
        go_wp2_with fail
        go_roundg f
        case measure => omega
        case rel => exact ⟨Lib.hid (HB.out.alloc HB.out.size _), k + 1, by have := HK.out; omega, by go_num, HV1⟩
    · have h1 : ¬ (k : Int) < 23 := by omega
      obtain rfl : gk = 0 := by omega
      have hv1 := hv.out
      unfold fm at hv1
      have HV1 := Lib.hid (show V = 23 by omega)
      clear hk hv1 hlt
      go_wp2_with fail
      refine bodyPost_ret (v := .tuple #[.int .i64 0, .bool false]) ?e1 rfl ⟨?e2, ?e3⟩
      case e1 => simp [results, Tryd.results11, go_sem]
      case e2 => rw [HV1.out]; rfl
      case e3 => exact HB.out
end Go.Proofs.YtjkfckkmofcpdaaDoor
