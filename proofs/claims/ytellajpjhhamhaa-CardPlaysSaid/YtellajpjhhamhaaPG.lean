/- The sum of the program. -/
import Derived.Test.YtellajpjhhamhaaPE
import Derived.Laws.RangeString
import Derived.Laws.RangeAny
set_option linter.unusedVariables false
set_option linter.unusedSimpArgs false
namespace Go.Proofs.Ytellajpjhhamhaa
open Go.Sort Go.ChangeShapes Go.WideShapes Go.ChangeAt Go.RowKit
theorem al_ {w : World} {o : Obj} : Below w.heap.size w (w.alloc o) := Below.alloc (Below.refl _ _) (Nat.le_refl _) o
set_option maxHeartbeats 2000000 in
theorem sum_any (s : ByteArray) (hs : s.size ≤ 200) (w : World) :
    Calls Try.prog 43 #[.string s] w fun e w' => e = .returned (.tuple #[.int .i64 (if allD s.data.toList = true then lsum s.data.toList s.size 1 s.size else 0), .bool (allD s.data.toList)]) ∧ Below w.heap.size w w' := by
  have hsi : (s.size : Int) ≤ 200 := by omega
  have HS := Lib.hid (lsum_succ s.data.toList s.size 1)
  obtain ⟨g, hg⟩ : ∃ g, g = lsum s.data.toList s.size 1 := ⟨_, rfl⟩
  rw [← hg] at HS ⊢
  have H0 : Hid (g 0 = 0) := Lib.hid (by rw [hg]; rfl)
  obtain ⟨B, hB⟩ : ∃ B, B = allD s.data.toList := ⟨_, rfl⟩
  rw [← hB]
  obtain ⟨R, hR⟩ : ∃ R, R = (if B = true then g s.size else 0) := ⟨_, rfl⟩
  rw [← hR]
  have HB := Lib.hid hB
  have HR := Lib.hid hR
  clear hg hB hR
  go_enter Try.func43, Try.ntmps43
  go_wp2_with fail
  go_loopw [4] (fun x wr => ∃ (k : Nat) (G : Int), k ≤ s.size ∧ x = .int .i64 G ∧ wr = w.iter s k ∧ Hid (g k = G) ∧ Hid (allD (s.data.toList.take k) = true) ∧ 0 ≤ G ∧ G ≤ 9 * k) (fun _ wr => s.size - wr.iterPos w.heap.size)
  case atStart => exact ⟨0, 0, Nat.zero_le _, rfl, rfl, H0, Lib.hid rfl, by omega, by omega⟩
  case round =>
    obtain ⟨k, G, hk, rfl, rfl, hG, hA, G0, G1⟩ := hrel
    by_cases hlt : k < s.size
    · have hlt' : (k : Int) < (s.size : Int) := by omega
      cases hd : dgB s[k].toNat
      · have HN := Lib.hid (allD_false s k hlt hd)
        have hdn : ¬ (48 ≤ s[k].toNat ∧ s[k].toNat ≤ 57) := fun h => by rw [(dgB_iff _).2 h] at hd; cases hd
        by_cases h128 : s[k].toNat < 128
        · have hnx := fun ty => run_next_ascii (P := Try.prog) w s k ty hlt h128
          obtain ⟨v, hvv⟩ : ∃ v : Int, (s[k].toNat : Int) = v := ⟨_, rfl⟩
          by_cases hlo : v < 48
          · have c1 : decide (v < 48) = true := decide_eq_true hlo
            clear hd hdn h128
            go_wp2_with fail
            exact bodyPost_ret (v := .tuple #[.int .i64 0, .bool false]) (by simp [results, Try.results43, go_sem]) rfl ⟨by rw [HR.out, HB.out, HN.out]; rfl, al_⟩
          · have c1 : decide (v < 48) = false := decide_eq_false hlo
            have c2 : decide (57 < v) = true := decide_eq_true (by omega)
            clear hd hdn h128
            go_wp2_with fail
            exact bodyPost_ret (v := .tuple #[.int .i64 0, .bool false]) (by simp [results, Try.results43, go_sem]) rfl ⟨by rw [HR.out, HB.out, HN.out]; rfl, al_⟩
        · have hnx := fun ty => run_next_any (P := Try.prog) w s k ty hlt
          have hh := decode_high s k hlt (by omega)
          obtain ⟨v, hvv⟩ : ∃ v : Int, ((Utf8.decode s k).1 : Int) = v := ⟨_, rfl⟩
          have c1 : decide (v < 48) = false := decide_eq_false (by omega)
          have c2 : decide (57 < v) = true := decide_eq_true (by omega)
          clear hd hdn h128 hh
          go_wp2_with fail
          exact bodyPost_ret (v := .tuple #[.int .i64 0, .bool false]) (by simp [results, Try.results43, go_sem]) rfl ⟨by rw [HR.out, HB.out, HN.out]; rfl, al_⟩
      · have hv := (dgB_iff _).1 hd
        have hnx := fun ty => run_next_ascii (P := Try.prog) w s k ty hlt (by omega)
        have hT := allD_take s k hlt
        rw [hA.out, hd] at hT
        have HT := Lib.hid hT
        have he : s.data.toList.getD k 0 = s[k] := by
          rw [List.getD_eq_getElem?_getD, List.getElem?_eq_getElem (by simpa using hlt)]
          simp [ByteArray.getElem_eq_getElem_data]
        have hn := HS.out k
        rw [he, hG.out] at hn
        have HN := Lib.hid hn
        obtain ⟨v, hvv⟩ : ∃ v : Int, (s[k].toNat : Int) = v := ⟨_, rfl⟩
        have v0 : 48 ≤ v := by omega
        have v1 : v ≤ 57 := by omega
        rw [hvv] at HN
        clear hn he hT hd hv
        by_cases hp : ((s.size : Int) - k) % 2 = 0
        · have hp2 : ((s.size : Int) - 1 - k + 1) % 2 = 0 := by omega
          rw [if_pos hp2] at HN
          have hpb : (((s.size : Int) - k) % 2 == 0) = true := by rw [hp]; rfl
          clear hp2
          by_cases h9 : 9 < 2 * (v - 48)
          · have HE := Lib.hid (show g (k + 1) = G + ((v - 48) * 2 - 9) by have h := HN.out; unfold lz at h; rw [if_pos h9] at h; omega)
            have h9d : decide (9 < 2 * (v - 48)) = true := decide_eq_true h9
            clear HN
            go_wp2_with fail
            go_roundw
            case rel => exact ⟨k + 1, _, by omega, rfl, rfl, HE, HT, by omega, by omega⟩
            case measure => simp; omega
          · have HE := Lib.hid (show g (k + 1) = G + (v - 48) * 2 by have h := HN.out; unfold lz at h; rw [if_neg h9] at h; omega)
            have h9d : decide (9 < 2 * (v - 48)) = false := decide_eq_false h9
            clear HN
            go_wp2_with fail
            go_roundw
            case rel => exact ⟨k + 1, _, by omega, rfl, rfl, HE, HT, by omega, by omega⟩
            case measure => simp; omega
        · have hp2 : ¬ ((s.size : Int) - 1 - k + 1) % 2 = 0 := by omega
          rw [if_neg hp2] at HN
          have hpb : (((s.size : Int) - k) % 2 == 0) = false := by rw [beq_eq_false_iff_ne]; exact hp
          clear hp2
          go_wp2_with fail
          go_roundw
          case rel => exact ⟨k + 1, _, by omega, rfl, rfl, HN, HT, by omega, by omega⟩
          case measure => simp; omega
    · obtain rfl : k = s.size := by omega
      have hnx := fun ty => run_next_end (P := Try.prog) w s s.size ty hlt
      have hall : allD s.data.toList = true := by have := hA.out; rwa [List.take_of_length_le (by simp)] at this
      have HA := Lib.hid hall
      have HG := Lib.hid hG.out
      clear hall
      go_wp2_with fail
      exact bodyPost_ret (v := .tuple #[.int .i64 G, .bool true]) (by simp [results, Try.results43, go_sem]) rfl ⟨by rw [HR.out, HB.out, HA.out, HG.out]; rfl, al_⟩
end Go.Proofs.Ytellajpjhhamhaa
