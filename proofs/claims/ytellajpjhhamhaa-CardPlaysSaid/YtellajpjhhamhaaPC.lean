/- The sum of the reference. -/
import Derived.Test.YtellajpjhhamhaaPB
set_option linter.unusedVariables false
set_option linter.unusedSimpArgs false
namespace Go.Proofs.Ytellajpjhhamhaa
open Go.Sort Go.ChangeShapes Go.WideShapes Go.ChangeAt Go.RowKit
def lz (d : Int) : Int := if 9 < 2 * d then 2 * d - 9 else 2 * d
def lsum (l : List UInt8) (n f : Int) : Nat → Int
  | 0 => 0
  | k + 1 => lsum l n f k + if (n - 1 - k + f) % 2 = 0 then lz (((l.getD k 0).toNat : Int) - 48) else ((l.getD k 0).toNat : Int) - 48
theorem lsum_succ (l : List UInt8) (n f : Int) (k : Nat) : lsum l n f (k + 1) = lsum l n f k + if (n - 1 - k + f) % 2 = 0 then lz (((l.getD k 0).toNat : Int) - 48) else ((l.getD k 0).toNat : Int) - 48 := rfl
theorem dig_at {s : ByteArray} (h : allD s.data.toList = true) (k : Nat) (hk : k < s.size) : 48 ≤ (s[k].toNat : Int) ∧ (s[k].toNat : Int) ≤ 57 ∧ s.data.toList.getD k 0 = s[k] := by
  have e : s.data.toList.getD k 0 = s[k] := by
    rw [List.getD_eq_getElem?_getD, List.getElem?_eq_getElem (by simpa using hk)]
    simp [ByteArray.getElem_eq_getElem_data]
  have hm : s[k] ∈ s.data.toList := by
    rw [← e, List.getD_eq_getElem?_getD, List.getElem?_eq_getElem (by simpa using hk)]
    exact List.getElem_mem _
  unfold allD at h
  rw [List.all_eq_true] at h
  have := (dgB_iff _).1 (h _ hm)
  exact ⟨by omega, by omega, e⟩
set_option maxHeartbeats 1000000 in
theorem rsum_any (s : ByteArray) (f : Int) (hf : 1 ≤ f ∧ f ≤ 2) (hs : s.size ≤ 200) (hd : allD s.data.toList = true) (w : World) :
    Calls Try.prog 44 #[.string s, .int .i64 f] w fun e w' => e = .returned (.int .i64 (lsum s.data.toList s.size f s.size)) ∧ w' = w := by
  obtain ⟨f0, f1⟩ := hf
  have HD := Lib.hid (@dig_at s hd)
  have HS := Lib.hid (lsum_succ s.data.toList s.size f)
  obtain ⟨g, hg⟩ : ∃ g, g = lsum s.data.toList s.size f := ⟨_, rfl⟩
  rw [← hg] at HS ⊢
  have hs' : (s.size : Int) ≤ 200 := by omega
  have H0 : Hid (g 0 = 0) := Lib.hid (by rw [hg]; rfl)
  clear hd hg
  go_enter Try.func44, Try.ntmps44
  go_wp2_with fail
  go_loop [5, 6] (fun x y => ∃ (k : Nat) (G : Int), k ≤ s.size ∧ x = .int .i64 G ∧ y = .int .i64 k ∧ Hid (g k = G) ∧ 0 ≤ G ∧ G ≤ 9 * k) (fun _ y => s.size - (intOf y).toNat)
  case atStart => exact ⟨0, 0, Nat.zero_le _, rfl, rfl, H0, by omega, by omega⟩
  case round =>
    obtain ⟨k, G, hk, rfl, rfl, hG, G0, G1⟩ := hrel
    by_cases hlt : k < s.size
    · obtain ⟨v0, v1, ve⟩ := HD.out k hlt
      have hn := HS.out k
      rw [ve, hG.out] at hn
      have HN := Lib.hid hn
      have hlt' : (k : Int) < (s.size : Int) := by omega
      obtain ⟨v, hv⟩ : ∃ v : Int, (s[k].toNat : Int) = v := ⟨_, rfl⟩
      rw [hv] at v0 v1 HN
      have hw : IntKind.u8.wrap (v - 48) = v - 48 := by rw [IntKind.wrap_u8]; omega
      clear hn ve
      by_cases hp : ((s.size : Int) - 1 - k + f) % 2 = 0
      · rw [if_pos hp] at HN
        have hpb : (((s.size : Int) - 1 - k + f) % 2 == 0) = true := by rw [hp]; rfl
        by_cases h9 : 9 < 2 * (v - 48)
        · have h9d : decide (9 < 2 * (v - 48)) = true := decide_eq_true h9
          have HE := Lib.hid (HN.out.trans (by unfold lz; rw [if_pos h9]))
          clear HN
          go_wp2_with fail
          go_round
          case rel => exact ⟨k + 1, _, by omega, rfl, by go_num, HE, by omega, by omega⟩
          case measure => simp [intOf]; omega
        · have h9d : decide (9 < 2 * (v - 48)) = false := decide_eq_false h9
          have HE := Lib.hid (HN.out.trans (by unfold lz; rw [if_neg h9]))
          clear HN
          go_wp2_with fail
          go_round
          case rel => exact ⟨k + 1, _, by omega, rfl, by go_num, HE, by omega, by omega⟩
          case measure => simp [intOf]; omega
      · rw [if_neg hp] at HN
        have hpb : (((s.size : Int) - 1 - k + f) % 2 == 0) = false := by rw [beq_eq_false_iff_ne]; exact hp
        go_wp2_with fail
        go_round
        case rel => exact ⟨k + 1, _, by omega, rfl, by go_num, HN, by omega, by omega⟩
        case measure => simp [intOf]; omega
    · have hge : ¬ (k : Int) < (s.size : Int) := by omega
      obtain rfl : k = s.size := by omega
      have HG := Lib.hid hG.out
      go_wp2_with fail
      go_ret
      exact ⟨by rw [HG.out]; rfl, rfl⟩
end Go.Proofs.Ytellajpjhhamhaa
