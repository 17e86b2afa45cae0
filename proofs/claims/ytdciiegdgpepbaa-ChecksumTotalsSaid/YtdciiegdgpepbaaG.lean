/- Total, its reference, few. -/
import Derived.Test.YtdciiegdgpepbaaD
set_option linter.unusedVariables false
set_option linter.unusedSimpArgs false
namespace Go.Proofs.Ytdciiegdgpepbaa
open Go.ChangeShapes Go.WideShapes Go.ChangeAt Go.RowKit
def totAt (xs : Nat → ByteArray) : Nat → Nat
  | 0 => 0
  | k + 1 => (totAt xs k + valOf (xs k)) % 100000000
theorem totAt_lt (xs : Nat → ByteArray) : ∀ k, totAt xs k < 100000000
  | 0 => by show 0 < _; omega
  | k + 1 => Nat.mod_lt _ (by omega)
def StrAt (w : World) (a : Option Addr) (len : Nat) (xs : Nat → ByteArray) : Prop :=
  ∀ i, i < len → ∃ b off, a = some ⟨b, off, none⟩ ∧ b < w.heap.size ∧ w.cell? ⟨b, off + i, none⟩ = some (.string (xs i))
theorem Total_any (a : Option Addr) (len cap : Nat) (xs : Nat → ByteArray) (w : World) (h : StrAt w a len xs) (hz : ∀ i, i < len → (xs i).size ≤ 1000000) (hl : len ≤ cap) (hm : cap ≤ maxLen) :
    Calls Try.prog 17 #[.slice a len cap] w fun e w' => e = .returned (.int .i64 (totAt xs len)) ∧ w = w' := by
  unfold maxLen at hm
  go_enter Try.func17, Try.ntmps17
  go_wp2_with fail
  go_loop [3, 8] (fun c i => ∃ (k : Nat), k ≤ len ∧ i = .int .i64 k ∧ c = .int .i64 (totAt xs k)) (fun _ i => len - (intOf i).toNat)
  case atStart => exact ⟨0, Nat.zero_le _, rfl, rfl⟩
  case round =>
    obtain ⟨k, hk, rfl, rfl⟩ := hrel
    by_cases hlt : k < len
    · obtain ⟨b, off, rfl, hbl, hcell⟩ := h k hlt
      have hsz := hz k hlt
      have hv := totAt_lt xs k
      have hv2 := valOf_lt (xs k)
      have hnx : totAt xs (k + 1) = (totAt xs k + valOf (xs k)) % 100000000 := rfl
      have hnx := Lib.hid hnx
      have hz := Lib.hid hz
      have h := Lib.hid h
      go_wp2_with (go_at_call 23; refine (value_any (xs k) _ (by omega)).mono ?_; rintro e w1 ⟨rfl, rfl⟩)
      go_ways
      have hnx := hnx.out
      exact ⟨⟨k + 1, by omega, rfl, congrArg (Value.int .i64) (by omega)⟩, by show len - ((k : Int) + 1).toNat < len - (k : Int).toNat; omega⟩
    · go_wp2_with fail
      go_ret
      obtain rfl : k = len := by omega
      exact ⟨rfl, rfl⟩
def fewB (len : Nat) (xs : Nat → ByteArray) : Bool := decide (len ≤ 100 ∧ ∀ i, i < len → (xs i).size ≤ 100)
theorem few_any (a : Option Addr) (len cap : Nat) (xs : Nat → ByteArray) (w : World) (h : StrAt w a len xs) (hz : ∀ i, i < len → (xs i).size ≤ maxLen) (hl : len ≤ cap) (hm : cap ≤ maxLen) :
    Calls Try.prog 16 #[.slice a len cap] w fun e w' => e = .returned (.bool (fewB len xs)) ∧ w = w' := by
  unfold maxLen at *
  go_enter Try.func16, Try.ntmps16
  go_wp2_with fail
  go_loop [3] (fun i => ∃ (k : Nat), k ≤ len ∧ k ≤ 101 ∧ i = .int .i64 k ∧ ∀ j, j < k → (xs j).size ≤ 100) (fun i => len - (intOf i).toNat)
  case atStart => exact ⟨0, Nat.zero_le _, Nat.zero_le _, rfl, fun j hj => absurd hj (Nat.not_lt_zero _)⟩
  case round =>
    obtain ⟨k, hk, hk2, rfl, hall⟩ := hrel
    have HA := Lib.hid hall
    clear hall
    by_cases hlt : k < len
    · obtain ⟨b, off, rfl, hbl, hcell⟩ := h k hlt
      have hsz := hz k hlt
      have HZ := Lib.hid hz
      have HS := Lib.hid h
      clear hz h
      by_cases h101 : k < 101
      · by_cases h100 : 100 < (xs k).size
        · have hf : fewB len xs = false := decide_eq_false (fun h => by have := h.2 k hlt; omega)
          go_wp2_with fail
          go_ret
          exact ⟨rfl, rfl⟩
        · go_wp2_with fail
          go_ways
          refine ⟨⟨k + 1, by omega, by omega, rfl, fun j hj => ?_⟩, by show len - ((k : Int) + 1).toNat < len - (k : Int).toNat; omega⟩
          rcases Nat.lt_or_ge j k with h1 | h1
          · exact HA.out j h1
          · obtain rfl : j = k := by omega
            omega
      · have hf : fewB len xs = false := decide_eq_false (fun h => by omega)
        have hd : decide ((len : Int) ≤ 100) = false := decide_eq_false (by omega)
        go_wp2_with fail
        go_ret
        exact ⟨rfl, rfl⟩
    · have hf : fewB len xs = decide ((len : Int) ≤ 100) := by
        unfold fewB
        rw [decide_eq_decide]
        constructor
        · intro h; omega
        · intro h; exact ⟨by omega, fun i hi => HA.out i (by omega)⟩
      have HF := Lib.hid hf
      clear hf
      go_wp2_with fail
      go_ret
      exact ⟨by rw [HF.out]; rfl, rfl⟩
theorem refTotal_any (a : Option Addr) (len cap : Nat) (xs : Nat → ByteArray) (w : World) (h : StrAt w a len xs) (hz : ∀ i, i < len → (xs i).size ≤ 1000000) (hl : len ≤ cap) (hm : cap ≤ maxLen) :
    Calls Try.prog 18 #[.slice a len cap] w fun e w' => e = .returned (.int .i64 (totAt xs len)) ∧ w = w' := by
  unfold maxLen at hm
  go_enter Try.func18, Try.ntmps18
  go_wp2_with fail
  go_loop [3, 4] (fun c i => ∃ (k : Nat), k ≤ len ∧ i = .int .i64 k ∧ c = .int .i64 (totAt xs k)) (fun _ i => len - (intOf i).toNat)
  case atStart => exact ⟨0, Nat.zero_le _, rfl, rfl⟩
  case round =>
    obtain ⟨i, hk, rfl, rfl⟩ := hrel
    by_cases hlt : i < len
    · obtain ⟨b, off, rfl, hbl, hcell⟩ := h i hlt
      have hsz := hz i hlt
      have hv := totAt_lt xs i
      have hv2 := valOf_lt (xs i)
      have hnx : totAt xs (i + 1) = (totAt xs i + valOf (xs i)) % 100000000 := rfl
      have HN := Lib.hid hnx
      have HZ := Lib.hid hz
      have HS := Lib.hid h
      clear hz h hnx
      generalize hs : xs i = s at *
      have HE := Lib.hid hs
      clear hs
      obtain ⟨k, hk'⟩ : ∃ k, s.size - 8 = k := ⟨_, rfl⟩
      have hks : k ≤ s.size ∧ s.size - k ≤ 8 := by omega
      have hval : valOf s = valAt s k (s.size - k) := by unfold valOf; rw [hk']
      have HV := Lib.hid hval
      clear hval
      by_cases h8 : 8 < s.size
      · have h0 : (s.size : Int) - 8 = (k : Int) := by omega
        clear hk'
        go_wp2_with fail
        go_loop [5, 6] (fun c i => ∃ (j : Nat), j ≤ s.size - k ∧ i = .int .i64 ((k + j : Nat) : Int) ∧ c = .int .i64 (valAt s k j)) (fun _ i => s.size - (intOf i).toNat)
        case atStart => exact ⟨0, Nat.zero_le _, rfl, rfl⟩
        case round =>
          obtain ⟨j, hj, rfl, rfl⟩ := hrel
          by_cases hltj : k + j < s.size
          · have hv3 := valAt_lt8 s k (j := j) (by omega)
            have hv4 := valAt_lt8 s k (j := j + 1) (by omega)
            have hb := byteAt_lt s (k + j)
            have hbe := byteAt_eq hltj
            have hnx : valAt s k (j + 1) = 10 * valAt s k j + digV (byteAt s (k + j)) := rfl
            rw [hbe] at hb hnx
            have HX := Lib.hid hnx
            clear hnx
            by_cases hd1 : 48 ≤ s[k + j].toNat
            · by_cases hd2 : s[k + j].toNat ≤ 57
              · go_wp2_with fail
                go_ways
                have hnx := HX.out
                rw [digV, if_pos ⟨hd1, hd2⟩] at hnx
                exact ⟨⟨j + 1, by omega, congrArg (Value.int .i64) (by omega), congrArg (Value.int .i64) (by omega)⟩, by show s.size - ((k : Int) + (j : Int) + 1).toNat < s.size - (((k + j : Nat) : Int)).toNat; omega⟩
              · go_wp2_with fail
                go_ways
                have hnx := HX.out
                rw [digV, if_neg (by omega)] at hnx
                exact ⟨⟨j + 1, by omega, congrArg (Value.int .i64) (by omega), congrArg (Value.int .i64) (by omega)⟩, by show s.size - ((k : Int) + (j : Int) + 1).toNat < s.size - (((k + j : Nat) : Int)).toNat; omega⟩
            · go_wp2_with fail
              go_ways
              have hnx := HX.out
              rw [digV, if_neg (by omega)] at hnx
              exact ⟨⟨j + 1, by omega, congrArg (Value.int .i64) (by omega), congrArg (Value.int .i64) (by omega)⟩, by show s.size - ((k : Int) + (j : Int) + 1).toNat < s.size - (((k + j : Nat) : Int)).toNat; omega⟩
          · obtain rfl : j = s.size - k := by omega
            have hval := HV.out
            have HV2 := Lib.hid hval
            rw [hval] at hv2
            generalize hge : valAt s k (s.size - k) = y at *
            have HG := Lib.hid hge
            clear hge hval
            go_wp2_with fail
            go_ways
            have hnx := HN.out
            exact ⟨⟨i + 1, by omega, rfl, congrArg (Value.int .i64) (by have := HG.out; have := HV2.out; have := HE.out; subst this; omega)⟩, by show len - ((i : Int) + 1).toNat < len - (i : Int).toNat; omega⟩
      · obtain rfl : k = 0 := by omega
        clear hk'
        go_wp2_with fail
        go_loop [5, 6] (fun c i => ∃ (j : Nat), j ≤ s.size - 0 ∧ i = .int .i64 (j : Int) ∧ c = .int .i64 (valAt s 0 j)) (fun _ i => s.size - (intOf i).toNat)
        case atStart => exact ⟨0, Nat.zero_le _, rfl, rfl⟩
        case round =>
          obtain ⟨j, hj, rfl, rfl⟩ := hrel
          by_cases hltj : j < s.size
          · have hv3 := valAt_lt8 s 0 (j := j) (by omega)
            have hv4 := valAt_lt8 s 0 (j := j + 1) (by omega)
            have hb := byteAt_lt s (j)
            have hbe := byteAt_eq hltj
            have hnx : valAt s 0 (j + 1) = 10 * valAt s 0 j + digV (byteAt s (j)) := by show 10 * valAt s 0 j + digV (byteAt s (0 + j)) = _; rw [Nat.zero_add]
            rw [hbe] at hb hnx
            have HX := Lib.hid hnx
            clear hnx
            by_cases hd1 : 48 ≤ s[j].toNat
            · by_cases hd2 : s[j].toNat ≤ 57
              · go_wp2_with fail
                go_ways
                have hnx := HX.out
                rw [digV, if_pos ⟨hd1, hd2⟩] at hnx
                exact ⟨⟨j + 1, by omega, congrArg (Value.int .i64) (by omega), congrArg (Value.int .i64) (by omega)⟩, by show s.size - ((j : Int) + 1).toNat < s.size - ((j : Int)).toNat; omega⟩
              · go_wp2_with fail
                go_ways
                have hnx := HX.out
                rw [digV, if_neg (by omega)] at hnx
                exact ⟨⟨j + 1, by omega, congrArg (Value.int .i64) (by omega), congrArg (Value.int .i64) (by omega)⟩, by show s.size - ((j : Int) + 1).toNat < s.size - ((j : Int)).toNat; omega⟩
            · go_wp2_with fail
              go_ways
              have hnx := HX.out
              rw [digV, if_neg (by omega)] at hnx
              exact ⟨⟨j + 1, by omega, congrArg (Value.int .i64) (by omega), congrArg (Value.int .i64) (by omega)⟩, by show s.size - ((j : Int) + 1).toNat < s.size - ((j : Int)).toNat; omega⟩
          · obtain rfl : j = s.size - 0 := by omega
            have hval := HV.out
            have HV2 := Lib.hid hval
            rw [hval] at hv2
            generalize hge : valAt s 0 (s.size - 0) = y at *
            have HG := Lib.hid hge
            clear hge hval
            go_wp2_with fail
            go_ways
            have hnx := HN.out
            exact ⟨⟨i + 1, by omega, rfl, congrArg (Value.int .i64) (by have := HG.out; have := HV2.out; have := HE.out; subst this; omega)⟩, by show len - ((i : Int) + 1).toNat < len - (i : Int).toNat; omega⟩
    · go_wp2_with fail
      go_ret
      obtain rfl : i = len := by omega
      exact ⟨rfl, rfl⟩
end Go.Proofs.Ytdciiegdgpepbaa
