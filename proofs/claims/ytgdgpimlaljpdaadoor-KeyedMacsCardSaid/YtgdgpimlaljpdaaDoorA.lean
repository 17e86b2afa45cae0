/- Hash and mix of both; the eight bytes of a key. -/
import Derived.Test.YtgdgpimlaljpdaaDoorK
import Derived.Test.YtgdgpimlaljpdaaDoorRows
import Derived.WalkSpells
import Derived.WalkLawsBesides
import Derived.Laws.BitsAllLaws
import Derived.LoopN
import Derived.OpenShut
import Derived.Below
import Derived.Laws.NewBlocks
import Derived.Laws.IdiomStrings
import Derived.LoopTactic
import Derived.Deep.LoopGhost
set_option linter.unusedVariables false
set_option linter.unusedSimpArgs false
namespace Go.Proofs.YtgdgpimlaljpdaaDoor
open Go.Sort Go.ChangeShapes Go.WideShapes Go.ChangeAt Go.RowKit
theorem al {w W : World} {o : Obj} (h : Below w.heap.size w W) : Below w.heap.size w (W.alloc o) := h.alloc h.size o
abbrev B64 : Nat := 18446744073709551616
def byteAt (s : ByteArray) (k : Nat) : Nat := if h : k < s.size then s[k].toNat else 0
theorem byteAt_eq {s : ByteArray} {k : Nat} (h : k < s.size) : byteAt s k = s[k].toNat := by simp [byteAt, h]
theorem byteAt_lt (s : ByteArray) (k : Nat) : byteAt s k < 256 := by
  unfold byteAt; split
  · exact UInt8.toNat_lt _
  · omega
def hashAt (s : ByteArray) : Nat → Nat
  | 0 => 14695981039346656037
  | k + 1 => ((hashAt s k ^^^ byteAt s k) * 1099511628211) % 18446744073709551616
def hashOf (s : ByteArray) : Nat := hashAt s s.size
theorem xor_lt64 {a b : Nat} (ha : a < 18446744073709551616) (hb : b < 18446744073709551616) : a ^^^ b < 18446744073709551616 := Nat.xor_lt_two_pow (n := 64) (by omega) (by omega)
theorem hashAt_lt (s : ByteArray) : ∀ k, hashAt s k < 18446744073709551616
  | 0 => by show 14695981039346656037 < _; omega
  | k + 1 => Nat.mod_lt _ (by decide)
theorem hashOf_lt (s : ByteArray) : hashOf s < 18446744073709551616 := hashAt_lt s _
theorem hash_any (s : ByteArray) (w : World) (hs : s.size ≤ maxLen) :
    Calls Tryd.prog 30 #[.string s] w fun e w' => e = .returned (.int .u64 (hashOf s)) ∧ w = w' := by
  unfold maxLen at hs
  go_enter Tryd.func30, Tryd.ntmps30
  go_wp2_with fail
  go_loop [3, 7] (fun c i => ∃ (k : Nat), k ≤ s.size ∧ i = .int .i64 k ∧ c = .int .u64 (hashAt s k)) (fun _ i => s.size - (intOf i).toNat)
  case atStart => exact ⟨0, Nat.zero_le _, rfl, rfl⟩
  case round =>
    obtain ⟨k, hk, rfl, rfl⟩ := hrel
    by_cases hlt : k < s.size
    · have hv := hashAt_lt s k
      have hb := byteAt_lt s k
      have hbe := byteAt_eq hlt
      have hx := u64_xor_nat (hashAt s k) (byteAt s k) hv (by omega)
      have hnx : hashAt s (k + 1) = ((hashAt s k ^^^ byteAt s k) * 1099511628211) % 18446744073709551616 := rfl
      have hxl := xor_lt64 hv (show byteAt s k < 18446744073709551616 by omega)
      rw [hbe] at hx hb hnx hxl
      generalize hashAt s k ^^^ s[k].toNat = y at hx hnx hxl
      go_wp2_with fail
      refine ⟨⟨k + 1, by omega, rfl, ?_⟩, by show s.size - ((k : Int) + 1).toNat < s.size - (k : Int).toNat; omega⟩
      rw [hnx]
      rfl
    · go_wp2_with fail
      go_ret
      obtain rfl : k = s.size := by omega
      exact ⟨rfl, rfl⟩
theorem rhash_any (s : ByteArray) (w : World) (hs : s.size ≤ maxLen) :
    Calls Tryd.prog 25 #[.string s] w fun e w' => e = .returned (.int .u64 (hashOf s)) ∧ w = w' := by
  unfold maxLen at hs
  go_enter Tryd.func25, Tryd.ntmps25
  go_wp2_with fail
  go_loop [3, 4] (fun c i => ∃ (k : Nat), k ≤ s.size ∧ i = .int .i64 k ∧ c = .int .u64 (hashAt s k)) (fun _ i => s.size - (intOf i).toNat)
  case atStart => exact ⟨0, Nat.zero_le _, rfl, rfl⟩
  case round =>
    obtain ⟨k, hk, rfl, rfl⟩ := hrel
    by_cases hlt : k < s.size
    · have hv := hashAt_lt s k
      have hb := byteAt_lt s k
      have hbe := byteAt_eq hlt
      have hx := u64_xor_nat (hashAt s k) (byteAt s k) hv (by omega)
      have hnx : hashAt s (k + 1) = ((hashAt s k ^^^ byteAt s k) * 1099511628211) % 18446744073709551616 := rfl
      have hxl := xor_lt64 hv (show byteAt s k < 18446744073709551616 by omega)
      rw [hbe] at hx hb hnx hxl
      generalize hashAt s k ^^^ s[k].toNat = y at hx hnx hxl
      go_wp2_with fail
      refine ⟨⟨k + 1, by omega, rfl, ?_⟩, by show s.size - ((k : Int) + 1).toNat < s.size - (k : Int).toNat; omega⟩
      rw [hnx]
      rfl
    · go_wp2_with fail
      go_ret
      obtain rfl : k = s.size := by omega
      exact ⟨rfl, rfl⟩
/-- mix -/
def mixA (x : Nat) : Nat := ((x ^^^ x / 536870912) * 13787848793156543929) % 18446744073709551616
def mixN (x : Nat) : Nat := mixA x ^^^ mixA x / 4294967296
theorem mixA_lt (x : Nat) : mixA x < B64 := Nat.mod_lt _ (by decide)
theorem mixN_lt (x : Nat) : mixN x < B64 := xor_lt64 (mixA_lt x) (Nat.lt_of_le_of_lt (Nat.div_le_self _ _) (mixA_lt x))
theorem mix_any (x : Nat) (hx : x < B64) (w : World) : Calls Tryd.prog 29 #[.int .u64 x] w fun e w' => e = .returned (.int .u64 (mixN x : Nat)) ∧ w = w' := by
  have h1 : bits .xor .u64 (x : Int) ((x : Int) / 536870912) = ((x ^^^ x / 536870912 : Nat) : Int) := u64_xor_nat x (x / 536870912) hx (Nat.lt_of_le_of_lt (Nat.div_le_self _ _) hx)
  have h2 : bits .xor .u64 (mixA x : Int) ((mixA x : Int) / 4294967296) = ((mixN x : Nat) : Int) := u64_xor_nat (mixA x) (mixA x / 4294967296) (mixA_lt x) (Nat.lt_of_le_of_lt (Nat.div_le_self _ _) (mixA_lt x))
  have h3 : IntKind.u64.wrap (((x ^^^ x / 536870912 : Nat) : Int) * 13787848793156543929) = ((mixA x : Nat) : Int) := by rw [IntKind.wrap_u64]; unfold mixA; omega
  have l := mixA_lt x
  generalize mixN x = z at *
  generalize mixA x = y at *
  generalize x ^^^ x / 536870912 = v at *
  go_enter Tryd.func29, Tryd.ntmps29
  go_wp2_with fail
  go_ret
  exact ⟨rfl, rfl⟩
theorem rmix_any (x : Nat) (hx : x < B64) (w : World) : Calls Tryd.prog 24 #[.int .u64 x] w fun e w' => e = .returned (.int .u64 (mixN x : Nat)) ∧ w = w' := by
  have h1 : bits .xor .u64 (x : Int) ((x : Int) / 536870912) = ((x ^^^ x / 536870912 : Nat) : Int) := u64_xor_nat x (x / 536870912) hx (Nat.lt_of_le_of_lt (Nat.div_le_self _ _) hx)
  have h2 : bits .xor .u64 (mixA x : Int) ((mixA x : Int) / 4294967296) = ((mixN x : Nat) : Int) := u64_xor_nat (mixA x) (mixA x / 4294967296) (mixA_lt x) (Nat.lt_of_le_of_lt (Nat.div_le_self _ _) (mixA_lt x))
  have h3 : IntKind.u64.wrap (((x ^^^ x / 536870912 : Nat) : Int) * 13787848793156543929) = ((mixA x : Nat) : Int) := by rw [IntKind.wrap_u64]; unfold mixA; omega
  have l := mixA_lt x
  generalize mixN x = z at *
  generalize mixA x = y at *
  generalize x ^^^ x / 536870912 = v at *
  go_enter Tryd.func24, Tryd.ntmps24
  go_wp2_with fail
  go_ret
  exact ⟨rfl, rfl⟩
end Go.Proofs.YtgdgpimlaljpdaaDoor
