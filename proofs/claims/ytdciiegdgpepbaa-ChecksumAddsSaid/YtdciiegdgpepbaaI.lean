/- The walks of ChecksumSums, ChecksumSeals, ChecksumTotals. -/
import Derived.Test.YtdciiegdgpepbaaF
import Derived.Test.YtdciiegdgpepbaaH
set_option linter.unusedVariables false
set_option linter.unusedSimpArgs false
namespace Go.Proofs.Ytdciiegdgpepbaa
open Go.ChangeShapes Go.WideShapes Go.ChangeAt Go.RowKit
theorem checksumSums.walk (p : Int) (s : ByteArray) (w : World) (hp : (Lit.int .u64 p).wf = true) (hs : s.size ≤ maxLen) :
    Calls Try.prog 3 #[.int .u64 p, .string s] w fun e w' => e = .returned (.bool true) ∧ Below w.heap.size w w' := by
  have hsm := hs
  unfold maxLen at hs
  have hb := bounds_u64 hp
  go_enter Try.func3, Try.ntmps3
  by_cases h : 1000 < s.size
  · go_wp2_with fail
    refine (awake_any _).mono ?_
    rintro e w1 ⟨rfl, hb1⟩
    go_wp2_with fail
    go_ret
    exact ⟨rfl, hb1⟩
  · go_wp2_with (first | (go_at_call 10; refine (crc_try s _ hsm).mono ?_; rintro e w' ⟨rfl, rfl⟩) | (go_at_call 11; refine (refcrc_try s _ hsm).mono ?_; rintro e w' ⟨rfl, rfl⟩) | (go_at_call 12; refine (hash_try s _ hsm).mono ?_; rintro e w' ⟨rfl, rfl⟩) | (go_at_call 13; refine (refhash_try s _ hsm).mono ?_; rintro e w' ⟨rfl, rfl⟩))
    refine (chain_any p s _ hp (by omega)).mono ?_
    rintro e w1 ⟨rfl, hb1⟩
    go_wp2_with fail
    refine (refchain_any p s _ hp (by omega)).mono ?_
    rintro e w2 ⟨rfl, hb2⟩
    go_wp2_with fail
    refine (awake_any _).mono ?_
    rintro e w3 ⟨rfl, hb3⟩
    go_wp2_with fail
    go_ret
    exact ⟨rfl, below_call (below_call hb1 hb2) hb3⟩
theorem checksumSeals.walk (s : ByteArray) (w : World) (hs : s.size ≤ maxLen) :
    Calls Try.prog 5 #[.string s] w fun e w' => e = .returned (.bool true) ∧ Below w.heap.size w w' := by
  have hsm := hs
  unfold maxLen at hs
  go_enter Try.func5, Try.ntmps5
  by_cases h : 1000 < s.size
  · go_wp2_with fail
    refine (awake_any _).mono ?_
    rintro e w1 ⟨rfl, hb1⟩
    go_wp2_with fail
    go_ret
    exact ⟨rfl, hb1⟩
  · go_wp2_with fail
    refine (Open_any s _ (by omega)).mono ?_
    rintro e w1 ⟨rfl, hb1⟩
    go_wp2_with fail
    refine (refOpen_any s _ (by omega)).mono ?_
    rintro e w2 ⟨rfl, rfl⟩
    go_wp2_with fail
    refine (Seal_any s _ (by omega)).mono ?_
    rintro e w3 ⟨rfl, hb3⟩
    go_wp2_with fail
    refine (refSeal_any s _ (by omega)).mono ?_
    rintro e w4 ⟨rfl, rfl⟩
    go_wp2_with fail
    refine (awake_any _).mono ?_
    rintro e w5 ⟨rfl, hb5⟩
    go_wp2_with fail
    go_ret
    exact ⟨rfl, below_call (below_call hb1 hb3) hb5⟩
theorem totals_walk (a : Option Addr) (len cap : Nat) (xs : Nat → ByteArray) (w : World) (h : StrAt w a len xs) (hz : ∀ i, i < len → (xs i).size ≤ maxLen) (hl : len ≤ cap) (hm : cap ≤ maxLen) :
    Calls Try.prog 4 #[.slice a len cap] w fun e w' => e = .returned (.bool true) ∧ Below w.heap.size w w' := by
  have HS := Lib.hid h
  have HZ := Lib.hid hz
  clear h hz
  go_enter Try.func4, Try.ntmps4
  go_wp2_with fail
  refine (few_any a len cap xs _ HS.out HZ.out hl hm).mono ?_
  rintro e w1 ⟨rfl, rfl⟩
  cases hf : fewB len xs
  · go_wp2_with fail
    refine (awake_any _).mono ?_
    rintro e w1 ⟨rfl, hb1⟩
    go_wp2_with fail
    go_ret
    exact ⟨rfl, hb1⟩
  · obtain ⟨h1, h2⟩ : len ≤ 100 ∧ ∀ i, i < len → (xs i).size ≤ 100 := of_decide_eq_true hf
    have H2 := Lib.hid h2
    clear h2 hf
    go_wp2_with fail
    refine (Total_any a len cap xs _ HS.out (fun i hi => by have := H2.out i hi; omega) hl hm).mono ?_
    rintro e w1 ⟨rfl, rfl⟩
    go_wp2_with fail
    refine (refTotal_any a len cap xs _ HS.out (fun i hi => by have := H2.out i hi; omega) hl hm).mono ?_
    rintro e w1 ⟨rfl, rfl⟩
    go_wp2_with fail
    refine (awake_any _).mono ?_
    rintro e w1 ⟨rfl, hb1⟩
    go_wp2_with fail
    go_ret
    exact ⟨rfl, hb1⟩
end Go.Proofs.Ytdciiegdgpepbaa
