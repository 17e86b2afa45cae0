/- The walk of ChecksumAdds, from a slice of strings that came in. -/
import Derived.Test.YtdciiegdgpepbaaR
set_option linter.unusedVariables false
set_option linter.unusedSimpArgs false
namespace Go.Proofs.Ytdciiegdgpepbaa
theorem checksumAdds.walk (a : Option Addr) (len cap : Nat) (cut p : Int) (w : World) (h : IsStrs w a len cap) (hcut : (Lit.int .u8 cut).wf = true) (hp : (Lit.int .u64 p).wf = true) :
    Calls Try.prog 8 #[.slice a len cap, .int .u8 cut, .int .u64 p] w fun e w' => e = .returned (.bool true) ∧ Go.RowKit.Below w.heap.size w w' := by
  obtain ⟨hl, hm, xs, hx, hz⟩ := strs_at h
  refine adds_walk a len cap cut p xs w hx hz hl hm (fun he => ?_) hcut hp
  rcases h with ⟨_, h1, h2⟩ | ⟨x, ss, h1, _⟩
  · exact ⟨h1, h2⟩
  · rw [he] at h1; cases h1
end Go.Proofs.Ytdciiegdgpepbaa
