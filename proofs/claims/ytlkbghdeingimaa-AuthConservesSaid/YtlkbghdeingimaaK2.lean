import Derived.Test.YtlkbghdeingimaaK
set_option linter.unusedVariables false
set_option linter.unusedSimpArgs false
namespace Go.Proofs.Ytlkbghdeingimaa
@[go_sem] theorem ltk_0_1 (n k : Nat) : (n < n + 1 + k) = True := by simp; omega
@[go_sem] theorem ltk_0_2 (n k : Nat) : (n < n + 1 + 1 + k) = True := by simp; omega
@[go_sem] theorem ltk_1_2 (n k : Nat) : (n + 1 < n + 1 + 1 + k) = True := by simp; omega
@[go_sem] theorem ltk_0_3 (n k : Nat) : (n < n + 1 + 1 + 1 + k) = True := by simp; omega
@[go_sem] theorem ltk_1_3 (n k : Nat) : (n + 1 < n + 1 + 1 + 1 + k) = True := by simp; omega
@[go_sem] theorem ltk_2_3 (n k : Nat) : (n + 1 + 1 < n + 1 + 1 + 1 + k) = True := by simp; omega
@[go_sem] theorem ltk_0_4 (n k : Nat) : (n < n + 1 + 1 + 1 + 1 + k) = True := by simp; omega
@[go_sem] theorem ltk_1_4 (n k : Nat) : (n + 1 < n + 1 + 1 + 1 + 1 + k) = True := by simp; omega
@[go_sem] theorem ltk_2_4 (n k : Nat) : (n + 1 + 1 < n + 1 + 1 + 1 + 1 + k) = True := by simp; omega
@[go_sem] theorem ltk_3_4 (n k : Nat) : (n + 1 + 1 + 1 < n + 1 + 1 + 1 + 1 + k) = True := by simp; omega
@[go_sem] theorem ltk_0_5 (n k : Nat) : (n < n + 1 + 1 + 1 + 1 + 1 + k) = True := by simp; omega
@[go_sem] theorem ltk_1_5 (n k : Nat) : (n + 1 < n + 1 + 1 + 1 + 1 + 1 + k) = True := by simp; omega
@[go_sem] theorem ltk_2_5 (n k : Nat) : (n + 1 + 1 < n + 1 + 1 + 1 + 1 + 1 + k) = True := by simp; omega
@[go_sem] theorem ltk_3_5 (n k : Nat) : (n + 1 + 1 + 1 < n + 1 + 1 + 1 + 1 + 1 + k) = True := by simp; omega
@[go_sem] theorem ltk_4_5 (n k : Nat) : (n + 1 + 1 + 1 + 1 < n + 1 + 1 + 1 + 1 + 1 + k) = True := by simp; omega
@[go_sem] theorem ltk_0_6 (n k : Nat) : (n < n + 1 + 1 + 1 + 1 + 1 + 1 + k) = True := by simp; omega
@[go_sem] theorem ltk_1_6 (n k : Nat) : (n + 1 < n + 1 + 1 + 1 + 1 + 1 + 1 + k) = True := by simp; omega
@[go_sem] theorem ltk_2_6 (n k : Nat) : (n + 1 + 1 < n + 1 + 1 + 1 + 1 + 1 + 1 + k) = True := by simp; omega
@[go_sem] theorem ltk_3_6 (n k : Nat) : (n + 1 + 1 + 1 < n + 1 + 1 + 1 + 1 + 1 + 1 + k) = True := by simp; omega
@[go_sem] theorem ltk_4_6 (n k : Nat) : (n + 1 + 1 + 1 + 1 < n + 1 + 1 + 1 + 1 + 1 + 1 + k) = True := by simp; omega
@[go_sem] theorem ltk_5_6 (n k : Nat) : (n + 1 + 1 + 1 + 1 + 1 < n + 1 + 1 + 1 + 1 + 1 + 1 + k) = True := by simp; omega
@[go_sem] theorem ltk_0_7 (n k : Nat) : (n < n + 1 + 1 + 1 + 1 + 1 + 1 + 1 + k) = True := by simp; omega
@[go_sem] theorem ltk_1_7 (n k : Nat) : (n + 1 < n + 1 + 1 + 1 + 1 + 1 + 1 + 1 + k) = True := by simp; omega
@[go_sem] theorem ltk_2_7 (n k : Nat) : (n + 1 + 1 < n + 1 + 1 + 1 + 1 + 1 + 1 + 1 + k) = True := by simp; omega
@[go_sem] theorem ltk_3_7 (n k : Nat) : (n + 1 + 1 + 1 < n + 1 + 1 + 1 + 1 + 1 + 1 + 1 + k) = True := by simp; omega
@[go_sem] theorem ltk_4_7 (n k : Nat) : (n + 1 + 1 + 1 + 1 < n + 1 + 1 + 1 + 1 + 1 + 1 + 1 + k) = True := by simp; omega
@[go_sem] theorem ltk_5_7 (n k : Nat) : (n + 1 + 1 + 1 + 1 + 1 < n + 1 + 1 + 1 + 1 + 1 + 1 + 1 + k) = True := by simp; omega
@[go_sem] theorem ltk_6_7 (n k : Nat) : (n + 1 + 1 + 1 + 1 + 1 + 1 < n + 1 + 1 + 1 + 1 + 1 + 1 + 1 + k) = True := by simp; omega
end Go.Proofs.Ytlkbghdeingimaa
