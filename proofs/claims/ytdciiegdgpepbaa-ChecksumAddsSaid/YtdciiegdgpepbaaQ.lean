/- Totals do not hang on the order, and add up. -/
import Derived.Test.YtdciiegdgpepbaaG
set_option linter.unusedVariables false
set_option linter.unusedSimpArgs false
namespace Go.Proofs.Ytdciiegdgpepbaa
def sumV (f : Nat → Nat) : Nat → Nat
  | 0 => 0
  | k + 1 => sumV f k + f k
theorem tot_sum (xs : Nat → ByteArray) : ∀ k, totAt xs k = sumV (fun i => valOf (xs i)) k % 100000000
  | 0 => rfl
  | k + 1 => by
    show (totAt xs k + valOf (xs k)) % 100000000 = (sumV _ k + valOf (xs k)) % 100000000
    rw [tot_sum xs k]
    omega
theorem sumV_front (f : Nat → Nat) : ∀ k, sumV f (k + 1) = f 0 + sumV (fun i => f (i + 1)) k
  | 0 => by show 0 + f 0 = f 0 + 0; omega
  | k + 1 => by
    show sumV f (k + 1) + f (k + 1) = f 0 + (sumV _ k + f (k + 1))
    rw [sumV_front f k]; omega
theorem sumV_congr {f g : Nat → Nat} : ∀ k, (∀ i, i < k → f i = g i) → sumV f k = sumV g k
  | 0, _ => rfl
  | k + 1, h => by
    show sumV f k + f k = sumV g k + g k
    rw [sumV_congr k (fun i hi => h i (by omega)), h k (by omega)]
theorem sumV_rev : ∀ (k : Nat) (f : Nat → Nat), sumV (fun i => f (k - 1 - i)) k = sumV f k
  | 0, _ => rfl
  | k + 1, f => by
    show sumV (fun i => f (k + 1 - 1 - i)) k + f (k + 1 - 1 - k) = sumV f (k + 1)
    rw [sumV_front f k, ← sumV_rev k (fun i => f (i + 1)), show k + 1 - 1 - k = 0 by omega, Nat.add_comm]
    congr 1
    exact sumV_congr k (fun i hi => by
      show f (k + 1 - 1 - i) = f (k - 1 - i + 1)
      rw [show k + 1 - 1 - i = k - 1 - i + 1 by omega])
theorem sumV_split (f : Nat → Nat) (c : Nat) : ∀ d, sumV f (c + d) = sumV f c + sumV (fun i => f (c + i)) d
  | 0 => rfl
  | d + 1 => by
    show sumV f (c + d) + f (c + d) = sumV f c + (sumV _ d + f (c + d))
    rw [sumV_split f c d]; omega
theorem tot_rev {xs ys : Nat → ByteArray} (n : Nat) (h : ∀ i, i < n → ys i = xs (n - 1 - i)) : totAt ys n = totAt xs n := by
  rw [tot_sum, tot_sum, ← sumV_rev n (fun i => valOf (xs i)), sumV_congr n (fun i hi => by rw [h i hi])]
theorem tot_split (xs : Nat → ByteArray) {c n : Nat} (h : c ≤ n) : (totAt xs c + totAt (fun i => xs (c + i)) (n - c)) % 100000000 = totAt xs n := by
  obtain ⟨d, rfl⟩ := Nat.exists_eq_add_of_le h
  rw [Nat.add_sub_cancel_left, tot_sum, tot_sum, tot_sum, sumV_split]
  omega
end Go.Proofs.Ytdciiegdgpepbaa
