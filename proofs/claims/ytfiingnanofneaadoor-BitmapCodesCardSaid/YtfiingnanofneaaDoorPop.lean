/- How many bits a number has: the sums of bits side by side. -/
import Derived.Test.YtfiingnanofneaaDoorN
set_option linter.unusedVariables false
set_option linter.unusedSimpArgs false
namespace Go.Proofs.YtfiingnanofneaaDoor.pop
/-- the bits of a number, the lowest f of them -/
def popN : Nat → Nat → Nat
  | 0, _ => 0
  | f + 1, x => x % 2 + popN f (x / 2)
def m0 : Nat → Nat
  | 0 => 0
  | k + 1 => 85 + 256 * m0 k
def m1 : Nat → Nat
  | 0 => 0
  | k + 1 => 51 + 256 * m1 k
def m2 : Nat → Nat
  | 0 => 0
  | k + 1 => 15 + 256 * m2 k
def s1 (k x : Nat) : Nat := (x / 2 &&& m0 k) + (x &&& m0 k)
def s2 (k x : Nat) : Nat := (x / 4 &&& m1 k) + (x &&& m1 k)
def s3 (k x : Nat) : Nat := (x / 16 + x) &&& m2 k
def spread : Nat → Nat → Nat
  | 0, _ => 0
  | k + 1, x => popN 8 (x % 256) + 256 * spread k (x / 256)
theorem and_mod (a b : Nat) : (a &&& b) % 256 = (a % 256) &&& (b % 256) := Nat.and_mod_two_pow (n := 8)
theorem and_div (a b : Nat) : (a &&& b) / 256 = (a / 256) &&& (b / 256) := by
  have := Nat.shiftRight_and_distrib (a := a) (b := b) (i := 8)
  simpa [Nat.shiftRight_eq_div_pow] using this
theorem m0_mod (k : Nat) : m0 (k + 1) % 256 = 85 ∧ m0 (k + 1) / 256 = m0 k := by
  have e : m0 (k + 1) = 85 + 256 * m0 k := rfl
  generalize m0 (k + 1) = a at *
  omega
theorem m1_mod (k : Nat) : m1 (k + 1) % 256 = 51 ∧ m1 (k + 1) / 256 = m1 k := by
  have e : m1 (k + 1) = 51 + 256 * m1 k := rfl
  generalize m1 (k + 1) = a at *
  omega
theorem m2_mod (k : Nat) : m2 (k + 1) % 256 = 15 ∧ m2 (k + 1) / 256 = m2 k := by
  have e : m2 (k + 1) = 15 + 256 * m2 k := rfl
  generalize m2 (k + 1) = a at *
  omega
def b1 (l : Nat) : Nat := (l / 2 &&& 85) + (l &&& 85)
def b2 (l : Nat) : Nat := (l / 4 &&& 51) + (l &&& 51)
theorem t1 : ∀ l : Fin 256, ∀ h : Fin 2, ((l.val / 2 + 128 * h.val) &&& 85) = (l.val / 2 &&& 85) ∧ b1 l.val < 256 := by decide +kernel
theorem t2 : ∀ l : Fin 256, ∀ h : Fin 4, ((l.val / 4 + 64 * h.val) &&& 51) = (l.val / 4 &&& 51) := by decide +kernel
theorem t3 : ∀ l : Fin 256, b2 (b1 l.val) < 137 ∧ b2 (b1 l.val) % 16 ≤ 4 ∧ b2 (b1 l.val) / 16 ≤ 4 := by decide +kernel
theorem t4 : ∀ l : Fin 256, ∀ h : Fin 5, ((b2 (b1 l.val) / 16 + 16 * h.val + b2 (b1 l.val)) &&& 15) = popN 8 l.val := by decide +kernel
theorem t5 : ∀ l : Fin 256, b2 l.val < 256 := by decide +kernel
theorem s1_byte (k x : Nat) : s1 (k + 1) x % 256 = b1 (x % 256) ∧ s1 (k + 1) x / 256 = s1 k (x / 256) := by
  have hl := t1 ⟨x % 256, Nat.mod_lt _ (by decide)⟩ ⟨x / 256 % 2, Nat.mod_lt _ (by decide)⟩
  obtain ⟨h1, h2⟩ := hl
  simp only at h1 h2
  have e1 : x / 2 % 256 = x % 256 / 2 + 128 * (x / 256 % 2) := by omega
  have e2 : x / 2 / 256 = x / 256 / 2 := by omega
  have a1 := and_mod (x / 2) (m0 (k + 1))
  have a2 := and_div (x / 2) (m0 (k + 1))
  have a3 := and_mod x (m0 (k + 1))
  have a4 := and_div x (m0 (k + 1))
  rw [(m0_mod k).1] at a1 a3
  rw [(m0_mod k).2] at a2 a4
  rw [e1, h1] at a1
  rw [e2] at a2
  unfold s1 b1 at *
  omega
theorem s2_byte (k x : Nat) : s2 (k + 1) x % 256 = b2 (x % 256) ∧ s2 (k + 1) x / 256 = s2 k (x / 256) := by
  have h1 := t2 ⟨x % 256, Nat.mod_lt _ (by decide)⟩ ⟨x / 256 % 4, Nat.mod_lt _ (by decide)⟩
  have h2 := t5 ⟨x % 256, Nat.mod_lt _ (by decide)⟩
  simp only at h1 h2
  have e1 : x / 4 % 256 = x % 256 / 4 + 64 * (x / 256 % 4) := by omega
  have e2 : x / 4 / 256 = x / 256 / 4 := by omega
  have a1 := and_mod (x / 4) (m1 (k + 1))
  have a2 := and_div (x / 4) (m1 (k + 1))
  have a3 := and_mod x (m1 (k + 1))
  have a4 := and_div x (m1 (k + 1))
  rw [(m1_mod k).1] at a1 a3
  rw [(m1_mod k).2] at a2 a4
  rw [e1, h1] at a1
  rw [e2] at a2
  unfold s2 b2 at *
  omega
theorem low4 (k x : Nat) : s2 k (s1 k x) % 16 ≤ 4 := by
  cases k with
  | zero => simp [s2, m1]
  | succ k =>
    have h := (s2_byte k (s1 (k + 1) x)).1
    rw [(s1_byte k x).1] at h
    have := (t3 ⟨x % 256, Nat.mod_lt _ (by decide)⟩).2.1
    simp only at this
    rw [← h] at this
    omega
theorem s3_byte (k x : Nat) : s3 (k + 1) (s2 (k + 1) (s1 (k + 1) x)) = popN 8 (x % 256) + 256 * s3 k (s2 k (s1 k (x / 256))) := by
  obtain ⟨p1, p2⟩ := s1_byte k x
  obtain ⟨q1, q2⟩ := s2_byte k (s1 (k + 1) x)
  rw [p1] at q1
  rw [p2] at q2
  have hl := low4 k (x / 256)
  have h3 := t3 ⟨x % 256, Nat.mod_lt _ (by decide)⟩
  have h4 := t4 ⟨x % 256, Nat.mod_lt _ (by decide)⟩ ⟨s2 k (s1 k (x / 256)) % 16, by omega⟩
  simp only at h3 h4
  generalize s2 (k + 1) (s1 (k + 1) x) = y at *
  generalize s2 k (s1 k (x / 256)) = z at *
  generalize b2 (b1 (x % 256)) = c at *
  have e1 : (y / 16 + y) % 256 = c / 16 + 16 * (z % 16) + c := by omega
  have e2 : (y / 16 + y) / 256 = z / 16 + z := by omega
  have a1 := and_mod (y / 16 + y) (m2 (k + 1))
  have a2 := and_div (y / 16 + y) (m2 (k + 1))
  rw [(m2_mod k).1, e1, h4] at a1
  rw [(m2_mod k).2, e2] at a2
  unfold s3
  omega
theorem s3_spread (k x : Nat) : s3 k (s2 k (s1 k x)) = spread k x := by
  induction k generalizing x with
  | zero => simp [s3, m2, spread]
  | succ k ih => rw [s3_byte, ih]; rfl
theorem pop8 : ∀ l : Fin 256, popN 8 l.val ≤ 8 := by decide +kernel
theorem pop8_le (x : Nat) : popN 8 (x % 256) ≤ 8 := pop8 ⟨x % 256, Nat.mod_lt _ (by decide)⟩
theorem pS (f x : Nat) : popN (f + 1) x = x % 2 + popN f (x / 2) := rfl
theorem popN_two (f x : Nat) : popN (f + 1 + 1) x = x % 4 % 2 + x % 4 / 2 + popN f (x / 4) := by
  rw [pS, pS, show x / 2 / 2 = x / 4 from by omega]; omega
theorem popN_four (f x : Nat) : popN (f + 1 + 1 + 1 + 1) x = (x % 16 % 4 % 2 + x % 16 % 4 / 2 + (x % 16 / 4 % 2 + x % 16 / 4 / 2)) + popN f (x / 16) := by
  rw [popN_two, popN_two, show x / 4 / 4 = x / 16 from by omega, show x / 4 % 4 = x % 16 / 4 from by omega, show x % 16 % 4 = x % 4 from by omega]; omega
theorem popN_add (f x : Nat) : popN (f + 1 + 1 + 1 + 1 + 1 + 1 + 1 + 1) x = popN (0 + 1 + 1 + 1 + 1 + 1 + 1 + 1 + 1) (x % 256) + popN f (x / 256) := by
  rw [popN_four, popN_four, popN_four, popN_four, show x / 16 / 16 = x / 256 from by omega, show x % 256 % 16 = x % 16 from by omega, show x % 256 / 16 % 16 = x / 16 % 16 from by omega]
  have p0 : ∀ z, popN 0 z = 0 := fun _ => rfl
  rw [p0]
  omega
/-- the sums of neighbours, and the result -/
def f1 (y : Nat) : Nat := y + y / 256
def f2 (y : Nat) : Nat := y + y / 65536
def f3 (y : Nat) : Nat := y + y / 4294967296
theorem fin_sum (y p0 p1 p2 p3 p4 p5 p6 p7 : Nat) (h0 : p0 ≤ 8) (h1 : p1 ≤ 8) (h2 : p2 ≤ 8) (h3 : p3 ≤ 8) (h4 : p4 ≤ 8) (h5 : p5 ≤ 8) (h6 : p6 ≤ 8) (h7 : p7 ≤ 8)
    (hy : y = p0 + 256 * (p1 + 256 * (p2 + 256 * (p3 + 256 * (p4 + 256 * (p5 + 256 * (p6 + 256 * p7))))))) :
    f3 (f2 (f1 y)) % 128 = p0 + (p1 + (p2 + (p3 + (p4 + (p5 + (p6 + p7)))))) := by
  obtain ⟨z, hz⟩ : ∃ z, f1 y = z := ⟨_, rfl⟩
  obtain ⟨u, hu⟩ : ∃ u, f2 z = u := ⟨_, rfl⟩
  rw [hz, hu]
  unfold f1 at hz
  unfold f2 at hu
  unfold f3
  have e1 : y / 256 = p1 + 256 * (p2 + 256 * (p3 + 256 * (p4 + 256 * (p5 + 256 * (p6 + 256 * p7))))) := by omega
  have z1 : z = (p0 + p1) + 256 * ((p1 + p2) + 256 * ((p2 + p3) + 256 * ((p3 + p4) + 256 * ((p4 + p5) + 256 * ((p5 + p6) + 256 * ((p6 + p7) + 256 * p7)))))) := by omega
  clear e1 hz hy
  have e2 : z / 65536 = (p2 + p3) + 256 * ((p3 + p4) + 256 * ((p4 + p5) + 256 * ((p5 + p6) + 256 * ((p6 + p7) + 256 * p7)))) := by omega
  have u1 : u = (p0 + p1 + p2 + p3) + 256 * ((p1 + p2 + p3 + p4) + 256 * ((p2 + p3 + p4 + p5) + 256 * ((p3 + p4 + p5 + p6) + 256 * ((p4 + p5 + p6 + p7) + 256 * ((p5 + p6 + p7) + 256 * ((p6 + p7) + 256 * p7)))))) := by omega
  clear e2 hu z1
  have e3 : u / 4294967296 = (p4 + p5 + p6 + p7) + 256 * ((p5 + p6 + p7) + 256 * ((p6 + p7) + 256 * p7)) := by omega
  rw [e3]
  omega
theorem pa (f g x : Nat) (h : g = f + 1 + 1 + 1 + 1 + 1 + 1 + 1 + 1) : popN g x = popN 8 (x % 256) + popN f (x / 256) := by subst h; exact popN_add f x
theorem sp (k x : Nat) : spread (k + 1) x = popN 8 (x % 256) + 256 * spread k (x / 256) := rfl
theorem sp1 (x : Nat) : spread 1 x = popN 8 (x % 256) := by rw [sp 0]; show _ + 256 * 0 = _; omega
theorem fin_spread (x : Nat) : f3 (f2 (f1 (spread 8 x))) % 128 = popN 64 x := by
  have p0 : ∀ z, popN 0 z = 0 := fun _ => rfl
  rw [pa 56 64 x rfl, pa 48 56 _ rfl, pa 40 48 _ rfl, pa 32 40 _ rfl, pa 24 32 _ rfl, pa 16 24 _ rfl, pa 8 16 _ rfl]
  obtain ⟨l, hl⟩ : ∃ l, x / 256 / 256 / 256 / 256 / 256 / 256 / 256 = l := ⟨_, rfl⟩
  have hll : popN 8 l = popN 8 (l % 256) := by rw [pa 0 8 l rfl, p0]; rfl
  rw [hl, hll]
  refine fin_sum (spread 8 x) _ _ _ _ _ _ _ _ (pop8_le _) (pop8_le _) (pop8_le _) (pop8_le _) (pop8_le _) (pop8_le _) (pop8_le _) (pop8_le _) ?_
  rw [sp 7, sp 6, sp 5, sp 4, sp 3, sp 2, sp 1, sp1, hl]
theorem spread_le (x : Nat) : spread 8 x ≤ 8 * 72340172838076673 := by
  rw [sp 7, sp 6, sp 5, sp 4, sp 3, sp 2, sp 1, sp1]
  have h0 := pop8_le x
  have h1 := pop8_le (x / 256)
  have h2 := pop8_le (x / 256 / 256)
  have h3 := pop8_le (x / 256 / 256 / 256)
  have h4 := pop8_le (x / 256 / 256 / 256 / 256)
  have h5 := pop8_le (x / 256 / 256 / 256 / 256 / 256)
  have h6 := pop8_le (x / 256 / 256 / 256 / 256 / 256 / 256)
  have h7 := pop8_le (x / 256 / 256 / 256 / 256 / 256 / 256 / 256)
  generalize popN 8 (x % 256) = a0 at *
  generalize popN 8 (x / 256 % 256) = a1 at *
  generalize popN 8 (x / 256 / 256 % 256) = a2 at *
  generalize popN 8 (x / 256 / 256 / 256 % 256) = a3 at *
  generalize popN 8 (x / 256 / 256 / 256 / 256 % 256) = a4 at *
  generalize popN 8 (x / 256 / 256 / 256 / 256 / 256 % 256) = a5 at *
  generalize popN 8 (x / 256 / 256 / 256 / 256 / 256 / 256 % 256) = a6 at *
  generalize popN 8 (x / 256 / 256 / 256 / 256 / 256 / 256 / 256 % 256) = a7 at *
  omega
end Go.Proofs.YtfiingnanofneaaDoor.pop
