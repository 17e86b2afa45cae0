/- The digits of a number; the reference's eight, Code and Text; the program's keyBytes. -/
import Derived.Test.YtgdgpimlaljpdaaDoorA
import Derived.Lib.ConvBytes
set_option linter.unusedVariables false
set_option linter.unusedSimpArgs false
namespace Go.Proofs.YtgdgpimlaljpdaaDoor
open Go.Sort Go.ChangeShapes Go.WideShapes Go.ChangeAt Go.RowKit
/-- the last k digits of a number -/
def lastD (b : Nat) (f : Nat → UInt8) : Nat → Nat → List UInt8
  | 0, _ => []
  | k + 1, u => lastD b f k (u / b) ++ [f (u % b)]
theorem lastD_len (b : Nat) (f : Nat → UInt8) (k u : Nat) : (lastD b f k u).length = k := by
  induction k generalizing u with
  | zero => rfl
  | succ k ih => rw [lastD, List.length_append, ih]; rfl
theorem lastD_cons (b : Nat) (f : Nat → UInt8) (k u : Nat) : lastD b f (k + 1) u = f (u / b ^ k % b) :: lastD b f k u := by
  induction k generalizing u with
  | zero => simp [lastD]
  | succ k ih =>
    rw [lastD, ih (u / b), Nat.div_div_eq_div_mul, ← Nat.pow_succ', List.cons_append]
    rfl
def bst (l : List UInt8) : ByteArray := ⟨l.toArray⟩
theorem bst_size (l : List UInt8) : (bst l).size = l.length := by simp [bst, ByteArray.size]
theorem bst_cons (c : UInt8) (l : List UInt8) : (⟨#[c]⟩ : ByteArray) ++ bst l = bst (c :: l) := by
  apply ByteArray.ext
  simp [bst]
theorem conv1 (W : World) (t : TypeId) (d : Int) (h0 : 0 ≤ d) (h1 : d ≤ 255) :
    (convert 38 9 (.slice (some ⟨W.heap.size, 0, none⟩) 1 1)).run Tryd.prog (W.alloc (.cells #[.int .u8 d] t)) = .ok (.string ⟨#[UInt8.ofNat d.toNat]⟩) (W.alloc (.cells #[.int .u8 d] t)) :=
  run_convert_bytes_back (P := Tryd.prog) _ 38 9 5 ⟨W.heap.size, 0, none⟩ 1 [UInt8.ofNat d.toNat] Tryd.underlying38 Tryd.underlying5 Tryd.underlying9 (fun j hj => by
    have hj0 : j = 0 := by simp at hj; omega
    subst hj0
    rw [Go.WideShapes.add_plain]
    refine ((Blk.new W t #[.int .u8 d]).cell 0).trans ?_
    show some (Value.int .u8 d) = some (Value.int .u8 ((UInt8.ofNat d.toNat).toNat : Nat))
    have e : (((UInt8.ofNat d.toNat).toNat : Nat) : Int) = d := by rw [UInt8.toNat_ofNat']; omega
    rw [e])
def c10 (d : Nat) : UInt8 := UInt8.ofNat (48 + d)
def hexc (d : Nat) : UInt8 := ([48, 49, 50, 51, 52, 53, 54, 55, 56, 57, 97, 98, 99, 100, 101, 102] : List UInt8).getD d 0
theorem hex_run (d : Nat) (h : d < 16) : ∀ w : World, (Instr.slice 9 (.string ⟨#[48, 49, 50, 51, 52, 53, 54, 55, 56, 57, 97, 98, 99, 100, 101, 102]⟩) (some (.int .u64 d)) (some (.int .u64 (d + 1))) none).run Tryd.prog w = .ok (.string ⟨#[hexc d]⟩) w := by
  have : d = 0 ∨ d = 1 ∨ d = 2 ∨ d = 3 ∨ d = 4 ∨ d = 5 ∨ d = 6 ∨ d = 7 ∨ d = 8 ∨ d = 9 ∨ d = 10 ∨ d = 11 ∨ d = 12 ∨ d = 13 ∨ d = 14 ∨ d = 15 := by omega
  rcases this with rfl | rfl | rfl | rfl | rfl | rfl | rfl | rfl | rfl | rfl | rfl | rfl | rfl | rfl | rfl | rfl <;> (intro w; kernel_rfl)
theorem div_step (u b k : Nat) (x q : Int) (hx : x = ((u / b ^ k : Nat) : Int)) (hq : q = x / (b : Int)) : q = ((u / b ^ (k + 1) : Nat) : Int) := by
  rw [hq, hx, Nat.pow_succ, ← Nat.div_div_eq_div_mul]; rfl
theorem dig_step (u b k : Nat) (f : Nat → UInt8) (x d : Int) (S : ByteArray) (hx : x = ((u / b ^ k : Nat) : Int)) (hd : d = x % (b : Int)) (hS : S = bst (lastD b f k u)) : (⟨#[f d.toNat]⟩ : ByteArray) ++ S = bst (lastD b f (k + 1) u) := by
  rw [hS, bst_cons, lastD_cons, hd, hx]; rfl
theorem x_lt (u b k : Nat) (x : Int) (hu : u < 18446744073709551616) (hx : x = ((u / b ^ k : Nat) : Int)) : 0 ≤ x ∧ x < 18446744073709551616 := by
  have : u / b ^ k ≤ u := Nat.div_le_self _ _
  generalize u / b ^ k = z at *
  omega
set_option maxHeartbeats 1000000 in
set_option maxRecDepth 20000 in
theorem eight_any (u : Nat) (hu : u < B64) (w : World) : Calls Tryd.prog 26 #[.int .u64 u] w fun e w' => e = .returned (.string (bst (lastD 256 UInt8.ofNat 8 u))) ∧ Below w.heap.size w w' := by
  have HU := Lib.hid hu
  clear hu
  go_enter Tryd.func26, Tryd.ntmps26
  go_wp2_with fail
  go_loopg [0, 3, 4] 8 (fun g v0 s i wr => Below w.heap.size w wr ∧ ∃ (k : Nat) (x : Int) (S : ByteArray), g + k = 8 ∧ v0 = .int .u64 x ∧ s = .string S ∧ i = .int .i64 (k : Nat) ∧ Hid (x = ((u / 256 ^ k : Nat) : Int)) ∧ Hid (S = bst (lastD 256 UInt8.ofNat k u)))
  case atStart => exact ⟨Below.refl _ _, 0, u, _, by omega, rfl, rfl, rfl, Lib.hid (by simp), Lib.hid rfl⟩
  case round =>
    obtain ⟨hb, k, x, S, hk, rfl, rfl, rfl, hx, hS⟩ := hrel
    have HB := Lib.hid hb
    have HK := Lib.hid hk
    by_cases hlt : k < 8
    · have h1 : (k : Int) < 8 := by omega
      obtain ⟨hx0, hx1⟩ := x_lt u 256 k x HU.out hx.out
      obtain ⟨d, hd⟩ : ∃ d : Int, d = x % 256 := ⟨_, rfl⟩
      obtain ⟨q, hq⟩ : ∃ q : Int, q = x / 256 := ⟨_, rfl⟩
      have e1 : Int.tmod x 256 = d := by rw [Int.tmod_eq_emod_of_nonneg hx0]; omega
      have e2 : Int.tdiv x 256 = q := by rw [Int.tdiv_eq_ediv_of_nonneg hx0]; omega
      have e3 : IntKind.u64.wrap q = q := by rw [IntKind.wrap_u64]; omega
      have d0 : 0 ≤ d := by omega
      have d1 : d ≤ 255 := by omega
      have hz : S.size = k := by rw [hS.out, bst_size, lastD_len]
      have hz1 : 1 + S.size ≤ 9223372036854775807 := by omega
      have HD := Lib.hid hd
      have HQ := Lib.hid hq
      have HN := Lib.hid hlt
      have C1 := fun t => conv1 wr t d d0 d1
      clear hb hk hd hq hx0 hx1 hz
      go_wp2_with fail
      go_roundg (gk - 1)
      case measure => have := HK.out; have := HN.out; omega
      case rel => exact ⟨HB.out.alloc (HB.out.size) _, k + 1, _, _, by have := HK.out; have := HN.out; omega, rfl, rfl, by go_num, Lib.hid (div_step u 256 k x _ hx.out HQ.out), Lib.hid (dig_step u 256 k UInt8.ofNat x d S hx.out HD.out hS.out)⟩
    · have h1 : ¬ (k : Int) < 8 := by omega
      have hkn : k = 8 := by omega
      have HKN := Lib.hid hkn
      clear hkn hb hk
      go_wp2_with fail
      go_ret
      exact ⟨by rw [hS.out, HKN.out]; first | done | rfl, HB.out⟩
set_option maxHeartbeats 1000000 in
set_option maxRecDepth 20000 in
theorem rcode_ok (u : Nat) (hu : u < B64) (n : Nat) (h1 : 1 ≤ n) (h2 : n ≤ 12) (w : World) : Calls Tryd.prog 10 #[.int .u64 u, .int .i64 n] w fun e w' => e = .returned (.tuple #[.string (bst (lastD 10 c10 n u)), .int .i64 0]) ∧ Below w.heap.size w w' := by
  have HU := Lib.hid hu
  clear hu
  go_enter Tryd.func10, Tryd.ntmps10
  go_wp2_with fail
  go_loopg [0, 6, 7] n (fun g v0 s i wr => Below w.heap.size w wr ∧ ∃ (k : Nat) (x : Int) (S : ByteArray), g + k = n ∧ v0 = .int .u64 x ∧ s = .string S ∧ i = .int .i64 (k : Nat) ∧ Hid (x = ((u / 10 ^ k : Nat) : Int)) ∧ Hid (S = bst (lastD 10 c10 k u)))
  case atStart => exact ⟨Below.refl _ _, 0, u, _, by omega, rfl, rfl, rfl, Lib.hid (by simp), Lib.hid rfl⟩
  case round =>
    obtain ⟨hb, k, x, S, hk, rfl, rfl, rfl, hx, hS⟩ := hrel
    have HB := Lib.hid hb
    have HK := Lib.hid hk
    by_cases hlt : k < n
    · have h1 : (k : Int) < (n : Int) := by omega
      obtain ⟨hx0, hx1⟩ := x_lt u 10 k x HU.out hx.out
      obtain ⟨d, hd⟩ : ∃ d : Int, d = x % 10 := ⟨_, rfl⟩
      obtain ⟨q, hq⟩ : ∃ q : Int, q = x / 10 := ⟨_, rfl⟩
      have e1 : Int.tmod x 10 = d := by rw [Int.tmod_eq_emod_of_nonneg hx0]; omega
      have e2 : Int.tdiv x 10 = q := by rw [Int.tdiv_eq_ediv_of_nonneg hx0]; omega
      have e3 : IntKind.u64.wrap q = q := by rw [IntKind.wrap_u64]; omega
      have d0 : 0 ≤ d := by omega
      have d1 : d ≤ 9 := by omega
      have hz : S.size = k := by rw [hS.out, bst_size, lastD_len]
      have hz1 : 1 + S.size ≤ 9223372036854775807 := by omega
      have HD := Lib.hid hd
      have HQ := Lib.hid hq
      have HN := Lib.hid hlt
      have e4 : IntKind.u64.wrap (48 + d) = 48 + d := by rw [IntKind.wrap_u64]; omega
      have C0 := fun t => conv1 wr t (48 + d) (by omega) (by omega)
      have ec : UInt8.ofNat (48 + d).toNat = c10 d.toNat := by rw [c10]; congr 1; omega
      rw [ec] at C0
      have C1 := C0
      clear C0 ec
      clear hb hk hd hq hx0 hx1 hz
      go_wp2_with fail
      go_roundg (gk - 1)
      case measure => have := HK.out; have := HN.out; omega
      case rel => exact ⟨HB.out.alloc (HB.out.size) _, k + 1, _, _, by have := HK.out; have := HN.out; omega, rfl, rfl, by go_num, Lib.hid (div_step u 10 k x _ hx.out HQ.out), Lib.hid (dig_step u 10 k c10 x d S hx.out HD.out hS.out)⟩
    · have h1 : ¬ (k : Int) < (n : Int) := by omega
      have hkn : k = n := by omega
      have HKN := Lib.hid hkn
      clear hkn hb hk
      go_wp2_with fail
      go_ret2
      exact ⟨by rw [hS.out, HKN.out]; first | done | rfl, HB.out⟩
set_option maxHeartbeats 1000000 in
set_option maxRecDepth 20000 in
theorem rtext_any (u : Nat) (hu : u < B64) (w : World) : Calls Tryd.prog 15 #[.int .u64 u] w fun e w' => e = .returned (.string (bst (lastD 16 hexc 16 u))) ∧ Below w.heap.size w w' := by
  have HU := Lib.hid hu
  clear hu
  go_enter Tryd.func15, Tryd.ntmps15
  go_wp2_with fail
  go_loopg [0, 3, 4] 16 (fun g v0 s i wr => Below w.heap.size w wr ∧ ∃ (k : Nat) (x : Int) (S : ByteArray), g + k = 16 ∧ v0 = .int .u64 x ∧ s = .string S ∧ i = .int .i64 (k : Nat) ∧ Hid (x = ((u / 16 ^ k : Nat) : Int)) ∧ Hid (S = bst (lastD 16 hexc k u)))
  case atStart => exact ⟨Below.refl _ _, 0, u, _, by omega, rfl, rfl, rfl, Lib.hid (by simp), Lib.hid rfl⟩
  case round =>
    obtain ⟨hb, k, x, S, hk, rfl, rfl, rfl, hx, hS⟩ := hrel
    have HB := Lib.hid hb
    have HK := Lib.hid hk
    by_cases hlt : k < 16
    · have h1 : (k : Int) < 16 := by omega
      obtain ⟨hx0, hx1⟩ := x_lt u 16 k x HU.out hx.out
      obtain ⟨d, hd⟩ : ∃ d : Int, d = x % 16 := ⟨_, rfl⟩
      obtain ⟨q, hq⟩ : ∃ q : Int, q = x / 16 := ⟨_, rfl⟩
      have e1 : Int.tmod x 16 = d := by rw [Int.tmod_eq_emod_of_nonneg hx0]; omega
      have e2 : Int.tdiv x 16 = q := by rw [Int.tdiv_eq_ediv_of_nonneg hx0]; omega
      have e3 : IntKind.u64.wrap q = q := by rw [IntKind.wrap_u64]; omega
      have d0 : 0 ≤ d := by omega
      have d1 : d ≤ 15 := by omega
      have hz : S.size = k := by rw [hS.out, bst_size, lastD_len]
      have hz1 : 1 + S.size ≤ 9223372036854775807 := by omega
      have HD := Lib.hid hd
      have HQ := Lib.hid hq
      have HN := Lib.hid hlt
      have C1 := hex_run d.toNat (by omega)
      rw [show ((d.toNat : Nat) : Int) = d by omega] at C1
      have e4 : IntKind.u64.wrap (d + 1) = d + 1 := by rw [IntKind.wrap_u64]; omega
      clear hb hk hd hq hx0 hx1 hz
      go_wp2_with fail
      go_roundg (gk - 1)
      case measure => have := HK.out; have := HN.out; omega
      case rel => exact ⟨HB.out, k + 1, _, _, by have := HK.out; have := HN.out; omega, rfl, rfl, by go_num, Lib.hid (div_step u 16 k x _ hx.out HQ.out), Lib.hid (dig_step u 16 k hexc x d S hx.out HD.out hS.out)⟩
    · have h1 : ¬ (k : Int) < 16 := by omega
      have hkn : k = 16 := by omega
      have HKN := Lib.hid hkn
      clear hkn hb hk
      go_wp2_with fail
      go_ret
      exact ⟨by rw [hS.out, HKN.out]; first | done | rfl, HB.out⟩
end Go.Proofs.YtgdgpimlaljpdaaDoor
