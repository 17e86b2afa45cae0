/- Mac, Derive, Verify of both. -/
import Derived.Test.YtgdgpimlaljpdaaDoorL
set_option linter.unusedVariables false
set_option linter.unusedSimpArgs false
namespace Go.Proofs.YtgdgpimlaljpdaaDoor
open Go.Sort Go.ChangeShapes Go.WideShapes Go.ChangeAt Go.RowKit
def b8 (b0 b1 b2 b3 b4 b5 b6 b7 : Int) : ByteArray := bst [UInt8.ofNat b0.toNat, UInt8.ofNat b1.toNat, UInt8.ofNat b2.toNat, UInt8.ofNat b3.toNat, UInt8.ofNat b4.toNat, UInt8.ofNat b5.toNat, UInt8.ofNat b6.toNat, UInt8.ofNat b7.toNat]
theorem u8_of {b : Int} (h : 0 ≤ b ∧ b < 256) : (((UInt8.ofNat b.toNat).toNat : Nat) : Int) = b := by
  rw [UInt8.toNat_ofNat']; omega
theorem conv8 (w : World) (t : TypeId) (b0 b1 b2 b3 b4 b5 b6 b7 : Int) (h0 : 0 ≤ b0 ∧ b0 < 256) (h1 : 0 ≤ b1 ∧ b1 < 256) (h2 : 0 ≤ b2 ∧ b2 < 256) (h3 : 0 ≤ b3 ∧ b3 < 256) (h4 : 0 ≤ b4 ∧ b4 < 256) (h5 : 0 ≤ b5 ∧ b5 < 256) (h6 : 0 ≤ b6 ∧ b6 < 256) (h7 : 0 ≤ b7 ∧ b7 < 256) :
    (convert 38 9 (.slice (some ⟨w.heap.size, 0, none⟩) 8 8)).run Tryd.prog (w.alloc (.cells #[.int .u8 b0, .int .u8 b1, .int .u8 b2, .int .u8 b3, .int .u8 b4, .int .u8 b5, .int .u8 b6, .int .u8 b7] t)) =
      .ok (.string (b8 b0 b1 b2 b3 b4 b5 b6 b7)) (w.alloc (.cells #[.int .u8 b0, .int .u8 b1, .int .u8 b2, .int .u8 b3, .int .u8 b4, .int .u8 b5, .int .u8 b6, .int .u8 b7] t)) :=
  run_convert_bytes_back (P := Tryd.prog) (w.alloc (.cells #[.int .u8 b0, .int .u8 b1, .int .u8 b2, .int .u8 b3, .int .u8 b4, .int .u8 b5, .int .u8 b6, .int .u8 b7] t)) 38 9 5 ⟨w.heap.size, 0, none⟩ 8
    [UInt8.ofNat b0.toNat, UInt8.ofNat b1.toNat, UInt8.ofNat b2.toNat, UInt8.ofNat b3.toNat, UInt8.ofNat b4.toNat, UInt8.ofNat b5.toNat, UInt8.ofNat b6.toNat, UInt8.ofNat b7.toNat] Tryd.underlying38 Tryd.underlying5 Tryd.underlying9 (fun j hj => by
      rw [Go.WideShapes.add_plain, (Blk.new w t _).cell]
      match j, hj with
      | 0, _ => exact congrArg (fun x => some (Value.int .u8 x)) (u8_of h0).symm
      | 1, _ => exact congrArg (fun x => some (Value.int .u8 x)) (u8_of h1).symm
      | 2, _ => exact congrArg (fun x => some (Value.int .u8 x)) (u8_of h2).symm
      | 3, _ => exact congrArg (fun x => some (Value.int .u8 x)) (u8_of h3).symm
      | 4, _ => exact congrArg (fun x => some (Value.int .u8 x)) (u8_of h4).symm
      | 5, _ => exact congrArg (fun x => some (Value.int .u8 x)) (u8_of h5).symm
      | 6, _ => exact congrArg (fun x => some (Value.int .u8 x)) (u8_of h6).symm
      | 7, _ => exact congrArg (fun x => some (Value.int .u8 x)) (u8_of h7).symm)
theorem al2 {w W : World} {o : Obj} (h : Below w.heap.size w W) : Below w.heap.size w (W.alloc o) := h.alloc h.size o
theorem m256 (y : Int) : 0 ≤ y % 256 ∧ y % 256 < 256 := by omega
/-- the eight bytes of a key -/
def kb (u : Nat) : ByteArray := bst (lastD 256 UInt8.ofNat 8 u)
theorem kb_b8 (u : Nat) (x : Int) (hx : x = u) : b8 (x / 72057594037927936 % 256) (x / 281474976710656 % 256) (x / 1099511627776 % 256) (x / 4294967296 % 256) (x / 16777216 % 256) (x / 65536 % 256) (x / 256 % 256) (x % 256) = kb u := by
  subst hx
  have e : ∀ (a : Nat), ((u : Int) / (a : Int) % 256).toNat = u / a % 256 := by intro a; exact congrArg Int.toNat (show ((u : Int) / (a : Int) % 256) = ((u / a % 256 : Nat) : Int) by simp)
  have e0 : ((u : Int) % 256).toNat = u % 256 := by omega
  have h := fun a => e a
  unfold b8 kb
  rw [show ((u : Int) / 72057594037927936 % 256).toNat = _ from e 72057594037927936, show ((u : Int) / 281474976710656 % 256).toNat = _ from e 281474976710656, show ((u : Int) / 1099511627776 % 256).toNat = _ from e 1099511627776, show ((u : Int) / 4294967296 % 256).toNat = _ from e 4294967296, show ((u : Int) / 16777216 % 256).toNat = _ from e 16777216, show ((u : Int) / 65536 % 256).toNat = _ from e 65536, show ((u : Int) / 256 % 256).toNat = _ from e 256, e0]
  have e2 : lastD 256 UInt8.ofNat 8 u = [UInt8.ofNat (u / 256 ^ 7 % 256), UInt8.ofNat (u / 256 ^ 6 % 256), UInt8.ofNat (u / 256 ^ 5 % 256), UInt8.ofNat (u / 256 ^ 4 % 256), UInt8.ofNat (u / 256 ^ 3 % 256), UInt8.ofNat (u / 256 ^ 2 % 256), UInt8.ofNat (u / 256 ^ 1 % 256), UInt8.ofNat (u / 256 ^ 0 % 256)] := by
    rw [lastD_cons, lastD_cons, lastD_cons, lastD_cons, lastD_cons, lastD_cons, lastD_cons, lastD_cons]; rfl
  rw [e2]
  rw [show (256 : Nat) ^ 7 = 72057594037927936 from by decide, show (256 : Nat) ^ 6 = 281474976710656 from by decide, show (256 : Nat) ^ 5 = 1099511627776 from by decide, show (256 : Nat) ^ 4 = 4294967296 from by decide, show (256 : Nat) ^ 3 = 16777216 from by decide, show (256 : Nat) ^ 2 = 65536 from by decide, show (256 : Nat) ^ 1 = 256 from by decide, show (256 : Nat) ^ 0 = 1 from by decide, Nat.div_one]
set_option maxHeartbeats 2000000 in
set_option maxRecDepth 20000 in
theorem keyBytes_any (u : Nat) (hu : u < B64) (w : World) : Calls Tryd.prog 20 #[.int .u64 u] w fun e w' => e = .returned (.string (kb u)) ∧ Below w.heap.size w w' := by
  have HU := Lib.hid hu
  obtain ⟨x, hx⟩ : ∃ x : Int, x = u := ⟨_, rfl⟩
  have hx0 : 0 ≤ x := by omega
  rw [← hx]
  have HX := Lib.hid hx
  clear hu hx
  go_enter Tryd.func20, Tryd.ntmps20
  go_wp2_with fail
  refine wp_loop_rounds 9 ?_
  iterate 9
    rw [rounds_succ]
    go_wp2_with fail
  rw [conv8 w 46 _ _ _ _ _ _ _ _ (m256 _) (m256 _) (m256 _) (m256 _) (m256 _) (m256 _) (m256 _) (m256 _)]
  go_wp2_with fail
  go_ret
  exact ⟨by rw [← kb_b8 u x HX.out]; rfl, al (Below.refl _ _)⟩
theorem join3 (a b c : ByteArray) : (⟨(Lib.join ([a, b, c].map (·.data.toList)) (⟨#[]⟩ : ByteArray).data.toList).toArray⟩ : ByteArray) = a ++ b ++ c := by
  apply ByteArray.ext
  simp [Lib.join]
theorem join3_len (a b c : ByteArray) : (Lib.join ([a, b, c].map (·.data.toList)) (⟨#[]⟩ : ByteArray).data.toList).length = a.size + b.size + c.size := by
  have h := congrArg ByteArray.size (join3 a b c)
  rw [ByteArray.size_append, ByteArray.size_append] at h
  exact (bst_size _).symm.trans h
def macN (u : Nat) (s : ByteArray) : Nat := mixN (hashOf (kb u ++ s ++ kb u))
theorem kb_size (u : Nat) : (kb u).size = 8 := by rw [kb, bst_size, lastD_len]
theorem macN_lt (u : Nat) (s : ByteArray) : macN u s < B64 := mixN_lt _
theorem digest_any (a b c : ByteArray) (g : Nat) (w : World) (t : TypeId) (hg : Blk w g t #[.string a, .string b, .string c]) (hs : a.size + b.size + c.size ≤ 4000) :
    Calls Tryd.prog 21 #[.slice (some ⟨g, 0, none⟩) 3 3] w fun e w' => e = .returned (.int .u64 (mixN (hashOf (a ++ b ++ c)) : Nat)) ∧ Below w.heap.size w w' := by
  have HJ := Tryd.strings_Join g 0 3 [a, b, c] ⟨#[]⟩ w (fun j x hx => by
    rw [Nat.zero_add, hg.cell]
    match j, hx with
    | 0, h => simp at h; subst h; rfl
    | 1, h => simp at h; subst h; rfl
    | 2, h => simp at h; subst h; rfl
    | _ + 3, h => simp at h) hg.lt (by simp) (by simp) (by rw [join3_len]; omega)
  rw [join3] at HJ
  have hsz : (a ++ b ++ c).size ≤ maxLen := by simp only [ByteArray.size_append]; unfold maxLen; omega
  have HH : Hid (∀ w, _) := Lib.hid (fun w => hash_any (a ++ b ++ c) w hsz)
  have HM : Hid (∀ w, _) := Lib.hid (fun w => mix_any (hashOf (a ++ b ++ c)) (hashOf_lt _) w)
  replace HJ := Lib.hid HJ
  generalize mixN (hashOf (a ++ b ++ c)) = z at *
  generalize hashOf (a ++ b ++ c) = y at *
  generalize a ++ b ++ c = S at *
  clear hsz hs hg
  go_enter Tryd.func21, Tryd.ntmps21
  go_wp2_with fail
  refine HJ.out.mono ?_
  rintro e w1 ⟨rfl, hb⟩
  have HB := Lib.hid hb
  clear hb
  go_wp2_with fail
  refine (HH.out _).mono ?_
  rintro e w2 ⟨rfl, rfl⟩
  go_wp2_with fail
  refine (HM.out _).mono ?_
  rintro e w2 ⟨rfl, rfl⟩
  go_wp2_with fail
  go_ret
  exact ⟨rfl, HB.out⟩
theorem mac_any (u : Nat) (hu : u < B64) (s : ByteArray) (hs : s.size ≤ 2000) (w : World) :
    Calls Tryd.prog 8 #[.int .u64 u, .string s] w fun e w' => e = .returned (.int .u64 (macN u s : Nat)) ∧ Below w.heap.size w w' := by
  have HK : Hid (∀ w, _) := Lib.hid (fun w => keyBytes_any u hu w)
  have HD : Hid (∀ (g : Nat) (w : World) (t : TypeId), _) := Lib.hid (fun g w t hg => digest_any (kb u) s (kb u) g w t hg (by rw [kb_size]; omega))
  unfold macN
  generalize mixN (hashOf (kb u ++ s ++ kb u)) = z at *
  generalize kb u = k at *
  clear hu hs
  go_enter Tryd.func8, Tryd.ntmps8
  go_wp2_with fail
  refine (HK.out _).mono ?_
  rintro e w1 ⟨rfl, hb⟩
  have HB := Lib.hid hb
  clear hb
  go_wp2_with fail
  refine (HD.out _ _ _ (Blk.new _ _ _)).mono ?_
  rintro e w2 ⟨rfl, hb⟩
  have HB2 := Lib.hid (beI (al2 HB.out) (Nat.le_refl _) hb)
  clear hb
  go_wp2_with fail
  go_ret
  exact ⟨rfl, HB2.out⟩
theorem rmac_any (u : Nat) (hu : u < B64) (s : ByteArray) (hs : s.size ≤ 2000) (w : World) :
    Calls Tryd.prog 11 #[.int .u64 u, .string s] w fun e w' => e = .returned (.int .u64 (macN u s : Nat)) ∧ Below w.heap.size w w' := by
  have HK : Hid (∀ w, Calls Tryd.prog 26 #[.int .u64 u] w fun e w' => e = .returned (.string (kb u)) ∧ Below w.heap.size w w') := Lib.hid (fun w => eight_any u hu w)
  have hk8 : (kb u).size ≤ 8 := Nat.le_of_eq (kb_size u)
  have hsz : (kb u ++ s ++ kb u).size ≤ maxLen := by simp only [ByteArray.size_append]; unfold maxLen; omega
  have HH : Hid (∀ w, _) := Lib.hid (fun w => rhash_any (kb u ++ s ++ kb u) w hsz)
  have HM : Hid (∀ w, _) := Lib.hid (fun w => rmix_any (hashOf (kb u ++ s ++ kb u)) (hashOf_lt _) w)
  unfold macN
  generalize mixN (hashOf (kb u ++ s ++ kb u)) = z at *
  generalize hashOf (kb u ++ s ++ kb u) = y at *
  generalize kb u = k at *
  have hks : (k ++ s).size ≤ 3000 := by simp only [ByteArray.size_append]; omega
  clear hu hsz
  go_enter Tryd.func11, Tryd.ntmps11
  go_wp2_with fail
  refine (HK.out _).mono ?_
  rintro e w1 ⟨rfl, hb⟩
  have HB := Lib.hid hb
  clear hb
  go_wp2_with fail
  refine (HK.out _).mono ?_
  rintro e w2 ⟨rfl, hb⟩
  have HB2 := Lib.hid (beI HB.out (Nat.le_refl _) hb)
  clear hb
  go_wp2_with fail
  refine (HH.out _).mono ?_
  rintro e w3 ⟨rfl, rfl⟩
  go_wp2_with fail
  refine (HM.out _).mono ?_
  rintro e w3 ⟨rfl, rfl⟩
  go_wp2_with fail
  go_ret
  exact ⟨rfl, HB2.out⟩
def lbl : ByteArray := ⟨#[100, 101, 114, 105, 118, 101, 58]⟩
def derN (u : Nat) (s : ByteArray) : Nat := macN u (lbl ++ s)
theorem derive_any (u : Nat) (hu : u < B64) (s : ByteArray) (hs : s.size ≤ 1000) (w : World) :
    Calls Tryd.prog 12 #[.int .u64 u, .string s] w fun e w' => e = .returned (.int .u64 (derN u s : Nat)) ∧ Below w.heap.size w w' := by
  have hl : (lbl ++ s).size ≤ 2000 := by rw [ByteArray.size_append]; show 7 + s.size ≤ 2000; omega
  have HM : Hid (∀ w, _) := Lib.hid (fun w => mac_any u hu (lbl ++ s) hl w)
  unfold derN
  generalize macN u (lbl ++ s) = z at *
  unfold lbl at HM
  clear hl hu
  go_enter Tryd.func12, Tryd.ntmps12
  go_wp2_with fail
  refine (HM.out _).mono ?_
  rintro e w1 ⟨rfl, hb⟩
  have HB := Lib.hid hb
  clear hb
  go_wp2_with fail
  go_ret
  exact ⟨rfl, HB.out⟩
theorem rderive_any (u : Nat) (hu : u < B64) (s : ByteArray) (hs : s.size ≤ 1000) (w : World) :
    Calls Tryd.prog 13 #[.int .u64 u, .string s] w fun e w' => e = .returned (.int .u64 (derN u s : Nat)) ∧ Below w.heap.size w w' := by
  have hl : (lbl ++ s).size ≤ 2000 := by rw [ByteArray.size_append]; show 7 + s.size ≤ 2000; omega
  have HM : Hid (∀ w, _) := Lib.hid (fun w => rmac_any u hu (lbl ++ s) hl w)
  unfold derN
  generalize macN u (lbl ++ s) = z at *
  unfold lbl at HM
  clear hl hu
  go_enter Tryd.func13, Tryd.ntmps13
  go_wp2_with fail
  refine (HM.out _).mono ?_
  rintro e w1 ⟨rfl, hb⟩
  have HB := Lib.hid hb
  clear hb
  go_wp2_with fail
  go_ret
  exact ⟨rfl, HB.out⟩
/-- what Verify answers -/
def vfB (u : Nat) (s code : ByteArray) : Bool := (cdE code.size == 0) && (code.toList == (cdS (macN u s) code.size).toList)
def vfX (S code : ByteArray) (E : Int) : Bool := (E == 0) && (code.toList == S.toList)
theorem beq_symm_list (a b : List UInt8) : (a == b) = (b == a) := by
  rw [Bool.eq_iff_iff, beq_iff_eq, beq_iff_eq]; exact eq_comm
set_option maxHeartbeats 1000000 in
theorem verify_any (u : Nat) (hu : u < B64) (s : ByteArray) (hs : s.size ≤ 1000) (code : ByteArray) (hc : code.size ≤ 1000) (w : World) (hP : TabP w) :
    Calls Tryd.prog 18 #[.int .u64 u, .string s, .string code] w fun e w' => e = .returned (.bool (vfB u s code)) ∧ Below w.heap.size w w' := by
  have HM : Hid (∀ w, _) := Lib.hid (fun w => mac_any u hu s (by omega) w)
  have HC : Hid (∀ w, TabP w → _) := Lib.hid (fun w h => code_any (macN u s) (macN_lt u s) (code.size) w h)
  have HP := Lib.hid hP
  show Calls _ _ _ _ fun e w' => e = .returned (.bool (vfX (cdS (macN u s) code.size) code (cdE code.size))) ∧ _
  unfold vfX
  generalize cdS (macN u s) code.size = S at *
  generalize macN u s = z at *
  generalize cdE code.size = E at *
  clear hP hu
  cases hE : (E == 0)
  · go_enter Tryd.func18, Tryd.ntmps18
    go_wp2_with fail
    refine (HM.out _).mono ?_
    rintro e w1 ⟨rfl, hb⟩
    have HB := Lib.hid hb
    clear hb
    go_wp2_with fail
    refine (HC.out _ (HP.out.call HB.out)).mono ?_
    rintro e w2 ⟨rfl, hb⟩
    have HB2 := Lib.hid (beI HB.out (Nat.le_refl _) hb)
    clear hb
    go_wp2_with fail
    go_ret
    exact ⟨rfl, HB2.out⟩
  · cases hS : (code.toList == S.toList)
    all_goals
      go_enter Tryd.func18, Tryd.ntmps18
      go_wp2_with fail
      refine (HM.out _).mono ?_
      rintro e w1 ⟨rfl, hb⟩
      have HB := Lib.hid hb
      clear hb
      go_wp2_with fail
      refine (HC.out _ (HP.out.call HB.out)).mono ?_
      rintro e w2 ⟨rfl, hb⟩
      have HB2 := Lib.hid (beI HB.out (Nat.le_refl _) hb)
      clear hb
      go_wp2_with fail
      go_ret
      exact ⟨rfl, HB2.out⟩
set_option maxHeartbeats 1000000 in
theorem rverify_any (u : Nat) (hu : u < B64) (s : ByteArray) (hs : s.size ≤ 1000) (code : ByteArray) (hc : code.size ≤ 1000) (w : World) :
    Calls Tryd.prog 19 #[.int .u64 u, .string s, .string code] w fun e w' => e = .returned (.bool (vfB u s code)) ∧ Below w.heap.size w w' := by
  have HM : Hid (∀ w, _) := Lib.hid (fun w => rmac_any u hu s (by omega) w)
  have HC : Hid (∀ w, _) := Lib.hid (fun w => rcode_any (macN u s) (macN_lt u s) (code.size) w)
  show Calls _ _ _ _ fun e w' => e = .returned (.bool (vfX (cdS (macN u s) code.size) code (cdE code.size))) ∧ _
  unfold vfX
  generalize cdS (macN u s) code.size = S at *
  generalize macN u s = z at *
  generalize cdE code.size = E at *
  rw [beq_symm_list]
  clear hu
  cases hE : (E == 0)
  · go_enter Tryd.func19, Tryd.ntmps19
    go_wp2_with fail
    refine (HM.out _).mono ?_
    rintro e w1 ⟨rfl, hb⟩
    have HB := Lib.hid hb
    clear hb
    go_wp2_with fail
    refine (HC.out _).mono ?_
    rintro e w2 ⟨rfl, hb⟩
    have HB2 := Lib.hid (beI HB.out (Nat.le_refl _) hb)
    clear hb
    go_wp2_with fail
    go_ret
    exact ⟨rfl, HB2.out⟩
  · cases hS : (S.toList == code.toList)
    all_goals
      go_enter Tryd.func19, Tryd.ntmps19
      go_wp2_with fail
      refine (HM.out _).mono ?_
      rintro e w1 ⟨rfl, hb⟩
      have HB := Lib.hid hb
      clear hb
      go_wp2_with fail
      refine (HC.out _).mono ?_
      rintro e w2 ⟨rfl, hb⟩
      have HB2 := Lib.hid (beI HB.out (Nat.le_refl _) hb)
      clear hb
      go_wp2_with fail
      go_ret
      exact ⟨rfl, HB2.out⟩
end Go.Proofs.YtgdgpimlaljpdaaDoor
