/- Words and names. -/
import Derived.Test.YtikmaljhfckbgaaDoorE
set_option linter.unusedVariables false
set_option linter.unusedSimpArgs false
namespace Go.Proofs.YtikmaljhfckbgaaDoor
open Go.Sort Go.ChangeShapes Go.WideShapes Go.ChangeAt Go.RowKit
def isW (c : UInt8) : Bool := isL c.toNat || (isG c.toNat || decide ((c.toNat : Int) = 95))
def wordL (l : List UInt8) : List UInt8 := l.takeWhile isW
theorem drop_at (s : ByteArray) (k : Nat) (h : k < s.size) : (ls s).drop k = s[k] :: (ls s).drop (k + 1) := by
  have hl : k < (ls s).length := by rw [← ls_size]; exact h
  rw [List.drop_eq_getElem_cons hl]
  congr 1
theorem word_t {s : ByteArray} {k : Nat} (h : k < s.size) (hw : isW s[k] = true) : wordL ((ls s).drop k) = s[k] :: wordL ((ls s).drop (k + 1)) := by
  unfold wordL; rw [drop_at s k h, List.takeWhile_cons, if_pos hw]
theorem word_f {s : ByteArray} {k : Nat} (h : k < s.size) (hw : isW s[k] = false) : wordL ((ls s).drop k) = [] := by
  unfold wordL; rw [drop_at s k h, List.takeWhile_cons, if_neg (by rw [hw]; simp)]
theorem word_end (s : ByteArray) (k : Nat) (h : s.size ≤ k) : wordL ((ls s).drop k) = [] := by
  rw [List.drop_of_length_le (by rw [← ls_size]; exact h)]; rfl
theorem word_len (l : List UInt8) : (wordL l).length ≤ l.length := (List.takeWhile_prefix _).length_le
theorem word_all (l : List UInt8) : (wordL l).length = l.length ↔ l.all isW = true := by
  induction l with
  | nil => simp [wordL]
  | cons a r ih =>
    unfold wordL at ih ⊢
    rw [List.takeWhile_cons, List.all_cons]
    cases h : isW a
    · simp
    · rw [if_pos rfl, List.length_cons, List.length_cons, Bool.true_and, ← ih]; omega
theorem isW_l {c : UInt8} (h : isL c.toNat = true) : isW c = true := by unfold isW; rw [h]; rfl
theorem isW_g {c : UInt8} (h : isL c.toNat = false) (h2 : isG c.toNat = true) : isW c = true := by unfold isW; rw [h, h2]; rfl
theorem isW_u {c : UInt8} (h : isL c.toNat = false) (h2 : isG c.toNat = false) (h3 : (c.toNat : Int) = 95) : isW c = true := by unfold isW; rw [h, h2, h3]; rfl
theorem isW_n {c : UInt8} (h : isL c.toNat = false) (h2 : isG c.toNat = false) (h3 : ¬ (c.toNat : Int) = 95) : isW c = false := by unfold isW; rw [h, h2, decide_eq_false h3]; rfl
set_option maxHeartbeats 2000000 in
set_option maxRecDepth 100000 in
theorem rword_any (s : ByteArray) (i : Nat) (hi : i ≤ s.size) (hs : s.size ≤ 10000) (w : World) :
    Calls Tryd.prog 36 #[.string s, .int .i64 i] w fun e w' => e = .returned (.int .i64 ((i : Int) + ((wordL ((ls s).drop i)).length : Int))) ∧ w' = w := by
  obtain ⟨N, hN⟩ : ∃ N : Int, (i : Int) + ((wordL ((ls s).drop i)).length : Int) = N := ⟨_, rfl⟩
  rw [hN]
  have HN := Lib.hid hN
  have hsi : (s.size : Int) ≤ 10000 := by omega
  clear hN
  go_enter Tryd.func36, Tryd.ntmps36
  go_wp2_with fail
  go_loop [1] (fun x => ∃ (k : Nat), k ≤ s.size ∧ x = .int .i64 k ∧ Hid ((k : Int) + ((wordL ((ls s).drop k)).length : Int) = N)) (fun x => s.size - (intOf x).toNat)
  case atStart => exact ⟨i, hi, rfl, HN⟩
  case round =>
    obtain ⟨k, hk, rfl, hN⟩ := hrel
    by_cases hlt : k < s.size
    · have hlt' : (k : Int) < (s.size : Int) := by omega
      have q0 := idx_at s k hlt
      cases hL : isL s[k].toNat
      · cases hG : isG s[k].toNat
        · by_cases h95 : (s[k].toNat : Int) = 95
          · have hw := isW_u hL hG h95
            have KL := Lib.hid (fun w => letter_any (s[k].toNat : Int) w)
            rw [hL] at KL
            have KG := Lib.hid (fun w => digit_any (s[k].toNat : Int) w)
            rw [hG] at KG
            obtain ⟨v, hv⟩ : ∃ v : Int, (s[k].toNat : Int) = v := ⟨_, rfl⟩
            have u1 : (v == 95) = true := by rw [beq_iff_eq]; omega
            have u2 : (v != 95) = false := by rw [bne, u1]; rfl
            have KL2 : Hid (∀ w, Calls Tryd.prog 35 #[.int .u8 v] w fun e w' => e = .returned (.bool false) ∧ w' = w) := Lib.hid (hv ▸ KL.out)
            have KG2 : Hid (∀ w, Calls Tryd.prog 52 #[.int .u8 v] w fun e w' => e = .returned (.bool false) ∧ w' = w) := Lib.hid (hv ▸ KG.out)
            clear KL KG h95
            have HN2 := Lib.hid (show (k : Int) + 1 + ((wordL ((ls s).drop (k + 1))).length : Int) = N by rw [← hN.out, word_t hlt hw, List.length_cons]; omega)
            clear hw hL hG
            go_wp2_with (first | (go_at_call 35; refine (KL2.out _).mono ?_; rintro e w1 ⟨rfl, rfl⟩) | (go_at_call 52; refine (KG2.out _).mono ?_; rintro e w1 ⟨rfl, rfl⟩))
            go_round
            case rel => exact ⟨k + 1, by omega, by go_num, Lib.hid (by have := HN2.out; omega)⟩
            case measure => simp [intOf]; omega
          · have hw := isW_n hL hG h95
            have KL := Lib.hid (fun w => letter_any (s[k].toNat : Int) w)
            rw [hL] at KL
            have KG := Lib.hid (fun w => digit_any (s[k].toNat : Int) w)
            rw [hG] at KG
            obtain ⟨v, hv⟩ : ∃ v : Int, (s[k].toNat : Int) = v := ⟨_, rfl⟩
            have u1 : (v == 95) = false := by rw [beq_eq_false_iff_ne]; omega
            have u2 : (v != 95) = true := by rw [bne, u1]; rfl
            have KL2 : Hid (∀ w, Calls Tryd.prog 35 #[.int .u8 v] w fun e w' => e = .returned (.bool false) ∧ w' = w) := Lib.hid (hv ▸ KL.out)
            have KG2 : Hid (∀ w, Calls Tryd.prog 52 #[.int .u8 v] w fun e w' => e = .returned (.bool false) ∧ w' = w) := Lib.hid (hv ▸ KG.out)
            clear KL KG h95
            have HN2 := Lib.hid (show (k : Int) = N by rw [← hN.out, word_f hlt hw]; simp)
            clear hw hL hG
            go_wp2_with (first | (go_at_call 35; refine (KL2.out _).mono ?_; rintro e w1 ⟨rfl, rfl⟩) | (go_at_call 52; refine (KG2.out _).mono ?_; rintro e w1 ⟨rfl, rfl⟩))
            go_ret
            exact ⟨by rw [HN2.out] <;> rfl, rfl⟩
        · have hw := isW_g hL hG
          have KL := Lib.hid (fun w => letter_any (s[k].toNat : Int) w)
          rw [hL] at KL
          have KG := Lib.hid (fun w => digit_any (s[k].toNat : Int) w)
          rw [hG] at KG
          have HN2 := Lib.hid (show (k : Int) + 1 + ((wordL ((ls s).drop (k + 1))).length : Int) = N by rw [← hN.out, word_t hlt hw, List.length_cons]; omega)
          clear hw hL hG
          go_wp2_with (first | (go_at_call 35; refine (KL.out _).mono ?_; rintro e w1 ⟨rfl, rfl⟩) | (go_at_call 52; refine (KG.out _).mono ?_; rintro e w1 ⟨rfl, rfl⟩))
          go_round
          case rel => exact ⟨k + 1, by omega, by go_num, Lib.hid (by have := HN2.out; omega)⟩
          case measure => simp [intOf]; omega
      · have hw := isW_l hL
        have KL := Lib.hid (fun w => letter_any (s[k].toNat : Int) w)
        rw [hL] at KL
        have HN2 := Lib.hid (show (k : Int) + 1 + ((wordL ((ls s).drop (k + 1))).length : Int) = N by rw [← hN.out, word_t hlt hw, List.length_cons]; omega)
        clear hw hL
        go_wp2_with (go_at_call 35; refine (KL.out _).mono ?_; rintro e w1 ⟨rfl, rfl⟩)
        go_round
        case rel => exact ⟨k + 1, by omega, by go_num, Lib.hid (by have := HN2.out; omega)⟩
        case measure => simp [intOf]; omega
    · have hge : ¬ (k : Int) < (s.size : Int) := by omega
      have HN2 := Lib.hid (show (k : Int) = N by rw [← hN.out, word_end s k (by omega)]; simp)
      clear hlt
      go_wp2_with fail
      go_ret
      exact ⟨by rw [HN2.out] <;> rfl, rfl⟩
theorem isL_iff (c : Int) : isL c = true ↔ (97 ≤ c ∧ c ≤ 122) ∨ (65 ≤ c ∧ c ≤ 90) := by unfold isL; rw [Bool.or_eq_true, Bool.and_eq_true, Bool.and_eq_true, decide_eq_true_iff, decide_eq_true_iff, decide_eq_true_iff, decide_eq_true_iff]
theorem isG_iff (c : Int) : isG c = true ↔ 48 ≤ c ∧ c ≤ 57 := by unfold isG; rw [Bool.and_eq_true, decide_eq_true_iff, decide_eq_true_iff]
theorem cls_l {c : Int} (h : isL c = true) : cls c = 3 := by
  have := (isL_iff c).1 h
  unfold cls; rw [if_neg (by omega), if_neg (by omega), if_pos h]
theorem cls_g {c : Int} (h : isL c = false) (h2 : isG c = true) : cls c = 4 := by
  have := (isG_iff c).1 h2
  unfold cls; rw [if_neg (by omega), if_neg (by omega), if_neg (by rw [h]; simp), if_pos h2]
theorem isW_iff (c : UInt8) : isW c = true ↔ isL c.toNat = true ∨ isG c.toNat = true ∨ (c.toNat : Int) = 95 := by
  unfold isW; rw [Bool.or_eq_true, Bool.or_eq_true, decide_eq_true_iff]
theorem isW_lt {c : UInt8} (h : isW c = true) : c.toNat < 128 := by
  rcases (isW_iff c).1 h with h | h | h
  · have := (isL_iff _).1 h; omega
  · have := (isG_iff _).1 h; omega
  · omega
/-- no rune of a word -/
theorem cls_no {c : Int} (h : isL c = false) (h2 : isG c = false) : (cls c == 3) = false ∧ (cls c == 4) = false := by
  unfold cls
  rw [h, h2]
  constructor <;> (rw [beq_eq_false_iff_ne]; repeat' split) <;> simp_all
theorem hi_no {c : Int} (h : 128 ≤ c) : isL c = false ∧ isG c = false := by
  constructor
  · cases hh : isL c
    · rfl
    · have := (isL_iff c).1 hh; omega
  · cases hh : isG c
    · rfl
    · have := (isG_iff c).1 hh; omega
set_option maxHeartbeats 2000000 in
set_option maxRecDepth 100000 in
theorem word_any (s : ByteArray) (hs : s.size ≤ 10000) (w : World) :
    Calls Tryd.prog 48 #[.string s] w fun e w' => e = .returned (.string (s.extract 0 (wordL (ls s)).length)) ∧ Below w.heap.size w w' := by
  obtain ⟨N, hN⟩ : ∃ N : Nat, (wordL (ls s)).length = N := ⟨_, rfl⟩
  rw [hN]
  have HN := Lib.hid hN
  have hNs : N ≤ s.size := by rw [← hN, ls_size]; exact word_len _
  have hsi : (s.size : Int) ≤ 10000 := by omega
  have HI0 := Lib.hid (Itr.new w s)
  have z1 := cut_h s N hNs
  clear hN
  go_enter Tryd.func48, Tryd.ntmps48
  go_wp2_with fail
  go_loopw [] (fun wr => ∃ (k : Nat), Hid (k ≤ s.size) ∧ Hid (Itr w wr s k) ∧ Hid (k + (wordL ((ls s).drop k)).length = N)) (fun wr => s.size - wr.iterPos w.heap.size)
  case atStart => exact ⟨0, Lib.hid (Nat.zero_le _), HI0, Lib.hid (by rw [List.drop_zero, Nat.zero_add]; exact HN.out)⟩
  case round =>
    obtain ⟨k, hk, hI, hN⟩ := hrel
    by_cases hlt : k < s.size
    · have H10 : k ≤ s.size := hk.out
      cases hw0 : isW s[k]
      · -- the word ends here
        obtain rfl : N = k := by rw [← hN.out, word_f hlt hw0]; rfl
        obtain ⟨r, hr, hcl⟩ : ∃ r : Nat, (Utf8.decode s N).1 = r ∧ (isL (r : Int) = false ∧ isG (r : Int) = false ∧ ((r : Int) != 95) = true) := by
          refine ⟨_, rfl, ?_⟩
          by_cases h128 : s[N].toNat < 128
          · rw [decode_ascii s N hlt h128]
            have hn : ¬ isW s[N] = true := by rw [hw0]; simp
            rw [isW_iff] at hn
            refine ⟨?_, ?_, ?_⟩
            · cases h : isL ((s[N].toNat : Nat) : Int)
              · rfl
              · exact absurd (.inl h) hn
            · cases h : isG ((s[N].toNat : Nat) : Int)
              · rfl
              · exact absurd (.inr (.inl h)) hn
            · rw [bne_iff_ne]; intro h; exact hn (.inr (.inr h))
          · have := decode_high s N hlt (by omega)
            have h2 := hi_no (c := (((Utf8.decode s N).1 : Nat) : Int)) (by omega)
            exact ⟨h2.1, h2.2, by rw [bne_iff_ne]; omega⟩
        have hnx := fun ty => Lib.run_next_any_at (P := Tryd.prog) wr w.heap.size s N ty hI.out.1 hlt
        rw [hr] at hnx
        obtain ⟨c3, c4⟩ := cls_no hcl.1 hcl.2.1
        have c95 := hcl.2.2
        have KC := Lib.hid (fun w => cls_any (r : Int) (by omega) w)
        generalize cls (r : Int) = K at *
        have c3b : (K != 3) = true := by rw [bne, c3]; rfl
        have c4b : (K != 4) = true := by rw [bne, c4]; rfl
        have HB := Lib.hid (Lib.below_iterAt hI.out.2 (Nat.le_refl _) s (N + (Utf8.decode s N).2))
        clear hw0 hcl hr
        go_wp2_with fail
        refine (KC.out _).mono ?_
        rintro e w1 ⟨rfl, hb⟩
        have HB2 := Lib.hid (below_call HB.out hb)
        clear hb
        go_wp2_with fail
        go_ret
        exact ⟨rfl, HB2.out⟩
      · rcases (isW_iff s[k]).1 hw0 with hL | hG | h95
        · have hw := hw0
          have hc : cls (s[k].toNat : Int) = 3 := cls_l hL
          have KC := Lib.hid (fun w => cls_any (s[k].toNat : Int) (by omega) w)
          rw [hc] at KC
          have h128 : s[k].toNat < 128 := isW_lt hw
          have hnx := fun ty => Lib.run_next_ascii_at (P := Tryd.prog) wr w.heap.size s k ty hI.out.1 hlt h128
          have HI2 := Lib.hid (hI.out.next (k + 1))
          have HP := Lib.hid hI.out.pos
          have HN2 := Lib.hid (show k + 1 + (wordL ((ls s).drop (k + 1))).length = N by rw [← hN.out, word_t hlt hw, List.length_cons]; omega)
          clear hw hL hc h128
          go_wp2_with fail
          refine (KC.out _).mono ?_
          rintro e w1 ⟨rfl, hb⟩
          have HI3 := Lib.hid (HI2.out.call hb)
          have HP2 := Lib.hid HI3.out.pos
          clear hb
          go_wp2_with fail
          go_roundw
          case rel => exact ⟨k + 1, Lib.hid (by omega), HI3, HN2⟩
          case measure => rw [HP.out, HP2.out]; omega
        · have hw := hw0
          have hL : isL s[k].toNat = false := by
            cases h : isL s[k].toNat
            · rfl
            · have h1 := (isL_iff _).1 h; have h2 := (isG_iff _).1 hG; omega
          have hc : cls (s[k].toNat : Int) = 4 := cls_g hL hG
          have KC := Lib.hid (fun w => cls_any (s[k].toNat : Int) (by omega) w)
          rw [hc] at KC
          have h128 : s[k].toNat < 128 := isW_lt hw
          have hnx := fun ty => Lib.run_next_ascii_at (P := Tryd.prog) wr w.heap.size s k ty hI.out.1 hlt h128
          have HI2 := Lib.hid (hI.out.next (k + 1))
          have HP := Lib.hid hI.out.pos
          have HN2 := Lib.hid (show k + 1 + (wordL ((ls s).drop (k + 1))).length = N by rw [← hN.out, word_t hlt hw, List.length_cons]; omega)
          clear hw hL hG hc h128
          go_wp2_with fail
          refine (KC.out _).mono ?_
          rintro e w1 ⟨rfl, hb⟩
          have HI3 := Lib.hid (HI2.out.call hb)
          have HP2 := Lib.hid HI3.out.pos
          clear hb
          go_wp2_with fail
          go_roundw
          case rel => exact ⟨k + 1, Lib.hid (by omega), HI3, HN2⟩
          case measure => rw [HP.out, HP2.out]; omega
        · have hw := hw0
          have hL : True := trivial
          have hG : True := trivial
          have hc : cls (s[k].toNat : Int) = 0 := by rw [h95]; rfl
          have KC := Lib.hid (fun w => cls_any (s[k].toNat : Int) (by omega) w)
          rw [hc] at KC
          have h128 : s[k].toNat < 128 := isW_lt hw
          have hnx := fun ty => Lib.run_next_ascii_at (P := Tryd.prog) wr w.heap.size s k ty hI.out.1 hlt h128
          have HI2 := Lib.hid (hI.out.next (k + 1))
          have HP := Lib.hid hI.out.pos
          have HN2 := Lib.hid (show k + 1 + (wordL ((ls s).drop (k + 1))).length = N by rw [← hN.out, word_t hlt hw, List.length_cons]; omega)
          have u0 : ((s[k].toNat : Int) != 95) = false := by rw [h95]; rfl
          clear h95
          clear hw hL hG hc h128
          go_wp2_with fail
          refine (KC.out _).mono ?_
          rintro e w1 ⟨rfl, hb⟩
          have HI3 := Lib.hid (HI2.out.call hb)
          have HP2 := Lib.hid HI3.out.pos
          clear hb
          go_wp2_with fail
          go_roundw
          case rel => exact ⟨k + 1, Lib.hid (by omega), HI3, HN2⟩
          case measure => rw [HP.out, HP2.out]; omega
    · have hne := fun ty => Lib.run_next_end_at (P := Tryd.prog) wr w.heap.size s k ty hI.out.1 hlt
      have HB := Lib.hid hI.out.2
      have hkN : N = s.size := by have := hN.out; rw [word_end s k (by omega)] at this; have := hk.out; simp at *; omega
      have hfull : s.extract 0 N = s := by rw [hkN]; exact ByteArray.extract_zero_size
      have HF := Lib.hid hfull
      clear hlt hkN hfull
      go_wp2_with fail
      go_ret
      exact ⟨by rw [HF.out] <;> rfl, HB.out⟩
end Go.Proofs.YtikmaljhfckbgaaDoor
