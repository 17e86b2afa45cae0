/- One call of both cards. -/
import Derived.Test.YtellajpjhhamhaaRc
set_option linter.unusedVariables false
set_option linter.unusedSimpArgs false
namespace Go.Proofs.Ytellajpjhhamhaa
open Go.ChangeShapes Go.WideShapes Go.ChangeAt Go.RowKit
structure Cs where
  nm : ByteArray
  ex : Int
  st : Int
  la : Int
  lc : Int
  k : Bool
  d : Int
  a : Int
  c : Int
def pc (s : Cs) : Array Value := cc s.nm s.ex s.st s.la s.lc s.k s.d s.a s.c
def rcs (s : Cs) : Array Value := rc s.nm s.ex s.st s.la s.lc s.k s.d s.a s.c
def Cs.ok (s : Cs) : Prop := (0 ≤ s.a ∧ s.a ≤ 999999999999) ∧ (0 ≤ s.c ∧ s.c ≤ 1000) ∧ s.la ≤ 999999999999 ∧ s.lc ≤ 1000
def okO (S : Option Cs) : Prop := match S with | none => True | some s => s.ok
def CAt (t : TypeId) (f : Cs → Array Value) (g : Nat) (w : World) (v : Value) (S : Option Cs) : Prop := g < w.heap.size ∧ match S with
  | none => v = .pointer none
  | some s => v = .pointer (some ⟨g, 0, none⟩) ∧ Blk w g t (f s)
def CPost (t : TypeId) (f : Cs → Array Value) (g : Nat) (v : Value) (S : Option Cs) (w : World) (x : Value) (e : Ending) (w' : World) : Prop := e = .returned x ∧ CAt t f g w' v S ∧ Below g w w' ∧ Kp g w w'
theorem CAt.keep {t : TypeId} {f : Cs → Array Value} {g k : Nat} {w w' : World} {v : Value} {S : Option Cs} (h : CAt t f g w v S) (hk : Kp k w w') (hs : w.heap.size ≤ w'.heap.size) (hq : v = .pointer none ∨ g ≠ k) : CAt t f g w' v S := by
  obtain ⟨h1, h2⟩ := h
  refine ⟨Nat.lt_of_lt_of_le h1 hs, ?_⟩
  match S, h2 with
  | none, h2 => exact h2
  | some s, ⟨hv, hB⟩ =>
    rcases hq with hq | hq
    · rw [hv] at hq; cases hq
    exact ⟨hv, hk.blk hB hq⟩
theorem CAt.call {t : TypeId} {f : Cs → Array Value} {g : Nat} {w w' : World} {v : Value} {S : Option Cs} (h : CAt t f g w v S) (hb : Below w.heap.size w w') : CAt t f g w' v S := by
  obtain ⟨h1, h2⟩ := h
  refine ⟨Nat.lt_of_lt_of_le h1 hb.size, ?_⟩
  match S, h2 with
  | none, h2 => exact h2
  | some s, ⟨hv, hB⟩ => exact ⟨hv, hB.call hb⟩
theorem CAt.drew {t : TypeId} {f : Cs → Array Value} {g : Nat} {w : World} {v : Value} {S : Option Cs} (h : CAt t f g w v S) (n : Nat) : CAt t f g (w.drewN n) v S := h
theorem post_below {F : FuncId} {ag : Array Value} {t : TypeId} {f : Cs → Array Value} {g : Nat} {w : World} {v x : Value} {S : Option Cs} (h : CAt t f g w v S) (H : Calls Try.prog F ag w fun e w' => e = .returned x ∧ Below w.heap.size w w') : Calls Try.prog F ag w (CPost t f g v S w x) :=
  H.mono fun e w' ⟨he, hb⟩ => ⟨he, h.call hb, hb.mono (Nat.le_of_lt h.1), Kp.call hb⟩
theorem post_same {F : FuncId} {ag : Array Value} {t : TypeId} {f : Cs → Array Value} {g : Nat} {w : World} {v x : Value} {S : Option Cs} (h : CAt t f g w v S) (H : Calls Try.prog F ag w fun e w' => e = .returned x ∧ w' = w) : Calls Try.prog F ag w (CPost t f g v S w x) :=
  post_below h (H.mono fun e w' ⟨he, hw⟩ => ⟨he, by subst hw; exact Below.refl _ _⟩)
theorem post_same' {F : FuncId} {ag : Array Value} {t : TypeId} {f : Cs → Array Value} {g : Nat} {w : World} {v x : Value} {S : Option Cs} (h : CAt t f g w v S) (H : Calls Try.prog F ag w fun e w' => e = .returned x ∧ w = w') : Calls Try.prog F ag w (CPost t f g v S w x) :=
  post_below h (H.mono fun e w' ⟨he, hw⟩ => ⟨he, by subst hw; exact Below.refl _ _⟩)
theorem post_stay {F : FuncId} {ag : Array Value} {t : TypeId} {f : Cs → Array Value} {g : Nat} {w : World} {x : Value} {s : Cs} (hg : g < w.heap.size) (H : Calls Try.prog F ag w fun e w' => e = .returned x ∧ Blk w' g t (f s) ∧ (∀ B, B ≤ g → B ≤ w.heap.size → Below B w w') ∧ Kp g w w') : Calls Try.prog F ag w (CPost t f g (.pointer (some ⟨g, 0, none⟩)) (some s) w x) :=
  H.mono fun e w' ⟨he, hB, hb, hk⟩ => ⟨he, ⟨hB.lt, rfl, hB⟩, hb g (Nat.le_refl _) (Nat.le_of_lt hg), hk⟩
theorem stepDo (S : Option Cs) (day : Int) (hS : okO S) : ∃ (x : Int) (S' : Option Cs), okO S' ∧ (∀ g v w, CAt 57 pc g w v S → Calls Try.prog 20 #[v, .int .i64 day] w (CPost 57 pc g v S' w (.int .i64 x))) ∧ (∀ g v w, CAt 60 rcs g w v S → Calls Try.prog 30 #[v, .int .i64 day] w (CPost 60 rcs g v S' w (.int .i64 x))) := by
  cases S with
  | none => exact ⟨6, none, trivial, ⟨fun g v w h => by
      obtain rfl : v = .pointer none := h.2
      exact post_same h (nil20 day w), fun g v w h => by
      obtain rfl : v = .pointer none := h.2
      exact post_same h (nil30 day w)⟩⟩
  | some s =>
    refine ⟨nxE s.st day, some { s with st := if nxE s.st day = 0 then nxS s.st day else s.st }, hS, fun g v w h => ?_, fun g v w h => ?_⟩
    · obtain ⟨hg, rfl, hB⟩ := h
      exact post_stay (f := pc) hg (do_stay s.nm s.ex s.st s.la s.lc s.k s.d s.a s.c g day w hB)
    · obtain ⟨hg, rfl, hB⟩ := h
      refine post_stay (f := rcs) hg ((rdo_any s.nm s.ex s.st s.la s.lc s.k s.d s.a s.c g day w hB).mono fun e w' ⟨he, hw⟩ => ⟨he, ?_⟩)
      unfold rcs
      dsimp only
      by_cases h0 : nxE s.st day = 0
      · rw [if_pos h0] at hw ⊢
        subst hw
        refine ⟨?_, fun B q1 q2 => (Below.refl B w).setCell (p := ⟨g, 6, none⟩) q1 _, (Kp.refl g w).set (p := ⟨g, 6, none⟩) rfl _⟩
        have kk := hB.set_ 6 (.int .i64 (nxS s.st day))
        rwa [show (rcs s).setIfInBounds 6 (.int .i64 (nxS s.st day)) = rc s.nm s.ex (nxS s.st day) s.la s.lc s.k s.d s.a s.c from by simp [rcs, rc]] at kk
      · rw [if_neg h0] at hw ⊢
        subst hw
        exact ⟨hB, fun B _ _ => Below.refl B _, Kp.refl _ _⟩
theorem stepUsable (S : Option Cs) (day : Int) : ∃ (x : Int), (∀ g v w, CAt 57 pc g w v S → Calls Try.prog 31 #[v, .int .i64 day] w (CPost 57 pc g v S w (.int .i64 x))) ∧ (∀ g v w, CAt 60 rcs g w v S → Calls Try.prog 32 #[v, .int .i64 day] w (CPost 60 rcs g v S w (.int .i64 x))) := by
  cases S with
  | none => exact ⟨6, ⟨fun g v w h => by
      obtain rfl : v = .pointer none := h.2
      exact post_same h (nil31 day w), fun g v w h => by
      obtain rfl : v = .pointer none := h.2
      exact post_same h (nil32 day w)⟩⟩
  | some s =>
    refine ⟨usE s.st s.ex day, fun g v w h => ?_, fun g v w h => ?_⟩
    · have h' := h
      obtain ⟨hg, rfl, hB⟩ := h
      exact post_same' h' (usable_any s.nm s.ex s.st s.la s.lc s.k s.d s.a s.c g day w hB)
    · have h' := h
      obtain ⟨hg, rfl, hB⟩ := h
      exact post_same' h' (rusable_any s.nm s.ex s.st s.la s.lc s.k s.d s.a s.c g day w hB)
theorem stepUsed (S : Option Cs) (day : Int) : ∃ (x y : Int), (∀ g v w, CAt 57 pc g w v S → Calls Try.prog 22 #[v, .int .i64 day] w (CPost 57 pc g v S w (.tuple #[.int .i64 x, .int .i64 y]))) ∧ (∀ g v w, CAt 60 rcs g w v S → Calls Try.prog 35 #[v, .int .i64 day] w (CPost 60 rcs g v S w (.tuple #[.int .i64 x, .int .i64 y]))) := by
  cases S with
  | none => exact ⟨0, 0, ⟨fun g v w h => by
      obtain rfl : v = .pointer none := h.2
      exact post_same h (nil22 day w), fun g v w h => by
      obtain rfl : v = .pointer none := h.2
      exact post_same h (nil35 day w)⟩⟩
  | some s =>
    refine ⟨dayA s.k s.d day s.a, dayA s.k s.d day s.c, fun g v w h => ?_, fun g v w h => ?_⟩
    · have h' := h
      obtain ⟨hg, rfl, hB⟩ := h
      exact post_below h' (used_any s.nm s.ex s.st s.la s.lc s.k s.d s.a s.c g day w hB)
    · have h' := h
      obtain ⟨hg, rfl, hB⟩ := h
      exact post_below h' (rused_any s.nm s.ex s.st s.la s.lc s.k s.d s.a s.c g day w hB)
theorem stepState (S : Option Cs) : ∃ (x : Int), (∀ g v w, CAt 57 pc g w v S → Calls Try.prog 12 #[v] w (CPost 57 pc g v S w (.int .i64 x))) ∧ (∀ g v w, CAt 60 rcs g w v S → Calls Try.prog 13 #[v] w (CPost 60 rcs g v S w (.int .i64 x))) := by
  cases S with
  | none => exact ⟨0, ⟨fun g v w h => by
      obtain rfl : v = .pointer none := h.2
      exact post_same h (nil12 w), fun g v w h => by
      obtain rfl : v = .pointer none := h.2
      exact post_same h (nil13 w)⟩⟩
  | some s =>
    refine ⟨s.st, fun g v w h => ?_, fun g v w h => ?_⟩
    · have h' := h
      obtain ⟨hg, rfl, hB⟩ := h
      exact post_same' h' (state_any s.nm s.ex s.st s.la s.lc s.k s.d s.a s.c g w hB)
    · have h' := h
      obtain ⟨hg, rfl, hB⟩ := h
      exact post_same' h' (rstate_any s.nm s.ex s.st s.la s.lc s.k s.d s.a s.c g w hB)
theorem stepNumber (S : Option Cs) : ∃ (x : ByteArray), (∀ g v w, CAt 57 pc g w v S → Calls Try.prog 14 #[v] w (CPost 57 pc g v S w (.string x))) ∧ (∀ g v w, CAt 60 rcs g w v S → Calls Try.prog 15 #[v] w (CPost 60 rcs g v S w (.string x))) := by
  cases S with
  | none => exact ⟨⟨#[]⟩, ⟨fun g v w h => by
      obtain rfl : v = .pointer none := h.2
      exact post_same h (nil14 w), fun g v w h => by
      obtain rfl : v = .pointer none := h.2
      exact post_same h (nil15 w)⟩⟩
  | some s =>
    refine ⟨s.nm, fun g v w h => ?_, fun g v w h => ?_⟩
    · have h' := h
      obtain ⟨hg, rfl, hB⟩ := h
      exact post_same' h' (number_any s.nm s.ex s.st s.la s.lc s.k s.d s.a s.c g w hB)
    · have h' := h
      obtain ⟨hg, rfl, hB⟩ := h
      exact post_same' h' (rnumber_any s.nm s.ex s.st s.la s.lc s.k s.d s.a s.c g w hB)
theorem stepExpiry (S : Option Cs) : ∃ (x : Int), (∀ g v w, CAt 57 pc g w v S → Calls Try.prog 16 #[v] w (CPost 57 pc g v S w (.int .i64 x))) ∧ (∀ g v w, CAt 60 rcs g w v S → Calls Try.prog 17 #[v] w (CPost 60 rcs g v S w (.int .i64 x))) := by
  cases S with
  | none => exact ⟨0, ⟨fun g v w h => by
      obtain rfl : v = .pointer none := h.2
      exact post_same h (nil16 w), fun g v w h => by
      obtain rfl : v = .pointer none := h.2
      exact post_same h (nil17 w)⟩⟩
  | some s =>
    refine ⟨s.ex, fun g v w h => ?_, fun g v w h => ?_⟩
    · have h' := h
      obtain ⟨hg, rfl, hB⟩ := h
      exact post_same' h' (expiry_any s.nm s.ex s.st s.la s.lc s.k s.d s.a s.c g w hB)
    · have h' := h
      obtain ⟨hg, rfl, hB⟩ := h
      exact post_same' h' (rexpiry_any s.nm s.ex s.st s.la s.lc s.k s.d s.a s.c g w hB)
end Go.Proofs.Ytellajpjhhamhaa
