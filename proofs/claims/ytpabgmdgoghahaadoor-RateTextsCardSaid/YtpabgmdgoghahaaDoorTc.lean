/- Number of the program. -/
import Derived.Test.YtpabgmdgoghahaaDoorTa
set_option linter.unusedVariables false
set_option linter.unusedSimpArgs false
namespace Go.Proofs.YtpabgmdgoghahaaDoor
open Go.Sort Go.ChangeShapes Go.WideShapes Go.ChangeAt Go.RowKit
def EC (g : Nat) (w : World) : Prop := ∃ ev, w.cell? ⟨g, 0, none⟩ = some ev ∧ (ev = .nilIface ∨ ∃ te pe, ev = .iface te pe)
theorem EC.call {g : Nat} {w w1 : World} (h : EC g w) (hb : Below w.heap.size w w1) : EC g w1 := by
  obtain ⟨ev, h1, h2⟩ := h
  exact ⟨ev, (hb.cell (p := ⟨g, 0, none⟩) (block_lt_of_cell h1)).trans h1, h2⟩
abbrev IntC (s : ByteArray) (v : Int) : Prop := ∀ w, Calls Tryd.prog 57 #[.string s, .int .i64 10, .int .i64 64] w fun e w' => e = .returned (.tuple #[.int .i64 v, .nilIface]) ∧ Below w.heap.size w w'
abbrev ErrC (s : ByteArray) (v : Int) : Prop := ∀ w, EC 4 w → EC 5 w → Calls Tryd.prog 57 #[.string s, .int .i64 10, .int .i64 64] w fun e w' => ∃ N, e = .returned (.tuple #[.int .i64 v, .iface 100 (.pointer (some ⟨N, 0, none⟩))]) ∧ Below w.heap.size w w'
abbrev FmtC (v : Int) (t : ByteArray) : Prop := ∀ w, Tab w → Calls Tryd.prog 33 #[.int .i64 v, .int .i64 10] w fun e w' => e = .returned (.string t) ∧ Below w.heap.size w w'
set_option maxHeartbeats 2000000 in
set_option maxRecDepth 20000 in
theorem nm_ok (s t : ByteArray) (v : Int) (w : World) (hT : Tab w) (I1 : IntC s v) (FI : FmtC v t) (hq : (t.toList != s.toList) = false) :
    Calls Tryd.prog 43 #[.string s] w fun e w' => e = .returned (.tuple #[.int .i64 v, .bool true]) ∧ Below w.heap.size w w' := by
  have hq2 : (t.toList == s.toList) = true := by rw [bne] at hq; simpa using hq
  replace I1 := Lib.hid I1
  replace FI := Lib.hid FI
  replace hT := Lib.hid hT
  go_enter Tryd.func43, Tryd.ntmps43
  go_wp2_with fail
  refine (I1.out _).mono ?_
  rintro e w1 ⟨rfl, hb⟩
  obtain ⟨d1, o1, rfl⟩ := regrow_of hb
  clear hb
  go_wp2_with (go_at_call 33; refine (FI.out _ (hT.out.call (by repeat (first | exact Below.refl _ _ | refine al ?_ | refine bre ?_ _ _ | refine Below.drew ?_)))).mono ?_; rintro e q2 ⟨rfl, hb⟩; obtain ⟨d5, o5, rfl⟩ := regrow_of hb; clear hb)
  exact bodyPost_ret (v := .tuple #[.int .i64 v, .bool true]) (by simp [results, Tryd.results43, go_sem]) rfl ⟨rfl, by repeat (first | exact Below.refl _ _ | refine al ?_ | refine bre ?_ _ _ | refine Below.drew ?_)⟩
set_option maxHeartbeats 2000000 in
set_option maxRecDepth 20000 in
theorem nm_ne (s t : ByteArray) (v : Int) (w : World) (hT : Tab w) (I1 : IntC s v) (FI : FmtC v t) (hq : (t.toList != s.toList) = true) :
    Calls Tryd.prog 43 #[.string s] w fun e w' => e = .returned (.tuple #[.int .i64 0, .bool false]) ∧ Below w.heap.size w w' := by
  have hq2 : (t.toList == s.toList) = false := by rw [bne] at hq; simpa using hq
  replace I1 := Lib.hid I1
  replace FI := Lib.hid FI
  replace hT := Lib.hid hT
  go_enter Tryd.func43, Tryd.ntmps43
  go_wp2_with fail
  refine (I1.out _).mono ?_
  rintro e w1 ⟨rfl, hb⟩
  obtain ⟨d1, o1, rfl⟩ := regrow_of hb
  clear hb
  go_wp2_with (go_at_call 33; refine (FI.out _ (hT.out.call (by repeat (first | exact Below.refl _ _ | refine al ?_ | refine bre ?_ _ _ | refine Below.drew ?_)))).mono ?_; rintro e q2 ⟨rfl, hb⟩; obtain ⟨d5, o5, rfl⟩ := regrow_of hb; clear hb)
  exact bodyPost_ret (v := .tuple #[.int .i64 0, .bool false]) (by simp [results, Tryd.results43, go_sem]) rfl ⟨rfl, by repeat (first | exact Below.refl _ _ | refine al ?_ | refine bre ?_ _ _ | refine Below.drew ?_)⟩
set_option maxHeartbeats 2000000 in
set_option maxRecDepth 20000 in
theorem nm_er (s : ByteArray) (v : Int) (w : World) (h4 : EC 4 w) (h5 : EC 5 w) (I1 : ErrC s v) :
    Calls Tryd.prog 43 #[.string s] w fun e w' => e = .returned (.tuple #[.int .i64 0, .bool false]) ∧ Below w.heap.size w w' := by
  replace I1 := Lib.hid I1
  replace h4 := Lib.hid h4
  replace h5 := Lib.hid h5
  go_enter Tryd.func43, Tryd.ntmps43
  go_wp2_with fail
  refine (I1.out _ (h4.out.call (by repeat (first | exact Below.refl _ _ | refine al ?_ | refine bre ?_ _ _ | refine Below.drew ?_))) (h5.out.call (by repeat (first | exact Below.refl _ _ | refine al ?_ | refine bre ?_ _ _ | refine Below.drew ?_)))).mono ?_
  rintro e w1 ⟨NN, rfl, hb⟩
  obtain ⟨d1, o1, rfl⟩ := regrow_of hb
  clear hb
  go_wp2_with fail
  exact bodyPost_ret (v := .tuple #[.int .i64 0, .bool false]) (by simp [results, Tryd.results43, go_sem]) rfl ⟨rfl, by repeat (first | exact Below.refl _ _ | refine al ?_ | refine bre ?_ _ _ | refine Below.drew ?_)⟩
def nO (s : ByteArray) : Bool := match Lib.parseIntB 64 s.data.toList with
  | .ok v => !((numS v).toList != s.toList)
  | _ => false
def nV (s : ByteArray) : Int := if nO s = true then (match Lib.parseIntB 64 s.data.toList with
  | .ok v => v
  | _ => 0) else 0
theorem pi_in {l : List UInt8} {v : Int} (h : Lib.parseIntB 64 l = .ok v) : -9223372036854775808 ≤ v ∧ v ≤ 9223372036854775807 := by
  unfold Lib.parseIntB at h
  split at h
  · cases h
  · split at h
    · cases h
    · cases h
    · rename_i u hu
      simp only at h
      split at h
      · cases h
      · split at h
        · cases h
        · rename_i h1 h2
          have := Lib.NumEnd.ok.inj h
          split at this <;> omega
theorem number_any (s : ByteArray) (hs : s.size ≤ 300) (w : World) (hT : Tab w) (h4 : EC 4 w) (h5 : EC 5 w) :
    Calls Tryd.prog 43 #[.string s] w fun e w' => e = .returned (.tuple #[.int .i64 (nV s), .bool (nO s)]) ∧ Below w.heap.size w w' := by
  cases hp : Lib.parseIntB 64 s.data.toList
  case ok v =>
    have hv := pi_in hp
    have I : IntC s v := fun w => (Tryd.strconv_ParseInt_10_at64_ok s (by omega) v hp w).mono fun e w' ⟨he, hw⟩ => ⟨he, by
      rcases hw with rfl | ⟨t, rfl⟩
      · exact Below.refl _ _
      · exact Go.Joins.below_bytesWorld w.heap.size w 5 t (Nat.le_refl _)⟩
    have F : FmtC v (numS v) := fun w h => fi_any v hv.1 hv.2 w h
    cases hq : ((numS v).toList != s.toList)
    · have e1 : nO s = true := by unfold nO; rw [hp]; show (!_) = _; rw [hq]; rfl
      have e2 : nV s = v := by unfold nV; rw [e1, if_pos rfl, hp]
      rw [e1, e2]
      exact nm_ok s (numS v) v w hT I F hq
    · have e1 : nO s = false := by unfold nO; rw [hp]; show (!_) = _; rw [hq]; rfl
      have e2 : nV s = 0 := by unfold nV; rw [e1, if_neg (by simp)]
      rw [e1, e2]
      exact nm_ne s (numS v) v w hT I F hq
  case range =>
    have e1 : nO s = false := by unfold nO; rw [hp]
    have e2 : nV s = 0 := by unfold nV; rw [e1, if_neg (by simp)]
    rw [e1, e2]
    exact nm_er s (Lib.intSat 64 s.data.toList) w h4 h5 (fun w _ ⟨ev, hv, hev⟩ => (Tryd.strconv_ParseInt_10_at64_range s (by omega) hp ev w hv hev).mono fun e w' ⟨N, he, _, _, hb⟩ => ⟨N, he, hb⟩)
  have e1 : nO s = false := by unfold nO; rw [hp]
  have e2 : nV s = 0 := by unfold nV; rw [e1, if_neg (by simp)]
  rw [e1, e2]
  exact nm_er s 0 w h4 h5 (fun w ⟨ev, hv, hev⟩ _ => (Tryd.pi_bad s (by omega) (fun v h => by rw [hp] at h; cases h) (fun h => by rw [hp] at h; cases h) ev w hv hev).mono fun e w' ⟨N, he, _, _, hb⟩ => ⟨N, he, hb⟩)
set_option maxHeartbeats 2000000 in
set_option maxRecDepth 20000 in
theorem clone_any (s : ByteArray) (hs : s.size ≤ 300) (w : World) : Calls Tryd.prog 44 #[.string s] w fun e w' => e = .returned (.string s) ∧ Below w.heap.size w w' := by
  have HC := Lib.hid (fun w => Tryd.stringslite_Clone s w (by omega))
  clear hs
  go_enter Tryd.func44, Tryd.ntmps44
  go_wp2_with fail
  refine (HC.out _).mono ?_
  rintro e w1 ⟨rfl, hb⟩
  obtain ⟨d1, o1, rfl⟩ := regrow_of hb
  clear hb
  go_wp2_with fail
  go_ret
  exact ⟨rfl, (by repeat (first | exact Below.refl _ _ | refine al ?_ | refine bre ?_ _ _ | refine Below.drew ?_))⟩
end Go.Proofs.YtpabgmdgoghahaaDoor
