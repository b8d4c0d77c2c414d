/- Profiles: two slices of numbers, depths and speeds, in the memory; when a profile is valid; contracts of IsProfile, the program's and the model's. -/
import Derived.Test.YtcaekheghjnipabDoorRise
import Derived.Test.YtcaekheghjnipabDoorMinMax
namespace Go.Proofs.YtcaekheghjnipabDoor
open Go.ChangeShapes Go.WideShapes Go.ChangeAt Go.RowKit Num
set_option linter.unusedVariables false
/-- depths and speeds in the memory -/
structure Prof (w : World) (B : Nat) (a b : Option Addr) (zs ys : List Int) : Prop where
  dz : Ints .i64 w B a zs
  sy : Ints .i64 w B b ys
  lz : zs.length ≤ 1048576
  ly : ys.length ≤ 1048576
theorem Prof.below {w w' : World} {B : Nat} {a b : Option Addr} {zs ys : List Int} (h : Prof w B a b zs ys) (hb : Below B w w') : Prof w' B a b zs ys := ⟨h.dz.below hb, h.sy.below hb, h.lz, h.ly⟩
theorem Prof.more {w : World} {B B' : Nat} {a b : Option Addr} {zs ys : List Int} (h : Prof w B a b zs ys) (hb : B ≤ B') : Prof w B' a b zs ys := ⟨h.dz.more hb, h.sy.more hb, h.lz, h.ly⟩
/-- behind a call that leaves all old blocks alone -/
theorem Prof.on {w w' : World} {a b : Option Addr} {zs ys : List Int} (h : Prof w w.heap.size a b zs ys) (hb : Below w.heap.size w w') : Prof w' w'.heap.size a b zs ys := (h.below hb).more hb.size
/-- a cell, a mark, behind a call that leaves all old blocks alone -/
theorem kc1 {W w2 : World} {m o : Nat} {v0 : Value} (c0 : W.cell? ⟨m, o, none⟩ = some v0) (h : Below W.heap.size W w2) : w2.cell? ⟨m, o, none⟩ = some v0 := (h.cell (p := ⟨m, o, none⟩) (World.block_lt_of_cell? W _ c0)).trans c0
theorem kcf {W w2 : World} {m o : Nat} {v0 : Value} {b : Bool} (f0 : W.frozen? ⟨m, o, none⟩ = b) (c0 : W.cell? ⟨m, o, none⟩ = some v0) (h : Below W.heap.size W w2) : w2.frozen? ⟨m, o, none⟩ = b := (h.frozen (p := ⟨m, o, none⟩) (World.block_lt_of_cell? W _ c0)).trans f0
/-- the profile as a value -/
def pfV (a b : Option Addr) (zs ys : List Int) (c d : Nat) : Value := .agg #[.slice a zs.length c, .slice b ys.length d]
/-- valid depths and speeds -/
def prfP (zs ys : List Int) : Prop := 2 ≤ zs.length ∧ zs.length ≤ 12 ∧ ys.length = zs.length ∧ risB zs 1000001 = true ∧ zs.getD 0 0 = 0 ∧ anyLack 1300000 1700000 ys = false
instance (zs ys : List Int) : Decidable (prfP zs ys) := by unfold prfP; infer_instance
def prfB (zs ys : List Int) : Bool := decide (prfP zs ys)
theorem prfB_t {zs ys : List Int} (h : prfP zs ys) : prfB zs ys = true := by unfold prfB; exact decide_eq_true h
theorem prfB_f {zs ys : List Int} (h : ¬ prfP zs ys) : prfB zs ys = false := by unfold prfB; exact decide_eq_false h
theorem prfB_p {zs ys : List Int} (h : prfB zs ys = true) : prfP zs ys := by unfold prfB at h; exact of_decide_eq_true h
theorem anyLack_at {lo hi : Int} {zs : List Int} (h : anyLack lo hi zs = false) {k : Nat} (hk : k < zs.length) : lo ≤ zs.getD k 0 ∧ zs.getD k 0 ≤ hi := by
  cases hh : hasB lo hi (zs.getD k 0)
  · rw [anyLack_t hk hh] at h; cases h
  · unfold hasB at hh
    simp only [Bool.and_eq_true, decide_eq_true_eq] at hh
    exact hh
/-- what is known of a valid profile -/
structure Okp (zs ys : List Int) : Prop where
  n2 : 2 ≤ zs.length
  n12 : zs.length ≤ 12
  len : ys.length = zs.length
  lo : ∀ j, 0 ≤ zs.getD j 0
  hi : ∀ j, zs.getD j 0 ≤ 1000000
  step : ∀ j, j + 1 < zs.length → zs.getD j 0 < zs.getD (j + 1) 0
  zero : zs.getD 0 0 = 0
  slo : ∀ j, j < zs.length → 1300000 ≤ ys.getD j 0
  shi : ∀ j, ys.getD j 0 ≤ 1700000
  sge : ∀ j, 0 ≤ ys.getD j 0
theorem getD_out {zs : List Int} {j : Nat} (h : zs.length ≤ j) : zs.getD j 0 = 0 := by
  rw [List.getD_eq_getElem?_getD, List.getElem?_eq_none h]; rfl
theorem Okp.of {zs ys : List Int} (h : prfB zs ys = true) : Okp zs ys := by
  obtain ⟨h1, h2, h3, h4, h5, h6⟩ := prfB_p h
  have hr : ∀ i, i < zs.length → risP zs 1000001 i := by unfold risB at h4; exact of_decide_eq_true h4
  refine ⟨h1, h2, h3, fun j => ?_, fun j => ?_, fun j hj => ?_, h5, fun j hj => (anyLack_at h6 (by omega)).1, fun j => ?_, fun j => ?_⟩
  · rcases Nat.lt_or_ge j zs.length with hj | hj
    · exact (hr j hj).1
    · rw [getD_out hj]; omega
  · rcases Nat.lt_or_ge j zs.length with hj | hj
    · have := (hr j hj).2.1; omega
    · rw [getD_out hj]; omega
  · have := (hr (j + 1) hj).2.2 (by omega); rwa [Nat.add_sub_cancel] at this
  · rcases Nat.lt_or_ge j ys.length with hj | hj
    · exact (anyLack_at h6 hj).2
    · rw [getD_out hj]; omega
  · rcases Nat.lt_or_ge j ys.length with hj | hj
    · have := (anyLack_at h6 hj).1; omega
    · rw [getD_out hj]; omega
theorem Okp.mono {zs ys : List Int} (h : Okp zs ys) {i : Nat} : ∀ j, i < j → j < zs.length → zs.getD i 0 < zs.getD j 0
  | 0, hi, _ => by omega
  | j + 1, hi, hj => by
    have hs := h.step j hj
    rcases Nat.lt_or_ge i j with hlt | hge
    · have := Okp.mono h j hlt (by omega); omega
    · obtain rfl : i = j := by omega
      exact hs

theorem inB_hasB (x lo hi : Int) : inB x lo hi = hasB lo hi x := by
  unfold inB hasB
  rw [Bool.eq_iff_iff]
  simp

theorem lwi_any (w : World) (a : Option Addr) (cap : Nat) (zs : List Int) (m lo hi : Int) (hl : zs.length ≤ 1048576) (hz : Ints .i64 w w.heap.size a zs) :
    Calls Tryd.prog 45 #[.slice a zs.length cap, .int .i64 m, .int .i64 lo, .int .i64 hi] w fun e w' => e = .returned (.bool (!anyLack lo hi zs && decide ((zs.length : Int) ≤ m))) ∧ w = w' := by
  go_enter Tryd.func45, Tryd.ntmps45
  go_wp2
  go_loop [9] (fun i => ∃ k : Nat, k ≤ zs.length ∧ i = .int .i64 k ∧ ∀ j, j < k → hasB lo hi (zs.getD j 0) = true) (fun i => zs.length - (intOf i).toNat)
  case atStart => exact ⟨0, by omega, rfl, fun j hj => by omega⟩
  case round =>
    obtain ⟨k, hk, rfl, hr⟩ := hrel
    have HR := Lib.hid hr
    clear hr
    by_cases hlt : k < zs.length
    · obtain ⟨b, off, rfl, hB, hc⟩ := hz.at_ hlt
      obtain ⟨x, hx⟩ : ∃ x, zs.getD k 0 = x := ⟨_, rfl⟩
      rw [hx] at hc
      have HX := Lib.hid hx
      clear hx
      cases hh : hasB lo hi x
      · go_wp2_with (go_at_call 54; refine (lin_any _ _ _ _).mono ?_; rw [show inB x lo hi = false from hh ▸ inB_hasB x lo hi]; rintro e w' ⟨rfl, rfl⟩)
        go_ret
        exact ⟨ret_bool (by rw [anyLack_t hlt (by rw [HX.out]; exact hh)]; rfl), rfl⟩
      · go_wp2_with (go_at_call 54; refine (lin_any _ _ _ _).mono ?_; rw [show inB x lo hi = true from hh ▸ inB_hasB x lo hi]; rintro e w' ⟨rfl, rfl⟩)
        go_round
        case rel => exact ⟨k + 1, by omega, by go_num, fun j hj => by
          by_cases hjk : j < k
          · exact HR.out j hjk
          · obtain rfl : j = k := by omega
            rw [HX.out]; exact hh⟩
        case measure => simp [intOf]; omega
    · go_wp2
      go_ret
      exact ⟨ret_bool (by rw [anyLack_f (fun j hj => HR.out j (by omega))]; rfl), rfl⟩

set_option maxHeartbeats 1000000 in
theorem ipr_any (w : World) (a b : Option Addr) (c d : Nat) (zs ys : List Int) (hp : Prof w w.heap.size a b zs ys) :
    Calls Tryd.prog 18 #[.agg #[.slice a zs.length c, .slice b ys.length d]] w fun e w' => e = .returned (.bool (prfB zs ys)) ∧ Below w.heap.size w w' := by
  have lz := hp.lz
  have ly := hp.ly
  have HP := Lib.hid hp
  clear hp
  by_cases h1 : zs.length < 2
  · have H : Hid (prfB zs ys = false) := Lib.hid (prfB_f (fun h => by have := h.1; omega))
    go_enter Tryd.func18, Tryd.ntmps18
    go_wp2
    go_ret
    exact ⟨ret_bool H.out.symm, (by repeat (first | exact Below.refl _ _ | (refine Below.alloc ?_ (by simp <;> omega) _) | (refine Below.setCell ?_ (by simp <;> omega) _) | (refine Below.drew ?_) | (refine bel_drewN ?_ _)))⟩
  by_cases h2 : 12 < zs.length
  · have H : Hid (prfB zs ys = false) := Lib.hid (prfB_f (fun h => by have := h.2.1; omega))
    go_enter Tryd.func18, Tryd.ntmps18
    go_wp2
    go_ret
    exact ⟨ret_bool H.out.symm, (by repeat (first | exact Below.refl _ _ | (refine Below.alloc ?_ (by simp <;> omega) _) | (refine Below.setCell ?_ (by simp <;> omega) _) | (refine Below.drew ?_) | (refine bel_drewN ?_ _)))⟩
  by_cases h3 : ys.length = zs.length
  case neg =>
    have H : Hid (prfB zs ys = false) := Lib.hid (prfB_f (fun h => h3 h.2.2.1))
    have hne : ((ys.length : Int) != (zs.length : Int)) = true := by simp; omega
    clear h3
    go_enter Tryd.func18, Tryd.ntmps18
    go_wp2
    go_ret
    exact ⟨ret_bool H.out.symm, (by repeat (first | exact Below.refl _ _ | (refine Below.alloc ?_ (by simp <;> omega) _) | (refine Below.setCell ?_ (by simp <;> omega) _) | (refine Below.drew ?_) | (refine bel_drewN ?_ _)))⟩
  have hne : ((ys.length : Int) != (zs.length : Int)) = false := by simp; omega
  have H3 := Lib.hid h3
  clear h3
  have n2 : 0 < zs.length := by omega
  obtain ⟨b0, off, rfl, hB, hc⟩ := HP.out.dz.at_ n2
  rw [Nat.add_zero] at hc
  obtain ⟨x, hx⟩ : ∃ x, zs.getD 0 0 = x := ⟨_, rfl⟩
  rw [hx] at hc
  have HX := Lib.hid hx
  have HP1 : Hid (Prof (w.alloc (.cells #[.slice (some ⟨b0, off, none⟩) zs.length c, .slice b ys.length d] 24)) (w.alloc (.cells #[.slice (some ⟨b0, off, none⟩) zs.length c, .slice b ys.length d] 24)).heap.size (some ⟨b0, off, none⟩) b zs ys) := Lib.hid (HP.out.on (by repeat (first | exact Below.refl _ _ | (refine Below.alloc ?_ (by simp <;> omega) _) | (refine Below.setCell ?_ (by simp <;> omega) _) | (refine Below.drew ?_) | (refine bel_drewN ?_ _))))
  clear hx
  cases h4 : risB zs 1000001
  · have H : Hid (prfB zs ys = false) := Lib.hid (prfB_f (fun h => by rw [h.2.2.2.1] at h4; cases h4))
    have H4 := Lib.hid h4
    clear h4
    go_enter Tryd.func18, Tryd.ntmps18
    go_wp2_with (go_at_call 41; refine (iir_any _ _ _ _ zs _ (by omega) HP1.out.dz).mono ?_; rw [H4.out]; rintro e w' ⟨rfl, rfl⟩)
    go_ret
    exact ⟨ret_bool H.out.symm, (by repeat (first | exact Below.refl _ _ | (refine Below.alloc ?_ (by simp <;> omega) _) | (refine Below.setCell ?_ (by simp <;> omega) _) | (refine Below.drew ?_) | (refine bel_drewN ?_ _)))⟩
  have H4 := Lib.hid h4
  clear h4
  by_cases h5 : x = 0
  case neg =>
    have H : Hid (prfB zs ys = false) := Lib.hid (prfB_f (fun h => h5 (HX.out.symm.trans h.2.2.2.2.1)))
    have hx0 : (x != 0) = true := by simpa using h5
    clear h5
    go_enter Tryd.func18, Tryd.ntmps18
    go_wp2_with (go_at_call 41; refine (iir_any _ _ _ _ zs _ (by omega) HP1.out.dz).mono ?_; rw [H4.out]; rintro e w' ⟨rfl, rfl⟩)
    go_ret
    exact ⟨ret_bool H.out.symm, (by repeat (first | exact Below.refl _ _ | (refine Below.alloc ?_ (by simp <;> omega) _) | (refine Below.setCell ?_ (by simp <;> omega) _) | (refine Below.drew ?_) | (refine bel_drewN ?_ _)))⟩
  subst h5
  have HE : Hid ((!anyLack 1300000 1700000 ys) = prfB zs ys) := Lib.hid (by
    cases h6 : anyLack 1300000 1700000 ys
    · exact (prfB_t ⟨by omega, by omega, H3.out, H4.out, HX.out, h6⟩).symm
    · exact (prfB_f (fun h => by rw [h.2.2.2.2.2] at h6; cases h6)).symm)
  go_enter Tryd.func18, Tryd.ntmps18
  go_wp2_with (first | (go_at_call 41; refine (iir_any _ _ _ _ zs _ (by omega) HP1.out.dz).mono ?_; rw [H4.out]; rintro e w' ⟨rfl, rfl⟩) | (go_at_call 42; refine (cfl_any _ _ _ ys _ _ (by omega) ((HP1.out.on (by repeat (first | exact Below.refl _ _ | (refine Below.alloc ?_ (by simp <;> omega) _) | (refine Below.setCell ?_ (by simp <;> omega) _) | (refine Below.drew ?_) | (refine bel_drewN ?_ _)))).sy)).mono ?_; rintro e w' ⟨rfl, hb⟩))
  go_ret
  exact ⟨ret_bool HE.out, bel_end (by repeat (first | exact Below.refl _ _ | (refine Below.alloc ?_ (by simp <;> omega) _) | (refine Below.setCell ?_ (by simp <;> omega) _) | (refine Below.drew ?_) | (refine bel_drewN ?_ _))) hb⟩

set_option maxHeartbeats 1000000 in
theorem spr_any (w : World) (a b : Option Addr) (c d : Nat) (zs ys : List Int) (hp : Prof w w.heap.size a b zs ys) :
    Calls Tryd.prog 19 #[.agg #[.slice a zs.length c, .slice b ys.length d]] w fun e w' => e = .returned (.bool (prfB zs ys)) ∧ Below w.heap.size w w' := by
  have lz := hp.lz
  have ly := hp.ly
  have HP := Lib.hid hp
  clear hp
  by_cases h1 : zs.length < 2
  · have H : Hid (prfB zs ys = false) := Lib.hid (prfB_f (fun h => by have := h.1; omega))
    go_enter Tryd.func19, Tryd.ntmps19
    go_wp2
    go_ret
    exact ⟨ret_bool H.out.symm, (by repeat (first | exact Below.refl _ _ | (refine Below.alloc ?_ (by simp <;> omega) _) | (refine Below.setCell ?_ (by simp <;> omega) _) | (refine Below.drew ?_) | (refine bel_drewN ?_ _)))⟩
  by_cases h2 : 12 < zs.length
  · have H : Hid (prfB zs ys = false) := Lib.hid (prfB_f (fun h => by have := h.2.1; omega))
    go_enter Tryd.func19, Tryd.ntmps19
    go_wp2
    go_ret
    exact ⟨ret_bool H.out.symm, (by repeat (first | exact Below.refl _ _ | (refine Below.alloc ?_ (by simp <;> omega) _) | (refine Below.setCell ?_ (by simp <;> omega) _) | (refine Below.drew ?_) | (refine bel_drewN ?_ _)))⟩
  by_cases h3 : ys.length = zs.length
  case neg =>
    have H : Hid (prfB zs ys = false) := Lib.hid (prfB_f (fun h => h3 h.2.2.1))
    have hne : ((ys.length : Int) != (zs.length : Int)) = true := by simp; omega
    clear h3
    go_enter Tryd.func19, Tryd.ntmps19
    go_wp2
    go_ret
    exact ⟨ret_bool H.out.symm, (by repeat (first | exact Below.refl _ _ | (refine Below.alloc ?_ (by simp <;> omega) _) | (refine Below.setCell ?_ (by simp <;> omega) _) | (refine Below.drew ?_) | (refine bel_drewN ?_ _)))⟩
  have hne : ((ys.length : Int) != (zs.length : Int)) = false := by simp; omega
  have H3 := Lib.hid h3
  clear h3
  have n2 : 0 < zs.length := by omega
  obtain ⟨b0, off, rfl, hB, hc⟩ := HP.out.dz.at_ n2
  rw [Nat.add_zero] at hc
  obtain ⟨x, hx⟩ : ∃ x, zs.getD 0 0 = x := ⟨_, rfl⟩
  rw [hx] at hc
  have HX := Lib.hid hx
  have HP1 : Hid (Prof (w.alloc (.cells #[.slice (some ⟨b0, off, none⟩) zs.length c, .slice b ys.length d] 24)) (w.alloc (.cells #[.slice (some ⟨b0, off, none⟩) zs.length c, .slice b ys.length d] 24)).heap.size (some ⟨b0, off, none⟩) b zs ys) := Lib.hid (HP.out.on (by repeat (first | exact Below.refl _ _ | (refine Below.alloc ?_ (by simp <;> omega) _) | (refine Below.setCell ?_ (by simp <;> omega) _) | (refine Below.drew ?_) | (refine bel_drewN ?_ _))))
  clear hx
  cases h4 : risB zs 1000001
  · have H : Hid (prfB zs ys = false) := Lib.hid (prfB_f (fun h => by rw [h.2.2.2.1] at h4; cases h4))
    have H4 := Lib.hid h4
    clear h4
    go_enter Tryd.func19, Tryd.ntmps19
    go_wp2_with (go_at_call 44; refine (lri_any _ _ _ _ zs _ (by omega) HP1.out.dz).mono ?_; rw [H4.out]; rintro e w' ⟨rfl, nd, rfl⟩)
    go_ret
    exact ⟨ret_bool H.out.symm, (by repeat (first | exact Below.refl _ _ | (refine Below.alloc ?_ (by simp <;> omega) _) | (refine Below.setCell ?_ (by simp <;> omega) _) | (refine Below.drew ?_) | (refine bel_drewN ?_ _)))⟩
  have H4 := Lib.hid h4
  clear h4
  by_cases h5 : x = 0
  case neg =>
    have H : Hid (prfB zs ys = false) := Lib.hid (prfB_f (fun h => h5 (HX.out.symm.trans h.2.2.2.2.1)))
    have hx0 : (x != 0) = true := by simpa using h5
    clear h5
    go_enter Tryd.func19, Tryd.ntmps19
    go_wp2_with (go_at_call 44; refine (lri_any _ _ _ _ zs _ (by omega) HP1.out.dz).mono ?_; rw [H4.out]; rintro e w' ⟨rfl, nd, rfl⟩)
    go_ret
    exact ⟨ret_bool H.out.symm, (by repeat (first | exact Below.refl _ _ | (refine Below.alloc ?_ (by simp <;> omega) _) | (refine Below.setCell ?_ (by simp <;> omega) _) | (refine Below.drew ?_) | (refine bel_drewN ?_ _)))⟩
  subst h5
  have HE : Hid ((!anyLack 1300000 1700000 ys && decide ((ys.length : Int) ≤ 12)) = prfB zs ys) := Lib.hid (by
    have e12 : decide ((ys.length : Int) ≤ 12) = true := by rw [H3.out]; simp; omega
    rw [e12, Bool.and_true]
    cases h6 : anyLack 1300000 1700000 ys
    · exact (prfB_t ⟨by omega, by omega, H3.out, H4.out, HX.out, h6⟩).symm
    · exact (prfB_f (fun h => by rw [h.2.2.2.2.2] at h6; cases h6)).symm)
  go_enter Tryd.func19, Tryd.ntmps19
  go_wp2_with (first | (go_at_call 44; refine (lri_any _ _ _ _ zs _ (by omega) HP1.out.dz).mono ?_; rw [H4.out]; rintro e w' ⟨rfl, nd, rfl⟩) | (go_at_call 45; refine (lwi_any _ _ _ ys _ _ _ (by omega) ((HP1.out.on (bel_drewN (Below.refl _ _) nd)).sy)).mono ?_; rintro e w' ⟨rfl, rfl⟩))
  go_ret
  exact ⟨ret_bool HE.out, (by repeat (first | exact Below.refl _ _ | (refine Below.alloc ?_ (by simp <;> omega) _) | (refine Below.setCell ?_ (by simp <;> omega) _) | (refine Below.drew ?_) | (refine bel_drewN ?_ _)))⟩
end Go.Proofs.YtcaekheghjnipabDoor
