/- Codes of a profile together with a depth, a layer, a knot: contracts of the program's and the model's checks. -/
import Derived.Test.YtcaekheghjnipabDoorLay
namespace Go.Proofs.YtcaekheghjnipabDoor
open Go.ChangeShapes Go.WideShapes Go.ChangeAt Go.RowKit Go.Shelf Num
set_option linter.unusedVariables false

/-- the depth, the layer, the knot is one of the profile's -/
def hdB (zs : List Int) (x : Int) : Bool := decide (0 ≤ x) && decide (x ≤ zs.getD (zs.length - 1) 0)
def hlB (zs : List Int) (x : Int) : Bool := decide (0 ≤ x) && decide (x < (zs.length : Int) - 1)
def hkB (zs : List Int) (x : Int) : Bool := decide (0 ≤ x) && decide (x < (zs.length : Int))
theorem hdB_t {zs : List Int} {x : Int} (h : hdB zs x = true) : 0 ≤ x ∧ x ≤ zs.getD (zs.length - 1) 0 := by unfold hdB at h; simpa using h
theorem hlB_t {zs : List Int} {x : Int} (h : hlB zs x = true) : 0 ≤ x ∧ x < (zs.length : Int) - 1 := by unfold hlB at h; simpa using h
theorem hkB_t {zs : List Int} {x : Int} (h : hkB zs x = true) : 0 ≤ x ∧ x < (zs.length : Int) := by unfold hkB at h; simpa using h
/-- the code -/
def cdT (p h : Bool) : Int := if p then (if h then 0 else 2) else 1
theorem cdT_0 {p h : Bool} (e : cdT p h = 0) : p = true ∧ h = true := by cases p <;> cases h <;> simp_all [cdT]
theorem cdT_n {p h : Bool} (e : ¬ (p = true ∧ h = true)) : ¬ cdT p h = 0 := fun g => e (cdT_0 g)

set_option maxRecDepth 100000 in
theorem hkt_any (w : World) (a b : Option Addr) (c d : Nat) (zs ys : List Int) (x : Int) (lz : zs.length ≤ 1048576) :
    Calls Tryd.prog 37 #[.agg #[.slice a zs.length c, .slice b ys.length d], .int .i64 x] w fun e w' => e = .returned (.bool (hkB zs x)) ∧ Below w.heap.size w w' := by
  have HE : Hid (hkB zs x = (decide (0 ≤ x) && decide (x < (zs.length : Int)))) := Lib.hid rfl
  cases h0 : decide (0 ≤ x)
  · have g0 : ¬ 0 ≤ x := of_decide_eq_false h0
    go_enter Tryd.func37, Tryd.ntmps37
    go_wp2
    go_ret
    exact ⟨ret_bool (by rw [HE.out, h0]; rfl), (by repeat (first | exact Below.refl _ _ | (refine Below.alloc ?_ (by simp <;> omega) _) | (refine Below.setCell ?_ (by simp <;> omega) _) | (refine Below.drew ?_) | (refine bel_drewN ?_ _)))⟩
  · have g0 : 0 ≤ x := of_decide_eq_true h0
    go_enter Tryd.func37, Tryd.ntmps37
    go_wp2
    go_ret
    exact ⟨ret_bool (by rw [HE.out, h0]; simp), (by repeat (first | exact Below.refl _ _ | (refine Below.alloc ?_ (by simp <;> omega) _) | (refine Below.setCell ?_ (by simp <;> omega) _) | (refine Below.drew ?_) | (refine bel_drewN ?_ _)))⟩

set_option maxRecDepth 100000 in
theorem eok_any (w : World) (a b : Option Addr) (c d : Nat) (zs ys : List Int) (x : Int) (hp : Prof w w.heap.size a b zs ys) :
    Calls Tryd.prog 36 #[.agg #[.slice a zs.length c, .slice b ys.length d], .func (.func 37) #[.agg #[.slice a zs.length c, .slice b ys.length d]] #[], .int .i64 x] w fun e w' => e = .returned (.int .i64 (cdT (prfB zs ys) (hkB zs x))) ∧ Below w.heap.size w w' := by
  have lz := hp.lz
  have HP := Lib.hid hp
  clear hp
  cases hv : prfB zs ys
  · have HV := Lib.hid hv
    clear hv
    go_enter Tryd.func36, Tryd.ntmps36
    go_wp2_with (go_at_call 18; refine (ipr_any _ _ _ _ _ zs ys (HP.out.on (by repeat (first | exact Below.refl _ _ | (refine Below.alloc ?_ (by simp <;> omega) _) | (refine Below.setCell ?_ (by simp <;> omega) _) | (refine Below.drew ?_) | (refine bel_drewN ?_ _))))).mono ?_; rw [HV.out]; rintro e w' ⟨rfl, hb⟩)
    go_ret
    exact ⟨rfl, bel_end (by repeat (first | exact Below.refl _ _ | (refine Below.alloc ?_ (by simp <;> omega) _) | (refine Below.setCell ?_ (by simp <;> omega) _) | (refine Below.drew ?_) | (refine bel_drewN ?_ _))) hb⟩
  · have HV := Lib.hid hv
    clear hv
    cases hh : hkB zs x
    all_goals
      have HH := Lib.hid hh
      clear hh
      go_enter Tryd.func36, Tryd.ntmps36
      go_wp2_with fail
      refine (ipr_any _ _ _ _ _ zs ys (HP.out.on (by repeat (first | exact Below.refl _ _ | (refine Below.alloc ?_ (by simp <;> omega) _) | (refine Below.setCell ?_ (by simp <;> omega) _) | (refine Below.drew ?_) | (refine bel_drewN ?_ _))))).mono ?_
      rw [HV.out]
      rintro e w1 ⟨rfl, hb⟩
      have HB : Hid (Below w.heap.size w w1) := Lib.hid (bel_end (by repeat (first | exact Below.refl _ _ | (refine Below.alloc ?_ (by simp <;> omega) _) | (refine Below.setCell ?_ (by simp <;> omega) _) | (refine Below.drew ?_) | (refine bel_drewN ?_ _))) hb)
      clear hb
      go_wp2_with fail
      refine (hkt_any _ _ _ _ _ zs ys _ lz).mono ?_
      rw [HH.out]
      rintro e w2 ⟨rfl, hb⟩
      go_wp2
      go_ret
      exact ⟨rfl, bel_end HB.out hb⟩

set_option maxRecDepth 100000 in
set_option maxHeartbeats 1000000 in
theorem skc_any (w : World) (a b : Option Addr) (c d : Nat) (zs ys : List Int) (x m : Int) (m0 : 0 ≤ m) (m1 : m ≤ 1) (hp : Prof w w.heap.size a b zs ys) :
    Calls Tryd.prog 38 #[.agg #[.slice a zs.length c, .slice b ys.length d], .int .i64 x, .int .i64 m] w fun e w' => e = .returned (.int .i64 (cdT (prfB zs ys) (inB x 0 ((zs.length : Int) - 1 - m)))) ∧ Below w.heap.size w w' := by
  have lz := hp.lz
  have HP := Lib.hid hp
  clear hp
  cases hv : prfB zs ys
  · have HV := Lib.hid hv
    clear hv
    go_enter Tryd.func38, Tryd.ntmps38
    go_wp2_with (go_at_call 19; refine (spr_any _ _ _ _ _ zs ys (HP.out.on (by repeat (first | exact Below.refl _ _ | (refine Below.alloc ?_ (by simp <;> omega) _) | (refine Below.setCell ?_ (by simp <;> omega) _) | (refine Below.drew ?_) | (refine bel_drewN ?_ _))))).mono ?_; rw [HV.out]; rintro e w' ⟨rfl, hb⟩)
    go_ret
    exact ⟨rfl, bel_end (by repeat (first | exact Below.refl _ _ | (refine Below.alloc ?_ (by simp <;> omega) _) | (refine Below.setCell ?_ (by simp <;> omega) _) | (refine Below.drew ?_) | (refine bel_drewN ?_ _))) hb⟩
  · have HV := Lib.hid hv
    clear hv
    cases hh : inB x 0 ((zs.length : Int) - 1 - m)
    all_goals
      have HH := Lib.hid hh
      clear hh
      go_enter Tryd.func38, Tryd.ntmps38
      go_wp2_with fail
      obtain ⟨W, hW⟩ : ∃ W, W = w.alloc (.cells #[.slice a zs.length c, .slice b ys.length d] 24) := ⟨_, rfl⟩
      have c0 : W.cell? ⟨w.heap.size, 0, none⟩ = some (.slice a zs.length c) := by rw [hW]; simp [go_sem]
      have HB : Hid (Below w.heap.size w W) := Lib.hid (by rw [hW]; exact (by repeat (first | exact Below.refl _ _ | (refine Below.alloc ?_ (by simp <;> omega) _) | (refine Below.setCell ?_ (by simp <;> omega) _) | (refine Below.drew ?_) | (refine bel_drewN ?_ _))))
      rw [← hW]
      clear hW
      refine (spr_any _ _ _ _ _ zs ys (HP.out.on HB.out)).mono ?_
      rw [HV.out]
      rintro e w1 ⟨rfl, hb⟩
      have d0 := kc1 c0 hb
      have HB1 := Lib.hid (bel_end HB.out hb)
      clear hb c0
      go_wp2_with (go_at_call 54; refine (lin_any _ _ _ _).mono ?_; rw [HH.out]; rintro e w' ⟨rfl, rfl⟩)
      go_ret
      exact ⟨rfl, HB1.out⟩
theorem inB_hl (zs : List Int) (x : Int) : inB x 0 ((zs.length : Int) - 1 - 1) = hlB zs x := by
  unfold inB hlB; rw [Bool.eq_iff_iff]; simp; omega
theorem inB_hk (zs : List Int) (x : Int) : inB x 0 ((zs.length : Int) - 1 - 0) = hkB zs x := by
  unfold inB hkB; rw [Bool.eq_iff_iff]; simp; omega
end Go.Proofs.YtcaekheghjnipabDoor
