/- Codes of a profile together with a depth, a layer, a knot: contracts of the program's and the model's checks. -/
import Derived.Test.YtcaekheghjnipaaLay
namespace Go.Proofs.Ytcaekheghjnipaa
open Go.ChangeShapes Go.WideShapes Go.ChangeAt Go.RowKit Go.Shelf Num
set_option linter.unusedVariables false

set_option maxRecDepth 100000 in
set_option maxHeartbeats 1000000 in
theorem sly_any (w : World) (a b : Option Addr) (c d : Nat) (zs ys : List Int) (dep : Int) (hp : Prof w w.heap.size a b zs ys) (ho : Okp zs ys) (hd : dep ≤ zs.getD (zs.length - 1) 0) :
    Calls Try.prog 87 #[.agg #[.slice a zs.length c, .slice b ys.length d], .int .i64 dep] w fun e w' => e = .returned (.int .i64 (layN zs dep : Int)) ∧ Below w.heap.size w w' := by
  have lz := hp.lz
  have n2 := ho.n2
  have HP := Lib.hid hp
  have HO := Lib.hid ho
  have HD := Lib.hid hd
  clear hp ho hd
  go_enter Try.func87, Try.ntmps87
  go_wp2
  go_loop [5] (fun i => ∃ k : Nat, k + 1 < zs.length ∧ i = .int .i64 k ∧ (k = 0 ∨ zs.getD k 0 < dep)) (fun i => zs.length - (intOf i).toNat)
  case atStart => exact ⟨0, by omega, rfl, .inl rfl⟩
  case round =>
    obtain ⟨k, hk, rfl, hr⟩ := hrel
    have HR := Lib.hid hr
    clear hr
    obtain ⟨b1, o1, rfl, hB1, h1⟩ := HP.out.dz.at_ hk
    obtain ⟨x, hx⟩ : ∃ x, zs.getD (k + 1) 0 = x := ⟨_, rfl⟩
    rw [hx] at h1
    have HX := Lib.hid hx
    clear hx
    by_cases h : x < dep
    · have hk2 : k + 2 < zs.length := by
        rcases Nat.lt_or_ge (k + 2) zs.length with hlt | hge
        · exact hlt
        · have e : zs.length - 1 = k + 1 := by omega
          have := HD.out
          rw [e, HX.out] at this
          omega
      go_wp2
      go_round
      case rel => exact ⟨k + 1, hk2, by go_num, .inr (by rw [HX.out]; exact h)⟩
      case measure => simp [intOf]; omega
    · go_wp2
      go_ret
      exact ⟨ret_int (by rw [layN_uniq HO.out hk HR.out (by rw [HX.out]; omega)]), (by repeat (first | exact Below.refl _ _ | (refine Below.alloc ?_ (by simp <;> omega) _) | (refine Below.setCell ?_ (by simp <;> omega) _) | (refine Below.drew ?_) | (refine bel_drewN ?_ _)))⟩

/-- the depth, the layer, the knot is one of the profile's -/
def hdB (zs : List Int) (x : Int) : Bool := decide (0 ≤ x) && decide (x ≤ zs.getD (zs.length - 1) 0)
def hlB (zs : List Int) (x : Int) : Bool := decide (0 ≤ x) && decide (x < (zs.length : Int) - 1)
def hkB (zs : List Int) (x : Int) : Bool := decide (0 ≤ x) && decide (x < (zs.length : Int))
theorem hdB_t {zs : List Int} {x : Int} (h : hdB zs x = true) : 0 ≤ x ∧ x ≤ zs.getD (zs.length - 1) 0 := by unfold hdB at h; simpa using h
theorem hlB_t {zs : List Int} {x : Int} (h : hlB zs x = true) : 0 ≤ x ∧ x < (zs.length : Int) - 1 := by unfold hlB at h; simpa using h
theorem hkB_t {zs : List Int} {x : Int} (h : hkB zs x = true) : 0 ≤ x ∧ x < (zs.length : Int) := by unfold hkB at h; simpa using h
/-- the code -/
def cdT (p h : Bool) : Int := if p then (if h then 0 else 2) else 1
theorem cdT_0 {p h : Bool} (e : cdT p h = 0) : p = true ∧ h = true := by cases p <;> cases h <;> simp_all [cdT]
theorem cdT_n {p h : Bool} (e : ¬ (p = true ∧ h = true)) : ¬ cdT p h = 0 := fun g => e (cdT_0 g)

set_option maxRecDepth 100000 in
theorem hdp_any (w : World) (a b : Option Addr) (c d : Nat) (zs ys : List Int) (x : Int) (hp : Prof w w.heap.size a b zs ys) (n2 : 2 ≤ zs.length) :
    Calls Try.prog 81 #[.agg #[.slice a zs.length c, .slice b ys.length d], .int .i64 x] w fun e w' => e = .returned (.bool (hdB zs x)) ∧ Below w.heap.size w w' := by
  have lz := hp.lz
  obtain ⟨b1, o1, rfl, hB1, h1⟩ := hp.dz.at_ (show zs.length - 1 < zs.length by omega)
  obtain ⟨y, hy⟩ : ∃ y, zs.getD (zs.length - 1) 0 = y := ⟨_, rfl⟩
  have HE : Hid (hdB zs x = (decide (0 ≤ x) && decide (x ≤ y))) := Lib.hid (by unfold hdB; rw [hy])
  rw [hy] at h1
  have e1 : ((zs.length : Int) - 1).toNat = zs.length - 1 := by omega
  clear hp hy
  cases h0 : decide (0 ≤ x)
  · have g0 : ¬ 0 ≤ x := of_decide_eq_false h0
    go_enter Try.func81, Try.ntmps81
    go_wp2
    go_ret
    exact ⟨ret_bool (by rw [HE.out, h0]; rfl), (by repeat (first | exact Below.refl _ _ | (refine Below.alloc ?_ (by simp <;> omega) _) | (refine Below.setCell ?_ (by simp <;> omega) _) | (refine Below.drew ?_) | (refine bel_drewN ?_ _)))⟩
  · have g0 : 0 ≤ x := of_decide_eq_true h0
    go_enter Try.func81, Try.ntmps81
    go_wp2
    go_ret
    exact ⟨ret_bool (by rw [HE.out, h0]; simp), (by repeat (first | exact Below.refl _ _ | (refine Below.alloc ?_ (by simp <;> omega) _) | (refine Below.setCell ?_ (by simp <;> omega) _) | (refine Below.drew ?_) | (refine bel_drewN ?_ _)))⟩
set_option maxRecDepth 100000 in
theorem hly_any (w : World) (a b : Option Addr) (c d : Nat) (zs ys : List Int) (x : Int) (lz : zs.length ≤ 1048576) :
    Calls Try.prog 73 #[.agg #[.slice a zs.length c, .slice b ys.length d], .int .i64 x] w fun e w' => e = .returned (.bool (hlB zs x)) ∧ Below w.heap.size w w' := by
  have HE : Hid (hlB zs x = (decide (0 ≤ x) && decide (x < (zs.length : Int) - 1))) := Lib.hid rfl
  cases h0 : decide (0 ≤ x)
  · have g0 : ¬ 0 ≤ x := of_decide_eq_false h0
    go_enter Try.func73, Try.ntmps73
    go_wp2
    go_ret
    exact ⟨ret_bool (by rw [HE.out, h0]; rfl), (by repeat (first | exact Below.refl _ _ | (refine Below.alloc ?_ (by simp <;> omega) _) | (refine Below.setCell ?_ (by simp <;> omega) _) | (refine Below.drew ?_) | (refine bel_drewN ?_ _)))⟩
  · have g0 : 0 ≤ x := of_decide_eq_true h0
    go_enter Try.func73, Try.ntmps73
    go_wp2
    go_ret
    exact ⟨ret_bool (by rw [HE.out, h0]; simp), (by repeat (first | exact Below.refl _ _ | (refine Below.alloc ?_ (by simp <;> omega) _) | (refine Below.setCell ?_ (by simp <;> omega) _) | (refine Below.drew ?_) | (refine bel_drewN ?_ _)))⟩
set_option maxRecDepth 100000 in
theorem hkt_any (w : World) (a b : Option Addr) (c d : Nat) (zs ys : List Int) (x : Int) (lz : zs.length ≤ 1048576) :
    Calls Try.prog 94 #[.agg #[.slice a zs.length c, .slice b ys.length d], .int .i64 x] w fun e w' => e = .returned (.bool (hkB zs x)) ∧ Below w.heap.size w w' := by
  have HE : Hid (hkB zs x = (decide (0 ≤ x) && decide (x < (zs.length : Int)))) := Lib.hid rfl
  cases h0 : decide (0 ≤ x)
  · have g0 : ¬ 0 ≤ x := of_decide_eq_false h0
    go_enter Try.func94, Try.ntmps94
    go_wp2
    go_ret
    exact ⟨ret_bool (by rw [HE.out, h0]; rfl), (by repeat (first | exact Below.refl _ _ | (refine Below.alloc ?_ (by simp <;> omega) _) | (refine Below.setCell ?_ (by simp <;> omega) _) | (refine Below.drew ?_) | (refine bel_drewN ?_ _)))⟩
  · have g0 : 0 ≤ x := of_decide_eq_true h0
    go_enter Try.func94, Try.ntmps94
    go_wp2
    go_ret
    exact ⟨ret_bool (by rw [HE.out, h0]; simp), (by repeat (first | exact Below.refl _ _ | (refine Below.alloc ?_ (by simp <;> omega) _) | (refine Below.setCell ?_ (by simp <;> omega) _) | (refine Below.drew ?_) | (refine bel_drewN ?_ _)))⟩

set_option maxRecDepth 100000 in
theorem eod_any (w : World) (a b : Option Addr) (c d : Nat) (zs ys : List Int) (x : Int) (hp : Prof w w.heap.size a b zs ys) :
    Calls Try.prog 80 #[.agg #[.slice a zs.length c, .slice b ys.length d], .func (.func 81) #[.agg #[.slice a zs.length c, .slice b ys.length d]] #[], .int .i64 x] w fun e w' => e = .returned (.int .i64 (cdT (prfB zs ys) (hdB zs x))) ∧ Below w.heap.size w w' := by
  have lz := hp.lz
  have HP := Lib.hid hp
  clear hp
  cases hv : prfB zs ys
  · have HV := Lib.hid hv
    clear hv
    go_enter Try.func80, Try.ntmps80
    go_wp2_with (go_at_call 106; refine (ipr_any _ _ _ _ _ zs ys (HP.out.on (by repeat (first | exact Below.refl _ _ | (refine Below.alloc ?_ (by simp <;> omega) _) | (refine Below.setCell ?_ (by simp <;> omega) _) | (refine Below.drew ?_) | (refine bel_drewN ?_ _))))).mono ?_; rw [HV.out]; rintro e w' ⟨rfl, hb⟩)
    go_ret
    exact ⟨rfl, bel_end (by repeat (first | exact Below.refl _ _ | (refine Below.alloc ?_ (by simp <;> omega) _) | (refine Below.setCell ?_ (by simp <;> omega) _) | (refine Below.drew ?_) | (refine bel_drewN ?_ _))) hb⟩
  · have HV := Lib.hid hv
    clear hv
    cases hh : hdB zs x
    all_goals
      have HH := Lib.hid hh
      clear hh
      go_enter Try.func80, Try.ntmps80
      go_wp2_with fail
      refine (ipr_any _ _ _ _ _ zs ys (HP.out.on (by repeat (first | exact Below.refl _ _ | (refine Below.alloc ?_ (by simp <;> omega) _) | (refine Below.setCell ?_ (by simp <;> omega) _) | (refine Below.drew ?_) | (refine bel_drewN ?_ _))))).mono ?_
      rw [HV.out]
      rintro e w1 ⟨rfl, hb⟩
      have HB : Hid (Below w.heap.size w w1) := Lib.hid (bel_end (by repeat (first | exact Below.refl _ _ | (refine Below.alloc ?_ (by simp <;> omega) _) | (refine Below.setCell ?_ (by simp <;> omega) _) | (refine Below.drew ?_) | (refine bel_drewN ?_ _))) hb)
      clear hb
      go_wp2_with fail
      refine (hdp_any _ _ _ _ _ zs ys _ (HP.out.on HB.out) (Okp.of HV.out).n2).mono ?_
      rw [HH.out]
      rintro e w2 ⟨rfl, hb⟩
      go_wp2
      go_ret
      exact ⟨rfl, bel_end HB.out hb⟩

set_option maxRecDepth 100000 in
theorem eol_any (w : World) (a b : Option Addr) (c d : Nat) (zs ys : List Int) (x : Int) (hp : Prof w w.heap.size a b zs ys) :
    Calls Try.prog 80 #[.agg #[.slice a zs.length c, .slice b ys.length d], .func (.func 73) #[.agg #[.slice a zs.length c, .slice b ys.length d]] #[], .int .i64 x] w fun e w' => e = .returned (.int .i64 (cdT (prfB zs ys) (hlB zs x))) ∧ Below w.heap.size w w' := by
  have lz := hp.lz
  have HP := Lib.hid hp
  clear hp
  cases hv : prfB zs ys
  · have HV := Lib.hid hv
    clear hv
    go_enter Try.func80, Try.ntmps80
    go_wp2_with (go_at_call 106; refine (ipr_any _ _ _ _ _ zs ys (HP.out.on (by repeat (first | exact Below.refl _ _ | (refine Below.alloc ?_ (by simp <;> omega) _) | (refine Below.setCell ?_ (by simp <;> omega) _) | (refine Below.drew ?_) | (refine bel_drewN ?_ _))))).mono ?_; rw [HV.out]; rintro e w' ⟨rfl, hb⟩)
    go_ret
    exact ⟨rfl, bel_end (by repeat (first | exact Below.refl _ _ | (refine Below.alloc ?_ (by simp <;> omega) _) | (refine Below.setCell ?_ (by simp <;> omega) _) | (refine Below.drew ?_) | (refine bel_drewN ?_ _))) hb⟩
  · have HV := Lib.hid hv
    clear hv
    cases hh : hlB zs x
    all_goals
      have HH := Lib.hid hh
      clear hh
      go_enter Try.func80, Try.ntmps80
      go_wp2_with fail
      refine (ipr_any _ _ _ _ _ zs ys (HP.out.on (by repeat (first | exact Below.refl _ _ | (refine Below.alloc ?_ (by simp <;> omega) _) | (refine Below.setCell ?_ (by simp <;> omega) _) | (refine Below.drew ?_) | (refine bel_drewN ?_ _))))).mono ?_
      rw [HV.out]
      rintro e w1 ⟨rfl, hb⟩
      have HB : Hid (Below w.heap.size w w1) := Lib.hid (bel_end (by repeat (first | exact Below.refl _ _ | (refine Below.alloc ?_ (by simp <;> omega) _) | (refine Below.setCell ?_ (by simp <;> omega) _) | (refine Below.drew ?_) | (refine bel_drewN ?_ _))) hb)
      clear hb
      go_wp2_with fail
      refine (hly_any _ _ _ _ _ zs ys _ lz).mono ?_
      rw [HH.out]
      rintro e w2 ⟨rfl, hb⟩
      go_wp2
      go_ret
      exact ⟨rfl, bel_end HB.out hb⟩

set_option maxRecDepth 100000 in
theorem eok_any (w : World) (a b : Option Addr) (c d : Nat) (zs ys : List Int) (x : Int) (hp : Prof w w.heap.size a b zs ys) :
    Calls Try.prog 80 #[.agg #[.slice a zs.length c, .slice b ys.length d], .func (.func 94) #[.agg #[.slice a zs.length c, .slice b ys.length d]] #[], .int .i64 x] w fun e w' => e = .returned (.int .i64 (cdT (prfB zs ys) (hkB zs x))) ∧ Below w.heap.size w w' := by
  have lz := hp.lz
  have HP := Lib.hid hp
  clear hp
  cases hv : prfB zs ys
  · have HV := Lib.hid hv
    clear hv
    go_enter Try.func80, Try.ntmps80
    go_wp2_with (go_at_call 106; refine (ipr_any _ _ _ _ _ zs ys (HP.out.on (by repeat (first | exact Below.refl _ _ | (refine Below.alloc ?_ (by simp <;> omega) _) | (refine Below.setCell ?_ (by simp <;> omega) _) | (refine Below.drew ?_) | (refine bel_drewN ?_ _))))).mono ?_; rw [HV.out]; rintro e w' ⟨rfl, hb⟩)
    go_ret
    exact ⟨rfl, bel_end (by repeat (first | exact Below.refl _ _ | (refine Below.alloc ?_ (by simp <;> omega) _) | (refine Below.setCell ?_ (by simp <;> omega) _) | (refine Below.drew ?_) | (refine bel_drewN ?_ _))) hb⟩
  · have HV := Lib.hid hv
    clear hv
    cases hh : hkB zs x
    all_goals
      have HH := Lib.hid hh
      clear hh
      go_enter Try.func80, Try.ntmps80
      go_wp2_with fail
      refine (ipr_any _ _ _ _ _ zs ys (HP.out.on (by repeat (first | exact Below.refl _ _ | (refine Below.alloc ?_ (by simp <;> omega) _) | (refine Below.setCell ?_ (by simp <;> omega) _) | (refine Below.drew ?_) | (refine bel_drewN ?_ _))))).mono ?_
      rw [HV.out]
      rintro e w1 ⟨rfl, hb⟩
      have HB : Hid (Below w.heap.size w w1) := Lib.hid (bel_end (by repeat (first | exact Below.refl _ _ | (refine Below.alloc ?_ (by simp <;> omega) _) | (refine Below.setCell ?_ (by simp <;> omega) _) | (refine Below.drew ?_) | (refine bel_drewN ?_ _))) hb)
      clear hb
      go_wp2_with fail
      refine (hkt_any _ _ _ _ _ zs ys _ lz).mono ?_
      rw [HH.out]
      rintro e w2 ⟨rfl, hb⟩
      go_wp2
      go_ret
      exact ⟨rfl, bel_end HB.out hb⟩

set_option maxRecDepth 100000 in
set_option maxHeartbeats 1000000 in
theorem scd_any (w : World) (a b : Option Addr) (c d : Nat) (zs ys : List Int) (x : Int) (hp : Prof w w.heap.size a b zs ys) :
    Calls Try.prog 86 #[.agg #[.slice a zs.length c, .slice b ys.length d], .int .i64 x] w fun e w' => e = .returned (.int .i64 (cdT (prfB zs ys) (hdB zs x))) ∧ Below w.heap.size w w' := by
  have lz := hp.lz
  have HP := Lib.hid hp
  clear hp
  cases hv : prfB zs ys
  · have HV := Lib.hid hv
    clear hv
    go_enter Try.func86, Try.ntmps86
    go_wp2_with (go_at_call 93; refine (spr_any _ _ _ _ _ zs ys (HP.out.on (by repeat (first | exact Below.refl _ _ | (refine Below.alloc ?_ (by simp <;> omega) _) | (refine Below.setCell ?_ (by simp <;> omega) _) | (refine Below.drew ?_) | (refine bel_drewN ?_ _))))).mono ?_; rw [HV.out]; rintro e w' ⟨rfl, hb⟩)
    go_ret
    exact ⟨rfl, bel_end (by repeat (first | exact Below.refl _ _ | (refine Below.alloc ?_ (by simp <;> omega) _) | (refine Below.setCell ?_ (by simp <;> omega) _) | (refine Below.drew ?_) | (refine bel_drewN ?_ _))) hb⟩
  · have HV := Lib.hid hv
    have n2 := (Okp.of hv).n2
    clear hv
    obtain ⟨b1, o1, rfl, hB1, h1⟩ := HP.out.dz.at_ (show zs.length - 1 < zs.length by omega)
    obtain ⟨y, hy⟩ : ∃ y, zs.getD (zs.length - 1) 0 = y := ⟨_, rfl⟩
    have HE : Hid (hdB zs x = inB x 0 y) := Lib.hid (by unfold hdB inB; rw [hy]; rw [Bool.eq_iff_iff]; simp)
    rw [hy] at h1
    have e1 : ((zs.length : Int) - 1).toNat = zs.length - 1 := by omega
    clear hy
    cases hh : inB x 0 y
    all_goals
      have HH := Lib.hid hh
      clear hh
      rw [HE.out, HH.out]
      go_enter Try.func86, Try.ntmps86
      go_wp2_with fail
      obtain ⟨W, hW⟩ : ∃ W, W = w.alloc (.cells #[.slice (some ⟨b1, o1, none⟩) zs.length c, .slice b ys.length d] 42) := ⟨_, rfl⟩
      have c0 : W.cell? ⟨w.heap.size, 0, none⟩ = some (.slice (some ⟨b1, o1, none⟩) zs.length c) := by rw [hW]; simp [go_sem]
      have HB : Hid (Below w.heap.size w W) := Lib.hid (by rw [hW]; exact (by repeat (first | exact Below.refl _ _ | (refine Below.alloc ?_ (by simp <;> omega) _) | (refine Below.setCell ?_ (by simp <;> omega) _) | (refine Below.drew ?_) | (refine bel_drewN ?_ _))))
      rw [← hW]
      clear hW
      refine (spr_any _ _ _ _ _ zs ys (HP.out.on HB.out)).mono ?_
      rw [HV.out]
      rintro e w1 ⟨rfl, hb⟩
      have d0 := kc1 c0 hb
      have HB1 := Lib.hid (bel_end HB.out hb)
      have g1 := kc1 h1 HB1.out
      clear hb c0
      go_wp2_with (go_at_call 55; refine (lin_any _ _ _ _).mono ?_; rw [HH.out]; rintro e w' ⟨rfl, rfl⟩)
      go_ret
      exact ⟨rfl, HB1.out⟩

theorem inB_hl (zs : List Int) (x : Int) : inB x 0 ((zs.length : Int) - 1 - 1) = hlB zs x := by
  unfold inB hlB; rw [Bool.eq_iff_iff]; simp; omega
theorem inB_hk (zs : List Int) (x : Int) : inB x 0 ((zs.length : Int) - 1 - 0) = hkB zs x := by
  unfold inB hkB; rw [Bool.eq_iff_iff]; simp; omega
end Go.Proofs.Ytcaekheghjnipaa
