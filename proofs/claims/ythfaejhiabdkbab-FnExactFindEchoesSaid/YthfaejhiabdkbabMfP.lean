/- Contracts of peaks: cmp.Compare, cmp.Or, marks, which of two comes first, slices.MinFunc at marks. -/
import Derived.Test.YthfaejhiabdkbabMfA
import Derived.StillTailTactics
namespace Go.Proofs.Ythfaejhiabdkbab
open Go.ChangeShapes Go.WideShapes Go.ChangeAt Go.RowKit Go.Shelf Num
set_option linter.unusedVariables false
set_option linter.unusedSimpArgs false
theorem nan_any (x : Int) (w : World) :
    Calls Try.prog 79 #[.int .i64 x] w fun e w' => e = .returned (.bool false) ∧ w = w' := by
  go_enter Try.func79, Try.ntmps79
  go_wp2
  go_ret
  exact ⟨ret_bool (by simp), rfl⟩
/-- the comparison of two numbers -/
def cmpV (x y : Int) : Int := if x < y then -1 else if y < x then 1 else 0
theorem cmpV_lt {x y : Int} (h : x < y) : cmpV x y = -1 := by unfold cmpV; rw [if_pos h]
theorem cmpV_gt {x y : Int} (h : y < x) : cmpV x y = 1 := by unfold cmpV; rw [if_neg (by omega), if_pos h]
theorem cmpV_eq {x y : Int} (h : x = y) : cmpV x y = 0 := by unfold cmpV; rw [if_neg (by omega), if_neg (by omega)]
theorem cpv_any (x y : Int) (w : World) :
    Calls Try.prog 77 #[.int .i64 x, .int .i64 y] w fun e w' => e = .returned (.int .i64 (cmpV x y)) ∧ w = w' := by
  by_cases h : x < y
  · have H := Lib.hid (cmpV_lt h)
    go_enter Try.func77, Try.ntmps77
    go_wp2_with (go_at_call 79; refine (nan_any _ _).mono ?_; rintro e w' ⟨rfl, rfl⟩)
    go_ret
    exact ⟨ret_int H.out.symm, rfl⟩
  · by_cases h2 : y < x
    · have H := Lib.hid (cmpV_gt h2)
      go_enter Try.func77, Try.ntmps77
      go_wp2_with (go_at_call 79; refine (nan_any _ _).mono ?_; rintro e w' ⟨rfl, rfl⟩)
      go_ret
      exact ⟨ret_int H.out.symm, rfl⟩
    · obtain rfl : x = y := by omega
      have H := Lib.hid (cmpV_eq (x := x) rfl)
      clear h h2
      go_enter Try.func77, Try.ntmps77
      go_wp2_with (go_at_call 79; refine (nan_any _ _).mono ?_; rintro e w' ⟨rfl, rfl⟩)
      go_ret
      exact ⟨ret_int H.out.symm, rfl⟩
/-- the first of two that is not 0 -/
def orV (a b : Int) : Int := if a = 0 then b else a
theorem or_any (w : World) (g : Nat) (a b : Int) (h0 : w.cell? ⟨g, 0, none⟩ = some (.int .i64 a)) (h1 : w.cell? ⟨g, 1, none⟩ = some (.int .i64 b)) :
    Calls Try.prog 76 #[.slice (some ⟨g, 0, none⟩) 2 2] w fun e w' => e = .returned (.int .i64 (orV a b)) ∧ w = w' := by
  go_enter Try.func76, Try.ntmps76
  go_wp2
  go_loop [8] (fun i => ∃ k : Nat, k ≤ 2 ∧ i = .int .i64 k ∧ (0 < k → a = 0) ∧ (1 < k → b = 0)) (fun i => 2 - (intOf i).toNat)
  case atStart => exact ⟨0, by omega, rfl, fun h => absurd h (Nat.lt_irrefl _), fun h => by omega⟩
  case round =>
    obtain ⟨k, hk, rfl, ha, hb⟩ := hrel
    by_cases k0 : k = 0
    · subst k0
      by_cases e : a = 0
      · subst e
        have hz : ((0 : Int) != 0) = false := rfl
        clear ha hb
        go_wp2
        go_round
        case rel => exact ⟨1, by omega, by first | rfl | go_num, fun _ => by trivial, fun h => by omega⟩
        case measure => simp [intOf]
      · have hz : (a != 0) = true := by simpa using e
        have HO : Hid (orV a b = a) := Lib.hid (by unfold orV; rw [if_neg e])
        clear ha hb e
        go_wp2
        go_ret
        exact ⟨ret_int HO.out.symm, rfl⟩
    · by_cases k1 : k = 1
      · subst k1
        have ea := ha (by omega)
        subst ea
        have HO : Hid (orV 0 b = b) := Lib.hid rfl
        by_cases e : b = 0
        · subst e
          have hz : ((0 : Int) != 0) = false := rfl
          clear ha hb k0
          go_wp2
          go_round
          case rel => exact ⟨2, by omega, by first | rfl | go_num, fun _ => by trivial, fun h => by trivial⟩
          case measure => simp [intOf]
        · have hz : (b != 0) = true := by simpa using e
          clear ha hb k0 e
          go_wp2
          go_ret
          exact ⟨ret_int HO.out.symm, rfl⟩
      · obtain rfl : k = 2 := by omega
        have ea := ha (by omega)
        have eb := hb (by omega)
        subst ea eb
        clear ha hb k0 k1
        go_wp2
        go_ret
        exact ⟨rfl, rfl⟩
/-- which of two marks comes first -/
def sfV (i1 v1 i2 v2 : Int) : Int := orV (cmpV (v2.natAbs : Int) (v1.natAbs : Int)) (cmpV i1 i2)
theorem sfV_up {i1 v1 i2 v2 : Int} (h : (v2.natAbs : Int) < (v1.natAbs : Int)) : sfV i1 v1 i2 v2 = -1 := by unfold sfV; rw [cmpV_lt h]; rfl
theorem sfV_down {i1 v1 i2 v2 : Int} (h : (v1.natAbs : Int) < (v2.natAbs : Int)) : sfV i1 v1 i2 v2 = 1 := by unfold sfV; rw [cmpV_gt h]; rfl
theorem sfV_same {i1 v1 i2 v2 : Int} (h : (v1.natAbs : Int) = (v2.natAbs : Int)) : sfV i1 v1 i2 v2 = cmpV i1 i2 := by unfold sfV; rw [cmpV_eq h.symm]; rfl
theorem sfV_late {i1 v1 i2 v2 : Int} (h : ¬ (v2.natAbs : Int) < (v1.natAbs : Int)) (hi : i2 < i1) : sfV i1 v1 i2 v2 = 1 := by
  by_cases e : (v1.natAbs : Int) = (v2.natAbs : Int)
  · rw [sfV_same e, cmpV_gt hi]
  · exact sfV_down (by omega)
set_option maxRecDepth 100000 in
set_option maxHeartbeats 1000000 in
theorem sfi_any (w : World) (i1 v1 i2 v2 : Int) (a1 : -9000000000000000000 ≤ v1) (a2 : v1 ≤ 9000000000000000000) (b1 : -9000000000000000000 ≤ v2) (b2 : v2 ≤ 9000000000000000000) :
    Calls Try.prog 71 #[.agg #[.int .i64 i1, .int .i64 v1], .agg #[.int .i64 i2, .int .i64 v2]] w fun e w' => e = .returned (.int .i64 (sfV i1 v1 i2 v2)) ∧ Below w.heap.size w w' := by
  have K1 := Lib.hid (fun (W : World) => (abs_any v1 a1 a2 W).mono (R' := fun e w' => e = .returned (.int .i64 (v1.natAbs : Int)) ∧ w' = W) (fun e w' h => ⟨h.1, h.2.symm⟩))
  have K2 := Lib.hid (fun (W : World) => (abs_any v2 b1 b2 W).mono (R' := fun e w' => e = .returned (.int .i64 (v2.natAbs : Int)) ∧ w' = W) (fun e w' h => ⟨h.1, h.2.symm⟩))
  have K3 := Lib.hid (fun (x y : Int) (W : World) => (cpv_any x y W).mono (R' := fun e w' => e = .returned (.int .i64 (cmpV x y)) ∧ w' = W) (fun e w' h => ⟨h.1, h.2.symm⟩))
  have HE : Hid (sfV i1 v1 i2 v2 = orV (cmpV (v2.natAbs : Int) (v1.natAbs : Int)) (cmpV i1 i2)) := Lib.hid rfl
  go_enter Try.func71, Try.ntmps71
  go_wp2_with fail
  obtain ⟨W, hW⟩ : ∃ W, W = (w.alloc (.cells #[.int .i64 i1, .int .i64 v1] 69)).alloc (.cells #[.int .i64 i2, .int .i64 v2] 69) := ⟨_, rfl⟩
  have p0 : W.cell? ⟨w.heap.size, 0, none⟩ = some (.int .i64 i1) := by rw [hW]; simp [go_sem]
  have p1 : W.cell? ⟨w.heap.size, 1, none⟩ = some (.int .i64 v1) := by rw [hW]; simp [go_sem]
  have r0 : W.cell? ⟨w.heap.size + 1, 0, none⟩ = some (.int .i64 i2) := by rw [hW]; simp [go_sem]
  have r1 : W.cell? ⟨w.heap.size + 1, 1, none⟩ = some (.int .i64 v2) := by rw [hW]; simp [go_sem]
  have HB : Hid (Below w.heap.size w W) := Lib.hid (by rw [hW]; exact (by repeat (first | exact Below.refl _ _ | (refine Below.alloc ?_ (by simp <;> omega) _) | (refine Below.setCell ?_ (by simp <;> omega) _) | (refine Below.drew ?_) | (refine bel_drewN ?_ _))))
  rw [← hW]
  clear hW
  refine wp_region_still_tail 12 (by kernel_rfl) (by kernel_rfl) ?_
  simp only [List.take_succ_cons, List.take_zero, List.drop_succ_cons, List.drop_zero]
  repeat still_step
  still_call (K2.out _)
  repeat still_step
  still_call (K1.out _)
  still_call (K3.out _ _ _)
  repeat still_step
  still_call (K3.out _ _ _)
  refine wpStill_nil ?_
  obtain ⟨C1, hC1⟩ : ∃ C1, cmpV (v2.natAbs : Int) (v1.natAbs : Int) = C1 := ⟨_, rfl⟩
  obtain ⟨C2, hC2⟩ : ∃ C2, cmpV i1 i2 = C2 := ⟨_, rfl⟩
  rw [hC1, hC2] at HE
  rw [hC1, hC2]
  clear hC1 hC2
  go_wp2_with fail
  refine (or_any _ _ C1 C2 (by simp [go_sem]) (by simp [go_sem])).mono ?_
  rintro e w' ⟨rfl, rfl⟩
  go_wp2
  go_ret
  exact ⟨ret_int HE.out.symm, HB.out.drew.alloc HB.out.size _⟩
end Go.Proofs.Ythfaejhiabdkbab
