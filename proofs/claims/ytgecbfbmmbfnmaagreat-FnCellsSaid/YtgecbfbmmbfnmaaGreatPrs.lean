import Derived.Test.YtgecbfbmmbfnmaaGreatBas
import Derived.LoopTactic
import Derived.Deep.QuietTactic
import Derived.BigQuiet
import Derived.Outline
import Derived.RangeFuncNested
import Derived.RangeFuncBound
import Derived.RangeFuncCalls
import Derived.RangeFuncLeaves
import Derived.Shelf.Abstract
import Derived.Shelf.RegionOpen
import Derived.OwnWalkIn
import Derived.TacticsInMore
import Derived.LoopNIn
import Derived.LoopIn
import Derived.StillTailTactics
import Derived.OwnWalk
import Derived.Laws.OwnMore
namespace Go.Proofs.YtgecbfbmmbfnmaaGreat
/- Contracts of IsRising, the program's and the model's. Contracts of slices.Min and slices.Max at a list of integers that is not empty, and of slices.ContainsFunc at the method value 'lacks' of an interval. Profiles: two slices of numbers, depths and speeds, in the memory; when a profile is valid; contracts of IsProfile, the program's and the model's. The knots of a profile, produced by a function that is ranged over: contracts of a knot, of the maker, and of the iterator. Rows of numbers of one's own: kept over calls, read. Contracts of the laws' own helpers on profiles: their size, their copy in new memory, their comparison. -/
open Go.ChangeShapes Go.WideShapes Go.ChangeAt Go.RowKit Num
set_option linter.unusedVariables false
/-- strictly increasing, all elements from 0 to n - 1 -/
def risP (zs : List Int) (n : Int) (i : Nat) : Prop := 0 ≤ zs.getD i 0 ∧ zs.getD i 0 < n ∧ (0 < i → zs.getD (i - 1) 0 < zs.getD i 0)
instance (zs : List Int) (n : Int) (i : Nat) : Decidable (risP zs n i) := by unfold risP; infer_instance
def risB (zs : List Int) (n : Int) : Bool := decide (∀ i, i < zs.length → risP zs n i)
theorem risB_t {zs : List Int} {n : Int} (h : ∀ i, i < zs.length → risP zs n i) : risB zs n = true := by unfold risB; exact decide_eq_true h
theorem risB_f {zs : List Int} {n : Int} {k : Nat} (hk : k < zs.length) (h : ¬ risP zs n k) : risB zs n = false := by
  unfold risB; exact decide_eq_false (fun g => h (g k hk))

theorem iir_any (w : World) (B : Nat) (a : Option Addr) (cap : Nat) (zs : List Int) (n : Int) (hl : zs.length ≤ 9223372036854775807) (hz : Ints .i64 w B a zs) :
    Calls Tryz.prog 78 #[.slice a zs.length cap, .int .i64 n] w fun e w' => e = .returned (.bool (risB zs n)) ∧ w = w' := by
  go_enter Tryz.func78, Tryz.ntmps78
  go_wp2
  go_loop [9] (fun i => ∃ k : Nat, k ≤ zs.length ∧ i = .int .i64 k ∧ ∀ j, j < k → risP zs n j) (fun i => zs.length - (intOf i).toNat)
  case atStart => exact ⟨0, by omega, rfl, fun j hj => by omega⟩
  case round =>
    obtain ⟨k, hk, rfl, hr⟩ := hrel
    have HR := Lib.hid hr
    clear hr
    by_cases hlt : k < zs.length
    · obtain ⟨b, off, rfl, hB, hc⟩ := hz.at_ hlt
      have HZ := Lib.hid hz
      clear hz
      obtain ⟨x, hx⟩ : ∃ x, zs.getD k 0 = x := ⟨_, rfl⟩
      rw [hx] at hc
      have HX := Lib.hid hx
      clear hx
      by_cases h1 : x < 0
      · go_wp2
        go_ret
        exact ⟨ret_bool (risB_f hlt (fun h => by have := h.1; rw [HX.out] at this; omega)).symm, rfl⟩
      · by_cases h2 : n ≤ x
        · go_wp2
          go_ret
          exact ⟨ret_bool (risB_f hlt (fun h => by have := h.2.1; rw [HX.out] at this; omega)).symm, rfl⟩
        · cases k with
          | zero =>
            rw [Nat.add_zero] at hc
            go_wp2
            go_round
            case rel => exact ⟨1, by omega, rfl, fun j hj => by obtain rfl : j = 0 := by omega
                                                                exact ⟨by rw [HX.out]; omega, by rw [HX.out]; omega, by omega⟩⟩
            case measure => simp [intOf]; omega
          | succ m =>
            obtain ⟨b', off', he, _, hc2⟩ := HZ.out.at_ (j := m) (by omega)
            simp only [Option.some.injEq, Addr.mk.injEq, and_true] at he
            obtain ⟨e1, e2⟩ := he
            subst e1 e2
            obtain ⟨y, hy⟩ : ∃ y, zs.getD m 0 = y := ⟨_, rfl⟩
            rw [hy] at hc2
            have HY := Lib.hid hy
            clear hy
            by_cases h3 : x ≤ y
            · go_wp2
              go_ret
              exact ⟨ret_bool (risB_f hlt (fun h => by have := h.2.2 (by omega); rw [HX.out, Nat.add_sub_cancel, HY.out] at this; omega)).symm, rfl⟩
            · go_wp2
              go_round
              case rel =>
                refine ⟨m + 2, by omega, by go_num, fun j hj => ?_⟩
                by_cases hjm : j < m + 1
                · exact HR.out j hjm
                · obtain rfl : j = m + 1 := by omega
                  exact ⟨by rw [HX.out]; omega, by rw [HX.out]; omega, fun _ => by rw [HX.out, Nat.add_sub_cancel, HY.out]; omega⟩
              case measure => simp [intOf]; omega
    · go_wp2
      go_ret
      exact ⟨ret_bool (risB_t (fun i hi => HR.out i (by omega))).symm, rfl⟩
set_option maxHeartbeats 1000000 in
theorem lri_any (w : World) (B : Nat) (a : Option Addr) (cap : Nat) (zs : List Int) (n : Int) (hl : zs.length ≤ 9223372036854775807) (hz : Ints .i64 w B a zs) :
    Calls Tryz.prog 63 #[.slice a zs.length cap, .int .i64 n] w fun e w' => e = .returned (.bool (risB zs n)) ∧ ∃ n, w' = w.drewN n := by
  go_enter Tryz.func63, Tryz.ntmps63
  go_wp2
  go_loopw [5] (fun i wr => ∃ k : Nat, (∃ n, wr = w.drewN n) ∧ k ≤ zs.length ∧ i = .int .i64 k ∧ ∀ j, j < k → risP zs n j) (fun i _ => zs.length - (intOf i).toNat)
  case atStart => exact ⟨0, ⟨0, rfl⟩, by omega, rfl, fun j hj => by omega⟩
  case round =>
    obtain ⟨k, ⟨nd, rfl⟩, hk, rfl, hr⟩ := hrel
    have HR := Lib.hid hr
    clear hr
    by_cases hlt : k < zs.length
    · obtain ⟨b, off, rfl, hB, hc⟩ := hz.at_ hlt
      have HZ := Lib.hid hz
      clear hz
      obtain ⟨x, hx⟩ : ∃ x, zs.getD k 0 = x := ⟨_, rfl⟩
      rw [hx] at hc
      have HX := Lib.hid hx
      clear hx
      by_cases h1 : x < 0
      · go_wp2
        go_quiet (fail)
        go_wp2
        go_ret
        exact ⟨ret_bool (risB_f hlt (fun h => by have := h.1; rw [HX.out] at this; omega)).symm, _, World.drewN_drewN _ _ _⟩
      · have d1 : decide (x < 0) = false := by simpa using h1
        by_cases h2 : n ≤ x
        · have d2 : decide (n ≤ x) = true := by simpa using h2
          go_wp2
          go_quiet (fail)
          go_wp2
          go_ret
          exact ⟨ret_bool (risB_f hlt (fun h => by have := h.2.1; rw [HX.out] at this; omega)).symm, _, World.drewN_drewN _ _ _⟩
        · have d2 : decide (n ≤ x) = false := by simpa using h2
          cases k with
          | zero =>
            rw [Nat.add_zero] at hc
            have d3 : decide ((0 : Int) < 0) = false := by decide
            go_wp2
            go_quiet (fail)
            go_wp2
            go_roundw
            case rel => exact ⟨1, ⟨_, rfl⟩, by omega, rfl, fun j hj => by
              obtain rfl : j = 0 := by omega
              exact ⟨by rw [HX.out]; omega, by rw [HX.out]; omega, by omega⟩⟩
            case measure => simp [intOf]; omega
          | succ m =>
            obtain ⟨b', off', he, _, hc2⟩ := HZ.out.at_ (j := m) (by omega)
            simp only [Option.some.injEq, Addr.mk.injEq, and_true] at he
            obtain ⟨e1, e2⟩ := he
            subst e1 e2
            obtain ⟨y, hy⟩ : ∃ y, zs.getD m 0 = y := ⟨_, rfl⟩
            rw [hy] at hc2
            have HY := Lib.hid hy
            clear hy
            have d3 : decide ((0 : Int) < (m : Int) + 1) = true := by simp
            by_cases h3 : x ≤ y
            · have d4 : decide (x ≤ y) = true := by simpa using h3
              go_wp2
              go_quiet (fail)
              go_wp2
              go_ret
              exact ⟨ret_bool (risB_f hlt (fun h => by have := h.2.2 (by omega); rw [HX.out, Nat.add_sub_cancel, HY.out] at this; omega)).symm, _, World.drewN_drewN _ _ _⟩
            · have d4 : decide (x ≤ y) = false := by simpa using h3
              go_wp2
              go_quiet (fail)
              go_wp2
              go_roundw
              case rel =>
                refine ⟨m + 2, ⟨_, rfl⟩, by omega, by go_num, fun j hj => ?_⟩
                by_cases hjm : j < m + 1
                · exact HR.out j hjm
                · obtain rfl : j = m + 1 := by omega
                  exact ⟨by rw [HX.out]; omega, by rw [HX.out]; omega, fun _ => by rw [HX.out, Nat.add_sub_cancel, HY.out]; omega⟩
              case measure => simp [intOf]; omega
    · go_wp2
      go_ret
      exact ⟨ret_bool (risB_t (fun i hi => HR.out i (by omega))).symm, _, rfl⟩

open Go.ChangeShapes Go.WideShapes Go.ChangeAt Go.RowKit
set_option linter.unusedVariables false
/-- the least, the greatest of the first k + 1 elements -/
def mnTo (zs : List Int) : Nat → Int | 0 => zs.getD 0 0 | k + 1 => if zs.getD (k + 1) 0 < mnTo zs k then zs.getD (k + 1) 0 else mnTo zs k
def mxTo (zs : List Int) : Nat → Int | 0 => zs.getD 0 0 | k + 1 => if mxTo zs k < zs.getD (k + 1) 0 then zs.getD (k + 1) 0 else mxTo zs k
theorem mnTo_succ (zs : List Int) (k : Nat) : mnTo zs (k + 1) = if zs.getD (k + 1) 0 < mnTo zs k then zs.getD (k + 1) 0 else mnTo zs k := rfl
theorem mxTo_succ (zs : List Int) (k : Nat) : mxTo zs (k + 1) = if mxTo zs k < zs.getD (k + 1) 0 then zs.getD (k + 1) 0 else mxTo zs k := rfl

theorem mini_any (w : World) (B : Nat) (a : Option Addr) (cap : Nat) (zs : List Int) (h0 : 0 < zs.length) (hl : zs.length ≤ 9223372036854775807) (hz : Ints .i64 w B a zs) :
    Calls Tryz.prog 117 #[.slice a zs.length cap] w fun e w' => e = .returned (.int .i64 (mnTo zs (zs.length - 1))) ∧ w = w' := by
  obtain ⟨b, off, rfl, hB, hc⟩ := hz h0
  have hc0 := hc 0 h0
  rw [Nat.add_zero] at hc0
  have HC := Lib.hid hc
  clear hc hz
  obtain ⟨x, hx⟩ : ∃ x, zs.getD 0 0 = x := ⟨_, rfl⟩
  rw [hx] at hc0
  have HX := Lib.hid hx
  clear hx
  have d0 : ¬ ((zs.length : Int) < 1) := by omega
  have d1 : decide ((zs.length : Int) < 1) = false := by simp; omega
  go_enter Tryz.func117, Tryz.ntmps117
  go_wp2
  go_loop [3, 4] (fun m i => ∃ k : Nat, k + 1 ≤ zs.length ∧ i = .int .i64 ((k : Int) + 1) ∧ m = .int .i64 (mnTo zs k)) (fun _ i => zs.length - (intOf i).toNat)
  case atStart => exact ⟨0, by omega, rfl, by unfold mnTo; rw [HX.out]⟩
  case round =>
    obtain ⟨k, hk, rfl, rfl⟩ := hrel
    by_cases hlt : k + 1 < zs.length
    · have hcell := HC.out (k + 1) hlt
      have hs := mnTo_succ zs k
      obtain ⟨y, hy⟩ : ∃ y, zs.getD (k + 1) 0 = y := ⟨_, rfl⟩
      obtain ⟨m, hm⟩ : ∃ m, mnTo zs k = m := ⟨_, rfl⟩
      rw [hy] at hcell hs
      rw [hm] at hs ⊢
      have HS := Lib.hid hs
      clear hs hy hm
      by_cases hym : y < m
      all_goals
        go_wp2
        go_round
        case rel => exact ⟨k + 1, by omega, by go_num, by rw [HS.out]; first | rw [if_pos hym] | rw [if_neg hym]⟩
        case measure => simp [intOf]; omega
    · go_wp2
      go_ret
      exact ⟨ret_int (by rw [show k = zs.length - 1 by omega]), rfl⟩

theorem maxi_any (w : World) (B : Nat) (a : Option Addr) (cap : Nat) (zs : List Int) (h0 : 0 < zs.length) (hl : zs.length ≤ 9223372036854775807) (hz : Ints .i64 w B a zs) :
    Calls Tryz.prog 120 #[.slice a zs.length cap] w fun e w' => e = .returned (.int .i64 (mxTo zs (zs.length - 1))) ∧ w = w' := by
  obtain ⟨b, off, rfl, hB, hc⟩ := hz h0
  have hc0 := hc 0 h0
  rw [Nat.add_zero] at hc0
  have HC := Lib.hid hc
  clear hc hz
  obtain ⟨x, hx⟩ : ∃ x, zs.getD 0 0 = x := ⟨_, rfl⟩
  rw [hx] at hc0
  have HX := Lib.hid hx
  clear hx
  have d0 : ¬ ((zs.length : Int) < 1) := by omega
  have d1 : decide ((zs.length : Int) < 1) = false := by simp; omega
  go_enter Tryz.func120, Tryz.ntmps120
  go_wp2
  go_loop [3, 4] (fun m i => ∃ k : Nat, k + 1 ≤ zs.length ∧ i = .int .i64 ((k : Int) + 1) ∧ m = .int .i64 (mxTo zs k)) (fun _ i => zs.length - (intOf i).toNat)
  case atStart => exact ⟨0, by omega, rfl, by unfold mxTo; rw [HX.out]⟩
  case round =>
    obtain ⟨k, hk, rfl, rfl⟩ := hrel
    by_cases hlt : k + 1 < zs.length
    · have hcell := HC.out (k + 1) hlt
      have hs := mxTo_succ zs k
      obtain ⟨y, hy⟩ : ∃ y, zs.getD (k + 1) 0 = y := ⟨_, rfl⟩
      obtain ⟨m, hm⟩ : ∃ m, mxTo zs k = m := ⟨_, rfl⟩
      rw [hy] at hcell hs
      rw [hm] at hs ⊢
      have HS := Lib.hid hs
      clear hs hy hm
      by_cases hym : m < y
      all_goals
        go_wp2
        go_round
        case rel => exact ⟨k + 1, by omega, by go_num, by rw [HS.out]; first | rw [if_pos hym] | rw [if_neg hym]⟩
        case measure => simp [intOf]; omega
    · go_wp2
      go_ret
      exact ⟨ret_int (by rw [show k = zs.length - 1 by omega]), rfl⟩

/-- an element lies outside of the interval -/
def anyLack (lo hi : Int) (zs : List Int) : Bool := zs.any fun x => !hasB lo hi x
theorem anyLack_t {lo hi : Int} {zs : List Int} {k : Nat} (hk : k < zs.length) (h : hasB lo hi (zs.getD k 0) = false) : anyLack lo hi zs = true := by
  unfold anyLack
  rw [List.any_eq_true]
  rw [List.getD_eq_getElem?_getD, List.getElem?_eq_getElem hk] at h
  exact ⟨zs[k], List.getElem_mem hk, by simpa using h⟩
theorem anyLack_f {lo hi : Int} {zs : List Int} (h : ∀ k, k < zs.length → hasB lo hi (zs.getD k 0) = true) : anyLack lo hi zs = false := by
  unfold anyLack
  rw [List.any_eq_false]
  intro x hx
  obtain ⟨k, hk, rfl⟩ := List.getElem_of_mem hx
  have := h k hk
  rw [List.getD_eq_getElem?_getD, List.getElem?_eq_getElem hk] at this
  simpa using this
/-- what the search for an element outside leaves -/
def IxPost (w : World) (b : Bool) (e : Ending) (w' : World) : Prop := ∃ i : Int, e = .returned (.int .i64 i) ∧ decide (0 ≤ i) = b ∧ Below w.heap.size w w'
theorem ixl_any (w : World) (a : Option Addr) (cap : Nat) (zs : List Int) (lo hi : Int) (hl : zs.length ≤ 9223372036854775807) (hz : Ints .i64 w w.heap.size a zs) :
    Calls Tryz.prog 86 #[.slice a zs.length cap, .func (.func 35) #[.agg #[.int .i64 lo, .int .i64 hi]] #[]] w (IxPost w (anyLack lo hi zs)) := by
  go_enter Tryz.func86, Tryz.ntmps86
  go_wp2
  go_loopw [8] (fun i wr => ∃ k : Nat, k ≤ zs.length ∧ i = .int .i64 k ∧ Below w.heap.size w wr ∧ ∀ j, j < k → hasB lo hi (zs.getD j 0) = true) (fun i _ => zs.length - (intOf i).toNat)
  case atStart => exact ⟨0, by omega, rfl, Below.refl _ _, fun j hj => by omega⟩
  case round =>
    obtain ⟨k, hk, rfl, hb, hr⟩ := hrel
    have HR := Lib.hid hr
    clear hr
    by_cases hlt : k < zs.length
    · obtain ⟨b, off, rfl, hB, hc⟩ := hz.at_ hlt
      have hc1 := (hb.cell (p := ⟨b, off + k, none⟩) hB).trans hc
      have HB := Lib.hid hb
      clear hb hc
      obtain ⟨x, hx⟩ : ∃ x, zs.getD k 0 = x := ⟨_, rfl⟩
      rw [hx] at hc1
      have HX := Lib.hid hx
      clear hx
      cases hh : hasB lo hi x
      · go_wp2_with (go_at_call 35; refine (lacks_any _ _ _ _).mono ?_; rw [hh]; rintro e w' ⟨rfl, rfl⟩)
        go_ret
        exact ⟨(k : Int), rfl, by rw [anyLack_t hlt (by rw [HX.out]; exact hh)]; simp, bel_end HB.out (by repeat (first | exact Below.refl _ _ | (refine Below.alloc ?_ (by simp <;> omega) _) | (refine Below.setCell ?_ (by simp <;> omega) _) | (refine Below.drew ?_) | (refine bel_drewN ?_ _)))⟩
      · go_wp2_with (go_at_call 35; refine (lacks_any _ _ _ _).mono ?_; rw [hh]; rintro e w' ⟨rfl, rfl⟩)
        go_roundw
        case rel => exact ⟨k + 1, by omega, by go_num, bel_end HB.out (by repeat (first | exact Below.refl _ _ | (refine Below.alloc ?_ (by simp <;> omega) _) | (refine Below.setCell ?_ (by simp <;> omega) _) | (refine Below.drew ?_) | (refine bel_drewN ?_ _))), fun j hj => by
          by_cases hjk : j < k
          · exact HR.out j hjk
          · obtain rfl : j = k := by omega
            rw [HX.out]; exact hh⟩
        case measure => simp [intOf]; omega
    · go_wp2
      go_ret
      exact ⟨-1, rfl, by rw [anyLack_f (fun j hj => HR.out j (by omega))]; rfl, hb⟩
theorem cfl_any (w : World) (a : Option Addr) (cap : Nat) (zs : List Int) (lo hi : Int) (hl : zs.length ≤ 9223372036854775807) (hz : Ints .i64 w w.heap.size a zs) :
    Calls Tryz.prog 79 #[.slice a zs.length cap, .func (.func 35) #[.agg #[.int .i64 lo, .int .i64 hi]] #[]] w fun e w' => e = .returned (.bool (anyLack lo hi zs)) ∧ Below w.heap.size w w' := by
  go_enter Tryz.func79, Tryz.ntmps79
  go_wp2_with fail
  refine (ixl_any _ _ _ zs lo hi hl hz).mono ?_
  rintro e w' ⟨i, rfl, hi, hb⟩
  have HI := Lib.hid hi
  have HB := Lib.hid hb
  clear hi hb
  go_wp2
  go_ret
  exact ⟨ret_bool HI.out, HB.out⟩
open Go.ChangeShapes Go.WideShapes Go.ChangeAt Go.RowKit Num
set_option linter.unusedVariables false
/-- depths and speeds in the memory -/
structure Prof (w : World) (B : Nat) (a b : Option Addr) (zs ys : List Int) : Prop where
  dz : Ints .i64 w B a zs
  sy : Ints .i64 w B b ys
  lz : zs.length ≤ 1048576
  ly : ys.length ≤ 1048576
theorem Prof.below {w w' : World} {B : Nat} {a b : Option Addr} {zs ys : List Int} (h : Prof w B a b zs ys) (hb : Below B w w') : Prof w' B a b zs ys := ⟨h.dz.below hb, h.sy.below hb, h.lz, h.ly⟩
theorem Prof.more {w : World} {B B' : Nat} {a b : Option Addr} {zs ys : List Int} (h : Prof w B a b zs ys) (hb : B ≤ B') : Prof w B' a b zs ys := ⟨h.dz.more hb, h.sy.more hb, h.lz, h.ly⟩
/-- behind a call that leaves all old blocks alone -/
theorem Prof.on {w w' : World} {a b : Option Addr} {zs ys : List Int} (h : Prof w w.heap.size a b zs ys) (hb : Below w.heap.size w w') : Prof w' w'.heap.size a b zs ys := (h.below hb).more hb.size
/-- a cell, a mark, behind a call that leaves all old blocks alone -/
theorem kc1 {W w2 : World} {m o : Nat} {v0 : Value} (c0 : W.cell? ⟨m, o, none⟩ = some v0) (h : Below W.heap.size W w2) : w2.cell? ⟨m, o, none⟩ = some v0 := (h.cell (p := ⟨m, o, none⟩) (World.block_lt_of_cell? W _ c0)).trans c0
/-- valid depths and speeds -/
def prfP (zs ys : List Int) : Prop := 2 ≤ zs.length ∧ zs.length ≤ 12 ∧ ys.length = zs.length ∧ risB zs 1000001 = true ∧ zs.getD 0 0 = 0 ∧ anyLack 1300000 1700000 ys = false
instance (zs ys : List Int) : Decidable (prfP zs ys) := by unfold prfP; infer_instance
def prfB (zs ys : List Int) : Bool := decide (prfP zs ys)
theorem prfB_t {zs ys : List Int} (h : prfP zs ys) : prfB zs ys = true := by unfold prfB; exact decide_eq_true h
theorem prfB_f {zs ys : List Int} (h : ¬ prfP zs ys) : prfB zs ys = false := by unfold prfB; exact decide_eq_false h
theorem prfB_p {zs ys : List Int} (h : prfB zs ys = true) : prfP zs ys := by unfold prfB at h; exact of_decide_eq_true h
theorem anyLack_at {lo hi : Int} {zs : List Int} (h : anyLack lo hi zs = false) {k : Nat} (hk : k < zs.length) : lo ≤ zs.getD k 0 ∧ zs.getD k 0 ≤ hi := by
  cases hh : hasB lo hi (zs.getD k 0)
  · rw [anyLack_t hk hh] at h; cases h
  · unfold hasB at hh
    simp only [Bool.and_eq_true, decide_eq_true_eq] at hh
    exact hh
/-- what is known of a valid profile -/
structure Okp (zs ys : List Int) : Prop where
  n2 : 2 ≤ zs.length
  n12 : zs.length ≤ 12
  len : ys.length = zs.length
  lo : ∀ j, 0 ≤ zs.getD j 0
  hi : ∀ j, zs.getD j 0 ≤ 1000000
  step : ∀ j, j + 1 < zs.length → zs.getD j 0 < zs.getD (j + 1) 0
  zero : zs.getD 0 0 = 0
  slo : ∀ j, j < zs.length → 1300000 ≤ ys.getD j 0
  shi : ∀ j, ys.getD j 0 ≤ 1700000
  sge : ∀ j, 0 ≤ ys.getD j 0
theorem getD_out {zs : List Int} {j : Nat} (h : zs.length ≤ j) : zs.getD j 0 = 0 := by
  rw [List.getD_eq_getElem?_getD, List.getElem?_eq_none h]; rfl
theorem Okp.of {zs ys : List Int} (h : prfB zs ys = true) : Okp zs ys := by
  obtain ⟨h1, h2, h3, h4, h5, h6⟩ := prfB_p h
  have hr : ∀ i, i < zs.length → risP zs 1000001 i := by unfold risB at h4; exact of_decide_eq_true h4
  refine ⟨h1, h2, h3, fun j => ?_, fun j => ?_, fun j hj => ?_, h5, fun j hj => (anyLack_at h6 (by omega)).1, fun j => ?_, fun j => ?_⟩
  · rcases Nat.lt_or_ge j zs.length with hj | hj
    · exact (hr j hj).1
    · rw [getD_out hj]; omega
  · rcases Nat.lt_or_ge j zs.length with hj | hj
    · have := (hr j hj).2.1; omega
    · rw [getD_out hj]; omega
  · have := (hr (j + 1) hj).2.2 (by omega); rwa [Nat.add_sub_cancel] at this
  · rcases Nat.lt_or_ge j ys.length with hj | hj
    · exact (anyLack_at h6 hj).2
    · rw [getD_out hj]; omega
  · rcases Nat.lt_or_ge j ys.length with hj | hj
    · have := (anyLack_at h6 hj).1; omega
    · rw [getD_out hj]; omega
theorem Okp.mono {zs ys : List Int} (h : Okp zs ys) {i : Nat} : ∀ j, i < j → j < zs.length → zs.getD i 0 < zs.getD j 0
  | 0, hi, _ => by omega
  | j + 1, hi, hj => by
    have hs := h.step j hj
    rcases Nat.lt_or_ge i j with hlt | hge
    · have := Okp.mono h j hlt (by omega); omega
    · obtain rfl : i = j := by omega
      exact hs

theorem inB_hasB (x lo hi : Int) : inB x lo hi = hasB lo hi x := by
  unfold inB hasB
  rw [Bool.eq_iff_iff]
  simp

theorem lwi_any (w : World) (a : Option Addr) (cap : Nat) (zs : List Int) (m lo hi : Int) (hl : zs.length ≤ 1048576) (hz : Ints .i64 w w.heap.size a zs) :
    Calls Tryz.prog 64 #[.slice a zs.length cap, .int .i64 m, .int .i64 lo, .int .i64 hi] w fun e w' => e = .returned (.bool (!anyLack lo hi zs && decide ((zs.length : Int) ≤ m))) ∧ w = w' := by
  go_enter Tryz.func64, Tryz.ntmps64
  go_wp2
  go_loop [9] (fun i => ∃ k : Nat, k ≤ zs.length ∧ i = .int .i64 k ∧ ∀ j, j < k → hasB lo hi (zs.getD j 0) = true) (fun i => zs.length - (intOf i).toNat)
  case atStart => exact ⟨0, by omega, rfl, fun j hj => by omega⟩
  case round =>
    obtain ⟨k, hk, rfl, hr⟩ := hrel
    have HR := Lib.hid hr
    clear hr
    by_cases hlt : k < zs.length
    · obtain ⟨b, off, rfl, hB, hc⟩ := hz.at_ hlt
      obtain ⟨x, hx⟩ : ∃ x, zs.getD k 0 = x := ⟨_, rfl⟩
      rw [hx] at hc
      have HX := Lib.hid hx
      clear hx
      cases hh : hasB lo hi x
      · go_wp2_with (go_at_call 44; refine (lin_any _ _ _ _).mono ?_; rw [show inB x lo hi = false from hh ▸ inB_hasB x lo hi]; rintro e w' ⟨rfl, rfl⟩)
        go_ret
        exact ⟨ret_bool (by rw [anyLack_t hlt (by rw [HX.out]; exact hh)]; rfl), rfl⟩
      · go_wp2_with (go_at_call 44; refine (lin_any _ _ _ _).mono ?_; rw [show inB x lo hi = true from hh ▸ inB_hasB x lo hi]; rintro e w' ⟨rfl, rfl⟩)
        go_round
        case rel => exact ⟨k + 1, by omega, by go_num, fun j hj => by
          by_cases hjk : j < k
          · exact HR.out j hjk
          · obtain rfl : j = k := by omega
            rw [HX.out]; exact hh⟩
        case measure => simp [intOf]; omega
    · go_wp2
      go_ret
      exact ⟨ret_bool (by rw [anyLack_f (fun j hj => HR.out j (by omega))]; rfl), rfl⟩

set_option maxHeartbeats 1000000 in
theorem ipr_any (w : World) (a b : Option Addr) (c d : Nat) (zs ys : List Int) (hp : Prof w w.heap.size a b zs ys) :
    Calls Tryz.prog 70 #[.agg #[.slice a zs.length c, .slice b ys.length d]] w fun e w' => e = .returned (.bool (prfB zs ys)) ∧ Below w.heap.size w w' := by
  have lz := hp.lz
  have ly := hp.ly
  have HP := Lib.hid hp
  clear hp
  by_cases h1 : zs.length < 2
  · have H : Hid (prfB zs ys = false) := Lib.hid (prfB_f (fun h => by have := h.1; omega))
    go_enter Tryz.func70, Tryz.ntmps70
    go_wp2
    go_ret
    exact ⟨ret_bool H.out.symm, (by repeat (first | exact Below.refl _ _ | (refine Below.alloc ?_ (by simp <;> omega) _) | (refine Below.setCell ?_ (by simp <;> omega) _) | (refine Below.drew ?_) | (refine bel_drewN ?_ _)))⟩
  by_cases h2 : 12 < zs.length
  · have H : Hid (prfB zs ys = false) := Lib.hid (prfB_f (fun h => by have := h.2.1; omega))
    go_enter Tryz.func70, Tryz.ntmps70
    go_wp2
    go_ret
    exact ⟨ret_bool H.out.symm, (by repeat (first | exact Below.refl _ _ | (refine Below.alloc ?_ (by simp <;> omega) _) | (refine Below.setCell ?_ (by simp <;> omega) _) | (refine Below.drew ?_) | (refine bel_drewN ?_ _)))⟩
  by_cases h3 : ys.length = zs.length
  case neg =>
    have H : Hid (prfB zs ys = false) := Lib.hid (prfB_f (fun h => h3 h.2.2.1))
    have hne : ((ys.length : Int) != (zs.length : Int)) = true := by simp; omega
    clear h3
    go_enter Tryz.func70, Tryz.ntmps70
    go_wp2
    go_ret
    exact ⟨ret_bool H.out.symm, (by repeat (first | exact Below.refl _ _ | (refine Below.alloc ?_ (by simp <;> omega) _) | (refine Below.setCell ?_ (by simp <;> omega) _) | (refine Below.drew ?_) | (refine bel_drewN ?_ _)))⟩
  have hne : ((ys.length : Int) != (zs.length : Int)) = false := by simp; omega
  have H3 := Lib.hid h3
  clear h3
  have n2 : 0 < zs.length := by omega
  obtain ⟨b0, off, rfl, hB, hc⟩ := HP.out.dz.at_ n2
  rw [Nat.add_zero] at hc
  obtain ⟨x, hx⟩ : ∃ x, zs.getD 0 0 = x := ⟨_, rfl⟩
  rw [hx] at hc
  have HX := Lib.hid hx
  have HP1 : Hid (Prof (w.alloc (.cells #[.slice (some ⟨b0, off, none⟩) zs.length c, .slice b ys.length d] 26)) (w.alloc (.cells #[.slice (some ⟨b0, off, none⟩) zs.length c, .slice b ys.length d] 26)).heap.size (some ⟨b0, off, none⟩) b zs ys) := Lib.hid (HP.out.on (by repeat (first | exact Below.refl _ _ | (refine Below.alloc ?_ (by simp <;> omega) _) | (refine Below.setCell ?_ (by simp <;> omega) _) | (refine Below.drew ?_) | (refine bel_drewN ?_ _))))
  clear hx
  cases h4 : risB zs 1000001
  · have H : Hid (prfB zs ys = false) := Lib.hid (prfB_f (fun h => by rw [h.2.2.2.1] at h4; cases h4))
    have H4 := Lib.hid h4
    clear h4
    go_enter Tryz.func70, Tryz.ntmps70
    go_wp2_with (go_at_call 78; refine (iir_any _ _ _ _ zs _ (by omega) HP1.out.dz).mono ?_; rw [H4.out]; rintro e w' ⟨rfl, rfl⟩)
    go_ret
    exact ⟨ret_bool H.out.symm, (by repeat (first | exact Below.refl _ _ | (refine Below.alloc ?_ (by simp <;> omega) _) | (refine Below.setCell ?_ (by simp <;> omega) _) | (refine Below.drew ?_) | (refine bel_drewN ?_ _)))⟩
  have H4 := Lib.hid h4
  clear h4
  by_cases h5 : x = 0
  case neg =>
    have H : Hid (prfB zs ys = false) := Lib.hid (prfB_f (fun h => h5 (HX.out.symm.trans h.2.2.2.2.1)))
    have hx0 : (x != 0) = true := by simpa using h5
    clear h5
    go_enter Tryz.func70, Tryz.ntmps70
    go_wp2_with (go_at_call 78; refine (iir_any _ _ _ _ zs _ (by omega) HP1.out.dz).mono ?_; rw [H4.out]; rintro e w' ⟨rfl, rfl⟩)
    go_ret
    exact ⟨ret_bool H.out.symm, (by repeat (first | exact Below.refl _ _ | (refine Below.alloc ?_ (by simp <;> omega) _) | (refine Below.setCell ?_ (by simp <;> omega) _) | (refine Below.drew ?_) | (refine bel_drewN ?_ _)))⟩
  subst h5
  have HE : Hid ((!anyLack 1300000 1700000 ys) = prfB zs ys) := Lib.hid (by
    cases h6 : anyLack 1300000 1700000 ys
    · exact (prfB_t ⟨by omega, by omega, H3.out, H4.out, HX.out, h6⟩).symm
    · exact (prfB_f (fun h => by rw [h.2.2.2.2.2] at h6; cases h6)).symm)
  go_enter Tryz.func70, Tryz.ntmps70
  go_wp2_with (first | (go_at_call 78; refine (iir_any _ _ _ _ zs _ (by omega) HP1.out.dz).mono ?_; rw [H4.out]; rintro e w' ⟨rfl, rfl⟩) | (go_at_call 79; refine (cfl_any _ _ _ ys _ _ (by omega) ((HP1.out.on (by repeat (first | exact Below.refl _ _ | (refine Below.alloc ?_ (by simp <;> omega) _) | (refine Below.setCell ?_ (by simp <;> omega) _) | (refine Below.drew ?_) | (refine bel_drewN ?_ _)))).sy)).mono ?_; rintro e w' ⟨rfl, hb⟩))
  go_ret
  exact ⟨ret_bool HE.out, bel_end (by repeat (first | exact Below.refl _ _ | (refine Below.alloc ?_ (by simp <;> omega) _) | (refine Below.setCell ?_ (by simp <;> omega) _) | (refine Below.drew ?_) | (refine bel_drewN ?_ _))) hb⟩

set_option maxHeartbeats 1000000 in
theorem spr_any (w : World) (a b : Option Addr) (c d : Nat) (zs ys : List Int) (hp : Prof w w.heap.size a b zs ys) :
    Calls Tryz.prog 42 #[.agg #[.slice a zs.length c, .slice b ys.length d]] w fun e w' => e = .returned (.bool (prfB zs ys)) ∧ Below w.heap.size w w' := by
  have lz := hp.lz
  have ly := hp.ly
  have HP := Lib.hid hp
  clear hp
  by_cases h1 : zs.length < 2
  · have H : Hid (prfB zs ys = false) := Lib.hid (prfB_f (fun h => by have := h.1; omega))
    go_enter Tryz.func42, Tryz.ntmps42
    go_wp2
    go_ret
    exact ⟨ret_bool H.out.symm, (by repeat (first | exact Below.refl _ _ | (refine Below.alloc ?_ (by simp <;> omega) _) | (refine Below.setCell ?_ (by simp <;> omega) _) | (refine Below.drew ?_) | (refine bel_drewN ?_ _)))⟩
  by_cases h2 : 12 < zs.length
  · have H : Hid (prfB zs ys = false) := Lib.hid (prfB_f (fun h => by have := h.2.1; omega))
    go_enter Tryz.func42, Tryz.ntmps42
    go_wp2
    go_ret
    exact ⟨ret_bool H.out.symm, (by repeat (first | exact Below.refl _ _ | (refine Below.alloc ?_ (by simp <;> omega) _) | (refine Below.setCell ?_ (by simp <;> omega) _) | (refine Below.drew ?_) | (refine bel_drewN ?_ _)))⟩
  by_cases h3 : ys.length = zs.length
  case neg =>
    have H : Hid (prfB zs ys = false) := Lib.hid (prfB_f (fun h => h3 h.2.2.1))
    have hne : ((ys.length : Int) != (zs.length : Int)) = true := by simp; omega
    clear h3
    go_enter Tryz.func42, Tryz.ntmps42
    go_wp2
    go_ret
    exact ⟨ret_bool H.out.symm, (by repeat (first | exact Below.refl _ _ | (refine Below.alloc ?_ (by simp <;> omega) _) | (refine Below.setCell ?_ (by simp <;> omega) _) | (refine Below.drew ?_) | (refine bel_drewN ?_ _)))⟩
  have hne : ((ys.length : Int) != (zs.length : Int)) = false := by simp; omega
  have H3 := Lib.hid h3
  clear h3
  have n2 : 0 < zs.length := by omega
  obtain ⟨b0, off, rfl, hB, hc⟩ := HP.out.dz.at_ n2
  rw [Nat.add_zero] at hc
  obtain ⟨x, hx⟩ : ∃ x, zs.getD 0 0 = x := ⟨_, rfl⟩
  rw [hx] at hc
  have HX := Lib.hid hx
  have HP1 : Hid (Prof (w.alloc (.cells #[.slice (some ⟨b0, off, none⟩) zs.length c, .slice b ys.length d] 26)) (w.alloc (.cells #[.slice (some ⟨b0, off, none⟩) zs.length c, .slice b ys.length d] 26)).heap.size (some ⟨b0, off, none⟩) b zs ys) := Lib.hid (HP.out.on (by repeat (first | exact Below.refl _ _ | (refine Below.alloc ?_ (by simp <;> omega) _) | (refine Below.setCell ?_ (by simp <;> omega) _) | (refine Below.drew ?_) | (refine bel_drewN ?_ _))))
  clear hx
  cases h4 : risB zs 1000001
  · have H : Hid (prfB zs ys = false) := Lib.hid (prfB_f (fun h => by rw [h.2.2.2.1] at h4; cases h4))
    have H4 := Lib.hid h4
    clear h4
    go_enter Tryz.func42, Tryz.ntmps42
    go_wp2_with (go_at_call 63; refine (lri_any _ _ _ _ zs _ (by omega) HP1.out.dz).mono ?_; rw [H4.out]; rintro e w' ⟨rfl, nd, rfl⟩)
    go_ret
    exact ⟨ret_bool H.out.symm, (by repeat (first | exact Below.refl _ _ | (refine Below.alloc ?_ (by simp <;> omega) _) | (refine Below.setCell ?_ (by simp <;> omega) _) | (refine Below.drew ?_) | (refine bel_drewN ?_ _)))⟩
  have H4 := Lib.hid h4
  clear h4
  by_cases h5 : x = 0
  case neg =>
    have H : Hid (prfB zs ys = false) := Lib.hid (prfB_f (fun h => h5 (HX.out.symm.trans h.2.2.2.2.1)))
    have hx0 : (x != 0) = true := by simpa using h5
    clear h5
    go_enter Tryz.func42, Tryz.ntmps42
    go_wp2_with (go_at_call 63; refine (lri_any _ _ _ _ zs _ (by omega) HP1.out.dz).mono ?_; rw [H4.out]; rintro e w' ⟨rfl, nd, rfl⟩)
    go_ret
    exact ⟨ret_bool H.out.symm, (by repeat (first | exact Below.refl _ _ | (refine Below.alloc ?_ (by simp <;> omega) _) | (refine Below.setCell ?_ (by simp <;> omega) _) | (refine Below.drew ?_) | (refine bel_drewN ?_ _)))⟩
  subst h5
  have HE : Hid ((!anyLack 1300000 1700000 ys && decide ((ys.length : Int) ≤ 12)) = prfB zs ys) := Lib.hid (by
    have e12 : decide ((ys.length : Int) ≤ 12) = true := by rw [H3.out]; simp; omega
    rw [e12, Bool.and_true]
    cases h6 : anyLack 1300000 1700000 ys
    · exact (prfB_t ⟨by omega, by omega, H3.out, H4.out, HX.out, h6⟩).symm
    · exact (prfB_f (fun h => by rw [h.2.2.2.2.2] at h6; cases h6)).symm)
  go_enter Tryz.func42, Tryz.ntmps42
  go_wp2_with (first | (go_at_call 63; refine (lri_any _ _ _ _ zs _ (by omega) HP1.out.dz).mono ?_; rw [H4.out]; rintro e w' ⟨rfl, nd, rfl⟩) | (go_at_call 64; refine (lwi_any _ _ _ ys _ _ _ (by omega) ((HP1.out.on (bel_drewN (Below.refl _ _) nd)).sy)).mono ?_; rintro e w' ⟨rfl, rfl⟩))
  go_ret
  exact ⟨ret_bool HE.out, (by repeat (first | exact Below.refl _ _ | (refine Below.alloc ?_ (by simp <;> omega) _) | (refine Below.setCell ?_ (by simp <;> omega) _) | (refine Below.drew ?_) | (refine bel_drewN ?_ _)))⟩
open Go.ChangeShapes Go.WideShapes Go.ChangeAt Go.RowKit Go.Shelf Num
set_option linter.unusedVariables false
attribute [local go_sem] Oper.semAt_some

set_option maxRecDepth 100000 in
theorem kat_any (w : World) (a b : Option Addr) (c d : Nat) (zs ys : List Int) (k : Nat) (hp : Prof w w.heap.size a b zs ys) (hl : ys.length = zs.length) (hk : k < zs.length) :
    Calls Tryz.prog 92 #[.agg #[.slice a zs.length c, .slice b ys.length d], .int .i64 (k : Int)] w fun e w' => e = .returned (.agg #[.int .i64 (zs.getD k 0), .int .i64 (ys.getD k 0)]) ∧ Below w.heap.size w w' := by
  obtain ⟨b1, o1, rfl, hB1, h1⟩ := hp.dz.at_ hk
  obtain ⟨b2, o2, rfl, hB2, h2⟩ := hp.sy.at_ (show k < ys.length by omega)
  have lz := hp.lz
  have hk2 : k < ys.length := by omega
  clear hl
  clear hp
  obtain ⟨x, hx⟩ : ∃ x, zs.getD k 0 = x := ⟨_, rfl⟩
  obtain ⟨y, hy⟩ : ∃ y, ys.getD k 0 = y := ⟨_, rfl⟩
  rw [hx] at h1 ⊢
  rw [hy] at h2 ⊢
  clear hx hy
  go_enter Tryz.func92, Tryz.ntmps92
  go_wp2_with fail
  obtain ⟨W, hW⟩ : ∃ W, W = (w.alloc (.cells #[.slice (some ⟨b1, o1, none⟩) zs.length c, .slice (some ⟨b2, o2, none⟩) ys.length d] 26)).alloc (.cells #[.int .i64 0, .int .i64 0] 146) := ⟨_, rfl⟩
  have p0 : W.cell? ⟨w.heap.size, 0, none⟩ = some (.slice (some ⟨b1, o1, none⟩) zs.length c) := by rw [hW]; simp [go_sem]
  have p1 : W.cell? ⟨w.heap.size, 1, none⟩ = some (.slice (some ⟨b2, o2, none⟩) ys.length d) := by rw [hW]; simp [go_sem]
  have r0 : W.cell? ⟨w.heap.size + 1, 0, none⟩ = some (.int .i64 0) := by rw [hW]; simp [go_sem]
  have r1 : W.cell? ⟨w.heap.size + 1, 1, none⟩ = some (.int .i64 0) := by rw [hW]; simp [go_sem]
  have f0 : W.frozen? ⟨w.heap.size + 1, 0, none⟩ = false := by rw [hW]; simp [go_sem]
  have f1 : W.frozen? ⟨w.heap.size + 1, 1, none⟩ = false := by rw [hW]; simp [go_sem]
  have HB : Hid (Below w.heap.size w W) := Lib.hid (by rw [hW]; exact (by repeat (first | exact Below.refl _ _ | (refine Below.alloc ?_ (by simp <;> omega) _) | (refine Below.setCell ?_ (by simp <;> omega) _) | (refine Below.drew ?_) | (refine bel_drewN ?_ _))))
  replace h1 := kc1 h1 HB.out
  replace h2 := kc1 h2 HB.out
  rw [← hW]
  clear hW
  go_still_tail 11, (by kernel_rfl)
  go_wp2
  exact bodyPost_ret (v := .agg #[.int .i64 x, .int .i64 y]) (by simp [results, Tryz.results92, go_sem, r0, r1]) rfl ⟨rfl, (HB.out.drew.setCell (by simp) _).setCell (by simp) _⟩

/-- a block of cells, whole -/
def Bk (W : World) (B : Nat) (cs : Array Value) (t : TypeId) : Prop := W.heap[B]? = some (.cells cs t (0, 0))
theorem Bk.lt {W : World} {B : Nat} {cs : Array Value} {t : TypeId} (h : Bk W B cs t) : B < W.heap.size := (Array.getElem?_eq_some_iff.1 h).1
theorem Bk.cell {W : World} {B : Nat} {cs : Array Value} {t : TypeId} (h : Bk W B cs t) (i : Nat) {v : Value} (e : cs[i]? = some v) : W.cell? ⟨B, i, none⟩ = some v := by simp [World.cell?, show W.heap[B]? = _ from h, e]
theorem Bk.frozen {W : World} {B : Nat} {cs : Array Value} {t : TypeId} (h : Bk W B cs t) (i : Nat) : W.frozen? ⟨B, i, none⟩ = false := by simp [World.frozen?, show W.heap[B]? = _ from h]
theorem Bk.new (W : World) (cs : Array Value) (t : TypeId) : Bk (W.alloc (.cells cs t)) W.heap.size cs t := World.alloc_heap_new W _
theorem Bk.new' {W : World} {n : Nat} {cs : Array Value} {t : TypeId} (hn : n = W.heap.size) : Bk (W.alloc (.cells cs t)) n cs t := by subst hn; exact Bk.new W cs t
theorem Bk.kept {W W' : World} {row : Option Nat} {B : Nat} {cs : Array Value} {t : TypeId} (h : Bk W B cs t) (hg : W.grownBy W' row) (hne : some B ≠ row) : Bk W' B cs t := (hg.block B h.lt hne).trans h
theorem Bk.alloc {W : World} {B : Nat} {cs : Array Value} {t : TypeId} (h : Bk W B cs t) (o : Obj) : Bk (W.alloc o) B cs t := h.kept (World.grownBy_alloc W o none) (by simp)
theorem Bk.on {W W' : World} {B : Nat} {cs : Array Value} {t : TypeId} (h : Bk W B cs t) (hb : Below W.heap.size W W') : Bk W' B cs t := (hb.block B h.lt).trans h
theorem Bk.set {W : World} {B : Nat} {cs cs' : Array Value} {t : TypeId} (h : Bk W B cs t) (i : Nat) (v : Value) (e : cs.setIfInBounds i v = cs') : Bk (W.setCell ⟨B, i, none⟩ v) B cs' t := by
  subst e; exact heap_setCell_same W B i _ _ _ h
theorem Bk.other {W : World} {B B' : Nat} {cs : Array Value} {t : TypeId} (h : Bk W B cs t) (hne : B ≠ B') (i : Nat) (u : Value) : Bk (W.setCell ⟨B', i, none⟩ u) B cs t := (Below.heap_setCell W ⟨B', i, none⟩ u B hne).trans h
theorem Bk.drew {W : World} {B : Nat} {cs : Array Value} {t : TypeId} (h : Bk W B cs t) : Bk W.drew B cs t := h
theorem Bk.own {β : Type} (B : Nat) (f : β → Array Value) (t : TypeId) : Own (fun (s : β) W => Bk W B (f s) t) := fun s X Y row hs hg hrow =>
  hs.kept hg (fun e' => by obtain ⟨o, ho, hc⟩ := hrow B e'.symm; rw [show X.heap[B]? = _ from hs] at ho; cases ho; cases hc)
theorem grown_none {w w' : World} (h : Below w.heap.size w w') : w.grownBy w' none := ⟨h.os, h.tape, h.output, h.size, fun k hk _ => h.block k hk⟩

open Go.ChangeShapes Go.WideShapes Go.ChangeAt Go.RowKit Go.Shelf
set_option linter.unusedVariables false
def iv4 (n : Int) : Value := .int .i64 n
theorem own_bel {w w' : World} {B k n : Nat} {e : TypeId} {v : Value} {xs : List Value} (h : w.ownsRow B e k v n xs) (hb : Below w.heap.size w w') : w'.ownsRow B e k v n xs := h.kept (grown_none hb) (by
  cases hv : v.ownBlock with
  | none => exact Or.inl rfl
  | some x => exact Or.inr (by simp))
theorem own_caps {w : World} {B n c : Nat} {a : Option Addr} {e : TypeId} {xs : List Value} (h : w.ownsRow B e 1 (.slice a n c) n xs) : n ≤ c := by
  rcases h.2 with ⟨h', h0⟩ | ⟨g, cap, cur, h', _, _, hle, _⟩
  · omega
  · simp only [Value.slice.injEq] at h'; omega
theorem own_ints {w : World} {B c : Nat} {a : Option Addr} {L : List Int} (h : w.ownsRow B 2 1 (.slice a L.length c) L.length (L.map iv4)) : Ints .i64 w w.heap.size a L := fun hp => by
  rcases h.2 with ⟨h', h0⟩ | ⟨g, cap, cur, h', hb, hg, hle, _⟩
  · omega
  · simp only [Value.slice.injEq] at h'
    obtain ⟨rfl, -, rfl⟩ := h'
    refine ⟨g, 0, rfl, (h.lt g (by simp [Value.ownBlock])).2, fun j hj => ?_⟩
    rw [Nat.zero_add, h.cellAt j (by omega), List.getElem?_map, List.getElem?_eq_getElem hj, List.getD_eq_getElem?_getD, List.getElem?_eq_getElem hj]
    rfl
open Go.ChangeShapes Go.WideShapes Go.ChangeAt Go.RowKit Go.Shelf Num
set_option linter.unusedVariables false
theorem Prof.drew {w : World} {B : Nat} {a b : Option Addr} {zs ys : List Int} (h : Prof w B a b zs ys) : Prof w.drew B a b zs ys := ⟨h.dz, h.sy, h.lz, h.ly⟩
end Go.Proofs.YtgecbfbmmbfnmaaGreat
