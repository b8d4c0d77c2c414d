/- Contracts of IsRising, the program's and the model's. Contracts of slices.Min and slices.Max at a list of integers that is not empty, and of slices.ContainsFunc at the method value 'lacks' of an interval. Profiles: two slices of numbers, depths and speeds, in the memory; when a profile is valid; contracts of IsProfile, the program's and the model's. The knots of a profile, produced by a function that is ranged over: contracts of a knot, of the maker, and of the iterator. Rows of numbers of one's own: kept over calls, read. Contracts of the laws' own helpers on profiles: their size, their copy in new memory, their comparison. -/
import Derived.Test.YtkjpjhklnaehbabBas
import Derived.LoopTactic
import Derived.Deep.QuietTactic
import Derived.BigQuiet
import Derived.Outline
import Derived.RangeFuncNested
import Derived.RangeFuncBound
import Derived.RangeFuncCalls
import Derived.RangeFuncLeaves
import Derived.Shelf.Abstract
import Derived.Shelf.RegionOpen
import Derived.OwnWalkIn
import Derived.TacticsInMore
import Derived.LoopNIn
import Derived.LoopIn
import Derived.StillTailTactics
import Derived.OwnWalk
import Derived.Laws.OwnMore
namespace Go.Proofs.Ytkjpjhklnaehbab
open Go.ChangeShapes Go.WideShapes Go.ChangeAt Go.RowKit Num
set_option linter.unusedVariables false
/-- strictly increasing, all elements from 0 to n - 1 -/
def risP (zs : List Int) (n : Int) (i : Nat) : Prop := 0 ≤ zs.getD i 0 ∧ zs.getD i 0 < n ∧ (0 < i → zs.getD (i - 1) 0 < zs.getD i 0)
instance (zs : List Int) (n : Int) (i : Nat) : Decidable (risP zs n i) := by unfold risP; infer_instance
def risB (zs : List Int) (n : Int) : Bool := decide (∀ i, i < zs.length → risP zs n i)
theorem risB_t {zs : List Int} {n : Int} (h : ∀ i, i < zs.length → risP zs n i) : risB zs n = true := by unfold risB; exact decide_eq_true h
theorem risB_f {zs : List Int} {n : Int} {k : Nat} (hk : k < zs.length) (h : ¬ risP zs n k) : risB zs n = false := by
  unfold risB; exact decide_eq_false (fun g => h (g k hk))

theorem iir_any (w : World) (B : Nat) (a : Option Addr) (cap : Nat) (zs : List Int) (n : Int) (hl : zs.length ≤ 9223372036854775807) (hz : Ints .i64 w B a zs) :
    Calls Try.prog 85 #[.slice a zs.length cap, .int .i64 n] w fun e w' => e = .returned (.bool (risB zs n)) ∧ w = w' := by
  go_enter Try.func85, Try.ntmps85
  go_wp2
  go_loop [9] (fun i => ∃ k : Nat, k ≤ zs.length ∧ i = .int .i64 k ∧ ∀ j, j < k → risP zs n j) (fun i => zs.length - (intOf i).toNat)
  case atStart => exact ⟨0, by omega, rfl, fun j hj => by omega⟩
  case round =>
    obtain ⟨k, hk, rfl, hr⟩ := hrel
    have HR := Lib.hid hr
    clear hr
    by_cases hlt : k < zs.length
    · obtain ⟨b, off, rfl, hB, hc⟩ := hz.at_ hlt
      have HZ := Lib.hid hz
      clear hz
      obtain ⟨x, hx⟩ : ∃ x, zs.getD k 0 = x := ⟨_, rfl⟩
      rw [hx] at hc
      have HX := Lib.hid hx
      clear hx
      by_cases h1 : x < 0
      · go_wp2
        go_ret
        exact ⟨ret_bool (risB_f hlt (fun h => by have := h.1; rw [HX.out] at this; omega)).symm, rfl⟩
      · by_cases h2 : n ≤ x
        · go_wp2
          go_ret
          exact ⟨ret_bool (risB_f hlt (fun h => by have := h.2.1; rw [HX.out] at this; omega)).symm, rfl⟩
        · cases k with
          | zero =>
            rw [Nat.add_zero] at hc
            go_wp2
            go_round
            case rel => exact ⟨1, by omega, rfl, fun j hj => by obtain rfl : j = 0 := by omega
                                                                exact ⟨by rw [HX.out]; omega, by rw [HX.out]; omega, by omega⟩⟩
            case measure => simp [intOf]; omega
          | succ m =>
            obtain ⟨b', off', he, _, hc2⟩ := HZ.out.at_ (j := m) (by omega)
            simp only [Option.some.injEq, Addr.mk.injEq, and_true] at he
            obtain ⟨e1, e2⟩ := he
            subst e1 e2
            obtain ⟨y, hy⟩ : ∃ y, zs.getD m 0 = y := ⟨_, rfl⟩
            rw [hy] at hc2
            have HY := Lib.hid hy
            clear hy
            by_cases h3 : x ≤ y
            · go_wp2
              go_ret
              exact ⟨ret_bool (risB_f hlt (fun h => by have := h.2.2 (by omega); rw [HX.out, Nat.add_sub_cancel, HY.out] at this; omega)).symm, rfl⟩
            · go_wp2
              go_round
              case rel =>
                refine ⟨m + 2, by omega, by go_num, fun j hj => ?_⟩
                by_cases hjm : j < m + 1
                · exact HR.out j hjm
                · obtain rfl : j = m + 1 := by omega
                  exact ⟨by rw [HX.out]; omega, by rw [HX.out]; omega, fun _ => by rw [HX.out, Nat.add_sub_cancel, HY.out]; omega⟩
              case measure => simp [intOf]; omega
    · go_wp2
      go_ret
      exact ⟨ret_bool (risB_t (fun i hi => HR.out i (by omega))).symm, rfl⟩
set_option maxHeartbeats 1000000 in
theorem lri_any (w : World) (B : Nat) (a : Option Addr) (cap : Nat) (zs : List Int) (n : Int) (hl : zs.length ≤ 9223372036854775807) (hz : Ints .i64 w B a zs) :
    Calls Try.prog 66 #[.slice a zs.length cap, .int .i64 n] w fun e w' => e = .returned (.bool (risB zs n)) ∧ ∃ n, w' = w.drewN n := by
  go_enter Try.func66, Try.ntmps66
  go_wp2
  go_loopw [5] (fun i wr => ∃ k : Nat, (∃ n, wr = w.drewN n) ∧ k ≤ zs.length ∧ i = .int .i64 k ∧ ∀ j, j < k → risP zs n j) (fun i _ => zs.length - (intOf i).toNat)
  case atStart => exact ⟨0, ⟨0, rfl⟩, by omega, rfl, fun j hj => by omega⟩
  case round =>
    obtain ⟨k, ⟨nd, rfl⟩, hk, rfl, hr⟩ := hrel
    have HR := Lib.hid hr
    clear hr
    by_cases hlt : k < zs.length
    · obtain ⟨b, off, rfl, hB, hc⟩ := hz.at_ hlt
      have HZ := Lib.hid hz
      clear hz
      obtain ⟨x, hx⟩ : ∃ x, zs.getD k 0 = x := ⟨_, rfl⟩
      rw [hx] at hc
      have HX := Lib.hid hx
      clear hx
      by_cases h1 : x < 0
      · go_wp2
        go_quiet (fail)
        go_wp2
        go_ret
        exact ⟨ret_bool (risB_f hlt (fun h => by have := h.1; rw [HX.out] at this; omega)).symm, _, World.drewN_drewN _ _ _⟩
      · have d1 : decide (x < 0) = false := by simpa using h1
        by_cases h2 : n ≤ x
        · have d2 : decide (n ≤ x) = true := by simpa using h2
          go_wp2
          go_quiet (fail)
          go_wp2
          go_ret
          exact ⟨ret_bool (risB_f hlt (fun h => by have := h.2.1; rw [HX.out] at this; omega)).symm, _, World.drewN_drewN _ _ _⟩
        · have d2 : decide (n ≤ x) = false := by simpa using h2
          cases k with
          | zero =>
            rw [Nat.add_zero] at hc
            have d3 : decide ((0 : Int) < 0) = false := by decide
            go_wp2
            go_quiet (fail)
            go_wp2
            go_roundw
            case rel => exact ⟨1, ⟨_, rfl⟩, by omega, rfl, fun j hj => by
              obtain rfl : j = 0 := by omega
              exact ⟨by rw [HX.out]; omega, by rw [HX.out]; omega, by omega⟩⟩
            case measure => simp [intOf]; omega
          | succ m =>
            obtain ⟨b', off', he, _, hc2⟩ := HZ.out.at_ (j := m) (by omega)
            simp only [Option.some.injEq, Addr.mk.injEq, and_true] at he
            obtain ⟨e1, e2⟩ := he
            subst e1 e2
            obtain ⟨y, hy⟩ : ∃ y, zs.getD m 0 = y := ⟨_, rfl⟩
            rw [hy] at hc2
            have HY := Lib.hid hy
            clear hy
            have d3 : decide ((0 : Int) < (m : Int) + 1) = true := by simp
            by_cases h3 : x ≤ y
            · have d4 : decide (x ≤ y) = true := by simpa using h3
              go_wp2
              go_quiet (fail)
              go_wp2
              go_ret
              exact ⟨ret_bool (risB_f hlt (fun h => by have := h.2.2 (by omega); rw [HX.out, Nat.add_sub_cancel, HY.out] at this; omega)).symm, _, World.drewN_drewN _ _ _⟩
            · have d4 : decide (x ≤ y) = false := by simpa using h3
              go_wp2
              go_quiet (fail)
              go_wp2
              go_roundw
              case rel =>
                refine ⟨m + 2, ⟨_, rfl⟩, by omega, by go_num, fun j hj => ?_⟩
                by_cases hjm : j < m + 1
                · exact HR.out j hjm
                · obtain rfl : j = m + 1 := by omega
                  exact ⟨by rw [HX.out]; omega, by rw [HX.out]; omega, fun _ => by rw [HX.out, Nat.add_sub_cancel, HY.out]; omega⟩
              case measure => simp [intOf]; omega
    · go_wp2
      go_ret
      exact ⟨ret_bool (risB_t (fun i hi => HR.out i (by omega))).symm, _, rfl⟩

end Go.Proofs.Ytkjpjhklnaehbab
namespace Go.Proofs.Ytkjpjhklnaehbab
open Go.ChangeShapes Go.WideShapes Go.ChangeAt Go.RowKit
set_option linter.unusedVariables false
/-- the least, the greatest of the first k + 1 elements -/
def mnTo (zs : List Int) : Nat → Int | 0 => zs.getD 0 0 | k + 1 => if zs.getD (k + 1) 0 < mnTo zs k then zs.getD (k + 1) 0 else mnTo zs k
def mxTo (zs : List Int) : Nat → Int | 0 => zs.getD 0 0 | k + 1 => if mxTo zs k < zs.getD (k + 1) 0 then zs.getD (k + 1) 0 else mxTo zs k
theorem mnTo_succ (zs : List Int) (k : Nat) : mnTo zs (k + 1) = if zs.getD (k + 1) 0 < mnTo zs k then zs.getD (k + 1) 0 else mnTo zs k := rfl
theorem mxTo_succ (zs : List Int) (k : Nat) : mxTo zs (k + 1) = if mxTo zs k < zs.getD (k + 1) 0 then zs.getD (k + 1) 0 else mxTo zs k := rfl

theorem mini_any (w : World) (B : Nat) (a : Option Addr) (cap : Nat) (zs : List Int) (h0 : 0 < zs.length) (hl : zs.length ≤ 9223372036854775807) (hz : Ints .i64 w B a zs) :
    Calls Try.prog 78 #[.slice a zs.length cap] w fun e w' => e = .returned (.int .i64 (mnTo zs (zs.length - 1))) ∧ w = w' := by
  obtain ⟨b, off, rfl, hB, hc⟩ := hz h0
  have hc0 := hc 0 h0
  rw [Nat.add_zero] at hc0
  have HC := Lib.hid hc
  clear hc hz
  obtain ⟨x, hx⟩ : ∃ x, zs.getD 0 0 = x := ⟨_, rfl⟩
  rw [hx] at hc0
  have HX := Lib.hid hx
  clear hx
  have d0 : ¬ ((zs.length : Int) < 1) := by omega
  have d1 : decide ((zs.length : Int) < 1) = false := by simp; omega
  go_enter Try.func78, Try.ntmps78
  go_wp2
  go_loop [3, 4] (fun m i => ∃ k : Nat, k + 1 ≤ zs.length ∧ i = .int .i64 ((k : Int) + 1) ∧ m = .int .i64 (mnTo zs k)) (fun _ i => zs.length - (intOf i).toNat)
  case atStart => exact ⟨0, by omega, rfl, by unfold mnTo; rw [HX.out]⟩
  case round =>
    obtain ⟨k, hk, rfl, rfl⟩ := hrel
    by_cases hlt : k + 1 < zs.length
    · have hcell := HC.out (k + 1) hlt
      have hs := mnTo_succ zs k
      obtain ⟨y, hy⟩ : ∃ y, zs.getD (k + 1) 0 = y := ⟨_, rfl⟩
      obtain ⟨m, hm⟩ : ∃ m, mnTo zs k = m := ⟨_, rfl⟩
      rw [hy] at hcell hs
      rw [hm] at hs ⊢
      have HS := Lib.hid hs
      clear hs hy hm
      by_cases hym : y < m
      all_goals
        go_wp2
        go_round
        case rel => exact ⟨k + 1, by omega, by go_num, by rw [HS.out]; first | rw [if_pos hym] | rw [if_neg hym]⟩
        case measure => simp [intOf]; omega
    · go_wp2
      go_ret
      exact ⟨ret_int (by rw [show k = zs.length - 1 by omega]), rfl⟩

theorem maxi_any (w : World) (B : Nat) (a : Option Addr) (cap : Nat) (zs : List Int) (h0 : 0 < zs.length) (hl : zs.length ≤ 9223372036854775807) (hz : Ints .i64 w B a zs) :
    Calls Try.prog 81 #[.slice a zs.length cap] w fun e w' => e = .returned (.int .i64 (mxTo zs (zs.length - 1))) ∧ w = w' := by
  obtain ⟨b, off, rfl, hB, hc⟩ := hz h0
  have hc0 := hc 0 h0
  rw [Nat.add_zero] at hc0
  have HC := Lib.hid hc
  clear hc hz
  obtain ⟨x, hx⟩ : ∃ x, zs.getD 0 0 = x := ⟨_, rfl⟩
  rw [hx] at hc0
  have HX := Lib.hid hx
  clear hx
  have d0 : ¬ ((zs.length : Int) < 1) := by omega
  have d1 : decide ((zs.length : Int) < 1) = false := by simp; omega
  go_enter Try.func81, Try.ntmps81
  go_wp2
  go_loop [3, 4] (fun m i => ∃ k : Nat, k + 1 ≤ zs.length ∧ i = .int .i64 ((k : Int) + 1) ∧ m = .int .i64 (mxTo zs k)) (fun _ i => zs.length - (intOf i).toNat)
  case atStart => exact ⟨0, by omega, rfl, by unfold mxTo; rw [HX.out]⟩
  case round =>
    obtain ⟨k, hk, rfl, rfl⟩ := hrel
    by_cases hlt : k + 1 < zs.length
    · have hcell := HC.out (k + 1) hlt
      have hs := mxTo_succ zs k
      obtain ⟨y, hy⟩ : ∃ y, zs.getD (k + 1) 0 = y := ⟨_, rfl⟩
      obtain ⟨m, hm⟩ : ∃ m, mxTo zs k = m := ⟨_, rfl⟩
      rw [hy] at hcell hs
      rw [hm] at hs ⊢
      have HS := Lib.hid hs
      clear hs hy hm
      by_cases hym : m < y
      all_goals
        go_wp2
        go_round
        case rel => exact ⟨k + 1, by omega, by go_num, by rw [HS.out]; first | rw [if_pos hym] | rw [if_neg hym]⟩
        case measure => simp [intOf]; omega
    · go_wp2
      go_ret
      exact ⟨ret_int (by rw [show k = zs.length - 1 by omega]), rfl⟩

/-- an element lies outside of the interval -/
def anyLack (lo hi : Int) (zs : List Int) : Bool := zs.any fun x => !hasB lo hi x
theorem anyLack_t {lo hi : Int} {zs : List Int} {k : Nat} (hk : k < zs.length) (h : hasB lo hi (zs.getD k 0) = false) : anyLack lo hi zs = true := by
  unfold anyLack
  rw [List.any_eq_true]
  rw [List.getD_eq_getElem?_getD, List.getElem?_eq_getElem hk] at h
  exact ⟨zs[k], List.getElem_mem hk, by simpa using h⟩
theorem anyLack_f {lo hi : Int} {zs : List Int} (h : ∀ k, k < zs.length → hasB lo hi (zs.getD k 0) = true) : anyLack lo hi zs = false := by
  unfold anyLack
  rw [List.any_eq_false]
  intro x hx
  obtain ⟨k, hk, rfl⟩ := List.getElem_of_mem hx
  have := h k hk
  rw [List.getD_eq_getElem?_getD, List.getElem?_eq_getElem hk] at this
  simpa using this
/-- what the search for an element outside leaves -/
def IxPost (w : World) (b : Bool) (e : Ending) (w' : World) : Prop := ∃ i : Int, e = .returned (.int .i64 i) ∧ decide (0 ≤ i) = b ∧ Below w.heap.size w w'
theorem ixl_any (w : World) (a : Option Addr) (cap : Nat) (zs : List Int) (lo hi : Int) (hl : zs.length ≤ 9223372036854775807) (hz : Ints .i64 w w.heap.size a zs) :
    Calls Try.prog 87 #[.slice a zs.length cap, .func (.func 68) #[.agg #[.int .i64 lo, .int .i64 hi]] #[]] w (IxPost w (anyLack lo hi zs)) := by
  go_enter Try.func87, Try.ntmps87
  go_wp2
  go_loopw [8] (fun i wr => ∃ k : Nat, k ≤ zs.length ∧ i = .int .i64 k ∧ Below w.heap.size w wr ∧ ∀ j, j < k → hasB lo hi (zs.getD j 0) = true) (fun i _ => zs.length - (intOf i).toNat)
  case atStart => exact ⟨0, by omega, rfl, Below.refl _ _, fun j hj => by omega⟩
  case round =>
    obtain ⟨k, hk, rfl, hb, hr⟩ := hrel
    have HR := Lib.hid hr
    clear hr
    by_cases hlt : k < zs.length
    · obtain ⟨b, off, rfl, hB, hc⟩ := hz.at_ hlt
      have hc1 := (hb.cell (p := ⟨b, off + k, none⟩) hB).trans hc
      have HB := Lib.hid hb
      clear hb hc
      obtain ⟨x, hx⟩ : ∃ x, zs.getD k 0 = x := ⟨_, rfl⟩
      rw [hx] at hc1
      have HX := Lib.hid hx
      clear hx
      cases hh : hasB lo hi x
      · go_wp2_with (go_at_call 68; refine (lacks_any _ _ _ _).mono ?_; rw [hh]; rintro e w' ⟨rfl, rfl⟩)
        go_ret
        exact ⟨(k : Int), rfl, by rw [anyLack_t hlt (by rw [HX.out]; exact hh)]; simp, bel_end HB.out (by repeat (first | exact Below.refl _ _ | (refine Below.alloc ?_ (by simp <;> omega) _) | (refine Below.setCell ?_ (by simp <;> omega) _) | (refine Below.drew ?_) | (refine bel_drewN ?_ _)))⟩
      · go_wp2_with (go_at_call 68; refine (lacks_any _ _ _ _).mono ?_; rw [hh]; rintro e w' ⟨rfl, rfl⟩)
        go_roundw
        case rel => exact ⟨k + 1, by omega, by go_num, bel_end HB.out (by repeat (first | exact Below.refl _ _ | (refine Below.alloc ?_ (by simp <;> omega) _) | (refine Below.setCell ?_ (by simp <;> omega) _) | (refine Below.drew ?_) | (refine bel_drewN ?_ _))), fun j hj => by
          by_cases hjk : j < k
          · exact HR.out j hjk
          · obtain rfl : j = k := by omega
            rw [HX.out]; exact hh⟩
        case measure => simp [intOf]; omega
    · go_wp2
      go_ret
      exact ⟨-1, rfl, by rw [anyLack_f (fun j hj => HR.out j (by omega))]; rfl, hb⟩
theorem cfl_any (w : World) (a : Option Addr) (cap : Nat) (zs : List Int) (lo hi : Int) (hl : zs.length ≤ 9223372036854775807) (hz : Ints .i64 w w.heap.size a zs) :
    Calls Try.prog 86 #[.slice a zs.length cap, .func (.func 68) #[.agg #[.int .i64 lo, .int .i64 hi]] #[]] w fun e w' => e = .returned (.bool (anyLack lo hi zs)) ∧ Below w.heap.size w w' := by
  go_enter Try.func86, Try.ntmps86
  go_wp2_with fail
  refine (ixl_any _ _ _ zs lo hi hl hz).mono ?_
  rintro e w' ⟨i, rfl, hi, hb⟩
  have HI := Lib.hid hi
  have HB := Lib.hid hb
  clear hi hb
  go_wp2
  go_ret
  exact ⟨ret_bool HI.out, HB.out⟩
end Go.Proofs.Ytkjpjhklnaehbab
namespace Go.Proofs.Ytkjpjhklnaehbab
open Go.ChangeShapes Go.WideShapes Go.ChangeAt Go.RowKit Num
set_option linter.unusedVariables false
/-- depths and speeds in the memory -/
structure Prof (w : World) (B : Nat) (a b : Option Addr) (zs ys : List Int) : Prop where
  dz : Ints .i64 w B a zs
  sy : Ints .i64 w B b ys
  lz : zs.length ≤ 1048576
  ly : ys.length ≤ 1048576
theorem Prof.below {w w' : World} {B : Nat} {a b : Option Addr} {zs ys : List Int} (h : Prof w B a b zs ys) (hb : Below B w w') : Prof w' B a b zs ys := ⟨h.dz.below hb, h.sy.below hb, h.lz, h.ly⟩
theorem Prof.more {w : World} {B B' : Nat} {a b : Option Addr} {zs ys : List Int} (h : Prof w B a b zs ys) (hb : B ≤ B') : Prof w B' a b zs ys := ⟨h.dz.more hb, h.sy.more hb, h.lz, h.ly⟩
/-- behind a call that leaves all old blocks alone -/
theorem Prof.on {w w' : World} {a b : Option Addr} {zs ys : List Int} (h : Prof w w.heap.size a b zs ys) (hb : Below w.heap.size w w') : Prof w' w'.heap.size a b zs ys := (h.below hb).more hb.size
/-- a cell, a mark, behind a call that leaves all old blocks alone -/
theorem kc1 {W w2 : World} {m o : Nat} {v0 : Value} (c0 : W.cell? ⟨m, o, none⟩ = some v0) (h : Below W.heap.size W w2) : w2.cell? ⟨m, o, none⟩ = some v0 := (h.cell (p := ⟨m, o, none⟩) (World.block_lt_of_cell? W _ c0)).trans c0
theorem kcf {W w2 : World} {m o : Nat} {v0 : Value} {b : Bool} (f0 : W.frozen? ⟨m, o, none⟩ = b) (c0 : W.cell? ⟨m, o, none⟩ = some v0) (h : Below W.heap.size W w2) : w2.frozen? ⟨m, o, none⟩ = b := (h.frozen (p := ⟨m, o, none⟩) (World.block_lt_of_cell? W _ c0)).trans f0
/-- the profile as a value -/
def pfV (a b : Option Addr) (zs ys : List Int) (c d : Nat) : Value := .agg #[.slice a zs.length c, .slice b ys.length d]
/-- valid depths and speeds -/
def prfP (zs ys : List Int) : Prop := 2 ≤ zs.length ∧ zs.length ≤ 12 ∧ ys.length = zs.length ∧ risB zs 1000001 = true ∧ zs.getD 0 0 = 0 ∧ anyLack 1300000 1700000 ys = false
instance (zs ys : List Int) : Decidable (prfP zs ys) := by unfold prfP; infer_instance
def prfB (zs ys : List Int) : Bool := decide (prfP zs ys)
theorem prfB_t {zs ys : List Int} (h : prfP zs ys) : prfB zs ys = true := by unfold prfB; exact decide_eq_true h
theorem prfB_f {zs ys : List Int} (h : ¬ prfP zs ys) : prfB zs ys = false := by unfold prfB; exact decide_eq_false h
theorem prfB_p {zs ys : List Int} (h : prfB zs ys = true) : prfP zs ys := by unfold prfB at h; exact of_decide_eq_true h
theorem anyLack_at {lo hi : Int} {zs : List Int} (h : anyLack lo hi zs = false) {k : Nat} (hk : k < zs.length) : lo ≤ zs.getD k 0 ∧ zs.getD k 0 ≤ hi := by
  cases hh : hasB lo hi (zs.getD k 0)
  · rw [anyLack_t hk hh] at h; cases h
  · unfold hasB at hh
    simp only [Bool.and_eq_true, decide_eq_true_eq] at hh
    exact hh
/-- what is known of a valid profile -/
structure Okp (zs ys : List Int) : Prop where
  n2 : 2 ≤ zs.length
  n12 : zs.length ≤ 12
  len : ys.length = zs.length
  lo : ∀ j, 0 ≤ zs.getD j 0
  hi : ∀ j, zs.getD j 0 ≤ 1000000
  step : ∀ j, j + 1 < zs.length → zs.getD j 0 < zs.getD (j + 1) 0
  zero : zs.getD 0 0 = 0
  slo : ∀ j, j < zs.length → 1300000 ≤ ys.getD j 0
  shi : ∀ j, ys.getD j 0 ≤ 1700000
  sge : ∀ j, 0 ≤ ys.getD j 0
theorem getD_out {zs : List Int} {j : Nat} (h : zs.length ≤ j) : zs.getD j 0 = 0 := by
  rw [List.getD_eq_getElem?_getD, List.getElem?_eq_none h]; rfl
theorem Okp.of {zs ys : List Int} (h : prfB zs ys = true) : Okp zs ys := by
  obtain ⟨h1, h2, h3, h4, h5, h6⟩ := prfB_p h
  have hr : ∀ i, i < zs.length → risP zs 1000001 i := by unfold risB at h4; exact of_decide_eq_true h4
  refine ⟨h1, h2, h3, fun j => ?_, fun j => ?_, fun j hj => ?_, h5, fun j hj => (anyLack_at h6 (by omega)).1, fun j => ?_, fun j => ?_⟩
  · rcases Nat.lt_or_ge j zs.length with hj | hj
    · exact (hr j hj).1
    · rw [getD_out hj]; omega
  · rcases Nat.lt_or_ge j zs.length with hj | hj
    · have := (hr j hj).2.1; omega
    · rw [getD_out hj]; omega
  · have := (hr (j + 1) hj).2.2 (by omega); rwa [Nat.add_sub_cancel] at this
  · rcases Nat.lt_or_ge j ys.length with hj | hj
    · exact (anyLack_at h6 hj).2
    · rw [getD_out hj]; omega
  · rcases Nat.lt_or_ge j ys.length with hj | hj
    · have := (anyLack_at h6 hj).1; omega
    · rw [getD_out hj]; omega
theorem Okp.mono {zs ys : List Int} (h : Okp zs ys) {i : Nat} : ∀ j, i < j → j < zs.length → zs.getD i 0 < zs.getD j 0
  | 0, hi, _ => by omega
  | j + 1, hi, hj => by
    have hs := h.step j hj
    rcases Nat.lt_or_ge i j with hlt | hge
    · have := Okp.mono h j hlt (by omega); omega
    · obtain rfl : i = j := by omega
      exact hs

theorem inB_hasB (x lo hi : Int) : inB x lo hi = hasB lo hi x := by
  unfold inB hasB
  rw [Bool.eq_iff_iff]
  simp

theorem lwi_any (w : World) (a : Option Addr) (cap : Nat) (zs : List Int) (m lo hi : Int) (hl : zs.length ≤ 1048576) (hz : Ints .i64 w w.heap.size a zs) :
    Calls Try.prog 67 #[.slice a zs.length cap, .int .i64 m, .int .i64 lo, .int .i64 hi] w fun e w' => e = .returned (.bool (!anyLack lo hi zs && decide ((zs.length : Int) ≤ m))) ∧ w = w' := by
  go_enter Try.func67, Try.ntmps67
  go_wp2
  go_loop [9] (fun i => ∃ k : Nat, k ≤ zs.length ∧ i = .int .i64 k ∧ ∀ j, j < k → hasB lo hi (zs.getD j 0) = true) (fun i => zs.length - (intOf i).toNat)
  case atStart => exact ⟨0, by omega, rfl, fun j hj => by omega⟩
  case round =>
    obtain ⟨k, hk, rfl, hr⟩ := hrel
    have HR := Lib.hid hr
    clear hr
    by_cases hlt : k < zs.length
    · obtain ⟨b, off, rfl, hB, hc⟩ := hz.at_ hlt
      obtain ⟨x, hx⟩ : ∃ x, zs.getD k 0 = x := ⟨_, rfl⟩
      rw [hx] at hc
      have HX := Lib.hid hx
      clear hx
      cases hh : hasB lo hi x
      · go_wp2_with (go_at_call 48; refine (lin_any _ _ _ _).mono ?_; rw [show inB x lo hi = false from hh ▸ inB_hasB x lo hi]; rintro e w' ⟨rfl, rfl⟩)
        go_ret
        exact ⟨ret_bool (by rw [anyLack_t hlt (by rw [HX.out]; exact hh)]; rfl), rfl⟩
      · go_wp2_with (go_at_call 48; refine (lin_any _ _ _ _).mono ?_; rw [show inB x lo hi = true from hh ▸ inB_hasB x lo hi]; rintro e w' ⟨rfl, rfl⟩)
        go_round
        case rel => exact ⟨k + 1, by omega, by go_num, fun j hj => by
          by_cases hjk : j < k
          · exact HR.out j hjk
          · obtain rfl : j = k := by omega
            rw [HX.out]; exact hh⟩
        case measure => simp [intOf]; omega
    · go_wp2
      go_ret
      exact ⟨ret_bool (by rw [anyLack_f (fun j hj => HR.out j (by omega))]; rfl), rfl⟩

set_option maxHeartbeats 1000000 in
theorem ipr_any (w : World) (a b : Option Addr) (c d : Nat) (zs ys : List Int) (hp : Prof w w.heap.size a b zs ys) :
    Calls Try.prog 70 #[.agg #[.slice a zs.length c, .slice b ys.length d]] w fun e w' => e = .returned (.bool (prfB zs ys)) ∧ Below w.heap.size w w' := by
  have lz := hp.lz
  have ly := hp.ly
  have HP := Lib.hid hp
  clear hp
  by_cases h1 : zs.length < 2
  · have H : Hid (prfB zs ys = false) := Lib.hid (prfB_f (fun h => by have := h.1; omega))
    go_enter Try.func70, Try.ntmps70
    go_wp2
    go_ret
    exact ⟨ret_bool H.out.symm, (by repeat (first | exact Below.refl _ _ | (refine Below.alloc ?_ (by simp <;> omega) _) | (refine Below.setCell ?_ (by simp <;> omega) _) | (refine Below.drew ?_) | (refine bel_drewN ?_ _)))⟩
  by_cases h2 : 12 < zs.length
  · have H : Hid (prfB zs ys = false) := Lib.hid (prfB_f (fun h => by have := h.2.1; omega))
    go_enter Try.func70, Try.ntmps70
    go_wp2
    go_ret
    exact ⟨ret_bool H.out.symm, (by repeat (first | exact Below.refl _ _ | (refine Below.alloc ?_ (by simp <;> omega) _) | (refine Below.setCell ?_ (by simp <;> omega) _) | (refine Below.drew ?_) | (refine bel_drewN ?_ _)))⟩
  by_cases h3 : ys.length = zs.length
  case neg =>
    have H : Hid (prfB zs ys = false) := Lib.hid (prfB_f (fun h => h3 h.2.2.1))
    have hne : ((ys.length : Int) != (zs.length : Int)) = true := by simp; omega
    clear h3
    go_enter Try.func70, Try.ntmps70
    go_wp2
    go_ret
    exact ⟨ret_bool H.out.symm, (by repeat (first | exact Below.refl _ _ | (refine Below.alloc ?_ (by simp <;> omega) _) | (refine Below.setCell ?_ (by simp <;> omega) _) | (refine Below.drew ?_) | (refine bel_drewN ?_ _)))⟩
  have hne : ((ys.length : Int) != (zs.length : Int)) = false := by simp; omega
  have H3 := Lib.hid h3
  clear h3
  have n2 : 0 < zs.length := by omega
  obtain ⟨b0, off, rfl, hB, hc⟩ := HP.out.dz.at_ n2
  rw [Nat.add_zero] at hc
  obtain ⟨x, hx⟩ : ∃ x, zs.getD 0 0 = x := ⟨_, rfl⟩
  rw [hx] at hc
  have HX := Lib.hid hx
  have HP1 : Hid (Prof (w.alloc (.cells #[.slice (some ⟨b0, off, none⟩) zs.length c, .slice b ys.length d] 32)) (w.alloc (.cells #[.slice (some ⟨b0, off, none⟩) zs.length c, .slice b ys.length d] 32)).heap.size (some ⟨b0, off, none⟩) b zs ys) := Lib.hid (HP.out.on (by repeat (first | exact Below.refl _ _ | (refine Below.alloc ?_ (by simp <;> omega) _) | (refine Below.setCell ?_ (by simp <;> omega) _) | (refine Below.drew ?_) | (refine bel_drewN ?_ _))))
  clear hx
  cases h4 : risB zs 1000001
  · have H : Hid (prfB zs ys = false) := Lib.hid (prfB_f (fun h => by rw [h.2.2.2.1] at h4; cases h4))
    have H4 := Lib.hid h4
    clear h4
    go_enter Try.func70, Try.ntmps70
    go_wp2_with (go_at_call 85; refine (iir_any _ _ _ _ zs _ (by omega) HP1.out.dz).mono ?_; rw [H4.out]; rintro e w' ⟨rfl, rfl⟩)
    go_ret
    exact ⟨ret_bool H.out.symm, (by repeat (first | exact Below.refl _ _ | (refine Below.alloc ?_ (by simp <;> omega) _) | (refine Below.setCell ?_ (by simp <;> omega) _) | (refine Below.drew ?_) | (refine bel_drewN ?_ _)))⟩
  have H4 := Lib.hid h4
  clear h4
  by_cases h5 : x = 0
  case neg =>
    have H : Hid (prfB zs ys = false) := Lib.hid (prfB_f (fun h => h5 (HX.out.symm.trans h.2.2.2.2.1)))
    have hx0 : (x != 0) = true := by simpa using h5
    clear h5
    go_enter Try.func70, Try.ntmps70
    go_wp2_with (go_at_call 85; refine (iir_any _ _ _ _ zs _ (by omega) HP1.out.dz).mono ?_; rw [H4.out]; rintro e w' ⟨rfl, rfl⟩)
    go_ret
    exact ⟨ret_bool H.out.symm, (by repeat (first | exact Below.refl _ _ | (refine Below.alloc ?_ (by simp <;> omega) _) | (refine Below.setCell ?_ (by simp <;> omega) _) | (refine Below.drew ?_) | (refine bel_drewN ?_ _)))⟩
  subst h5
  have HE : Hid ((!anyLack 1300000 1700000 ys) = prfB zs ys) := Lib.hid (by
    cases h6 : anyLack 1300000 1700000 ys
    · exact (prfB_t ⟨by omega, by omega, H3.out, H4.out, HX.out, h6⟩).symm
    · exact (prfB_f (fun h => by rw [h.2.2.2.2.2] at h6; cases h6)).symm)
  go_enter Try.func70, Try.ntmps70
  go_wp2_with (first | (go_at_call 85; refine (iir_any _ _ _ _ zs _ (by omega) HP1.out.dz).mono ?_; rw [H4.out]; rintro e w' ⟨rfl, rfl⟩) | (go_at_call 86; refine (cfl_any _ _ _ ys _ _ (by omega) ((HP1.out.on (by repeat (first | exact Below.refl _ _ | (refine Below.alloc ?_ (by simp <;> omega) _) | (refine Below.setCell ?_ (by simp <;> omega) _) | (refine Below.drew ?_) | (refine bel_drewN ?_ _)))).sy)).mono ?_; rintro e w' ⟨rfl, hb⟩))
  go_ret
  exact ⟨ret_bool HE.out, bel_end (by repeat (first | exact Below.refl _ _ | (refine Below.alloc ?_ (by simp <;> omega) _) | (refine Below.setCell ?_ (by simp <;> omega) _) | (refine Below.drew ?_) | (refine bel_drewN ?_ _))) hb⟩

set_option maxHeartbeats 1000000 in
theorem spr_any (w : World) (a b : Option Addr) (c d : Nat) (zs ys : List Int) (hp : Prof w w.heap.size a b zs ys) :
    Calls Try.prog 46 #[.agg #[.slice a zs.length c, .slice b ys.length d]] w fun e w' => e = .returned (.bool (prfB zs ys)) ∧ Below w.heap.size w w' := by
  have lz := hp.lz
  have ly := hp.ly
  have HP := Lib.hid hp
  clear hp
  by_cases h1 : zs.length < 2
  · have H : Hid (prfB zs ys = false) := Lib.hid (prfB_f (fun h => by have := h.1; omega))
    go_enter Try.func46, Try.ntmps46
    go_wp2
    go_ret
    exact ⟨ret_bool H.out.symm, (by repeat (first | exact Below.refl _ _ | (refine Below.alloc ?_ (by simp <;> omega) _) | (refine Below.setCell ?_ (by simp <;> omega) _) | (refine Below.drew ?_) | (refine bel_drewN ?_ _)))⟩
  by_cases h2 : 12 < zs.length
  · have H : Hid (prfB zs ys = false) := Lib.hid (prfB_f (fun h => by have := h.2.1; omega))
    go_enter Try.func46, Try.ntmps46
    go_wp2
    go_ret
    exact ⟨ret_bool H.out.symm, (by repeat (first | exact Below.refl _ _ | (refine Below.alloc ?_ (by simp <;> omega) _) | (refine Below.setCell ?_ (by simp <;> omega) _) | (refine Below.drew ?_) | (refine bel_drewN ?_ _)))⟩
  by_cases h3 : ys.length = zs.length
  case neg =>
    have H : Hid (prfB zs ys = false) := Lib.hid (prfB_f (fun h => h3 h.2.2.1))
    have hne : ((ys.length : Int) != (zs.length : Int)) = true := by simp; omega
    clear h3
    go_enter Try.func46, Try.ntmps46
    go_wp2
    go_ret
    exact ⟨ret_bool H.out.symm, (by repeat (first | exact Below.refl _ _ | (refine Below.alloc ?_ (by simp <;> omega) _) | (refine Below.setCell ?_ (by simp <;> omega) _) | (refine Below.drew ?_) | (refine bel_drewN ?_ _)))⟩
  have hne : ((ys.length : Int) != (zs.length : Int)) = false := by simp; omega
  have H3 := Lib.hid h3
  clear h3
  have n2 : 0 < zs.length := by omega
  obtain ⟨b0, off, rfl, hB, hc⟩ := HP.out.dz.at_ n2
  rw [Nat.add_zero] at hc
  obtain ⟨x, hx⟩ : ∃ x, zs.getD 0 0 = x := ⟨_, rfl⟩
  rw [hx] at hc
  have HX := Lib.hid hx
  have HP1 : Hid (Prof (w.alloc (.cells #[.slice (some ⟨b0, off, none⟩) zs.length c, .slice b ys.length d] 32)) (w.alloc (.cells #[.slice (some ⟨b0, off, none⟩) zs.length c, .slice b ys.length d] 32)).heap.size (some ⟨b0, off, none⟩) b zs ys) := Lib.hid (HP.out.on (by repeat (first | exact Below.refl _ _ | (refine Below.alloc ?_ (by simp <;> omega) _) | (refine Below.setCell ?_ (by simp <;> omega) _) | (refine Below.drew ?_) | (refine bel_drewN ?_ _))))
  clear hx
  cases h4 : risB zs 1000001
  · have H : Hid (prfB zs ys = false) := Lib.hid (prfB_f (fun h => by rw [h.2.2.2.1] at h4; cases h4))
    have H4 := Lib.hid h4
    clear h4
    go_enter Try.func46, Try.ntmps46
    go_wp2_with (go_at_call 66; refine (lri_any _ _ _ _ zs _ (by omega) HP1.out.dz).mono ?_; rw [H4.out]; rintro e w' ⟨rfl, nd, rfl⟩)
    go_ret
    exact ⟨ret_bool H.out.symm, (by repeat (first | exact Below.refl _ _ | (refine Below.alloc ?_ (by simp <;> omega) _) | (refine Below.setCell ?_ (by simp <;> omega) _) | (refine Below.drew ?_) | (refine bel_drewN ?_ _)))⟩
  have H4 := Lib.hid h4
  clear h4
  by_cases h5 : x = 0
  case neg =>
    have H : Hid (prfB zs ys = false) := Lib.hid (prfB_f (fun h => h5 (HX.out.symm.trans h.2.2.2.2.1)))
    have hx0 : (x != 0) = true := by simpa using h5
    clear h5
    go_enter Try.func46, Try.ntmps46
    go_wp2_with (go_at_call 66; refine (lri_any _ _ _ _ zs _ (by omega) HP1.out.dz).mono ?_; rw [H4.out]; rintro e w' ⟨rfl, nd, rfl⟩)
    go_ret
    exact ⟨ret_bool H.out.symm, (by repeat (first | exact Below.refl _ _ | (refine Below.alloc ?_ (by simp <;> omega) _) | (refine Below.setCell ?_ (by simp <;> omega) _) | (refine Below.drew ?_) | (refine bel_drewN ?_ _)))⟩
  subst h5
  have HE : Hid ((!anyLack 1300000 1700000 ys && decide ((ys.length : Int) ≤ 12)) = prfB zs ys) := Lib.hid (by
    have e12 : decide ((ys.length : Int) ≤ 12) = true := by rw [H3.out]; simp; omega
    rw [e12, Bool.and_true]
    cases h6 : anyLack 1300000 1700000 ys
    · exact (prfB_t ⟨by omega, by omega, H3.out, H4.out, HX.out, h6⟩).symm
    · exact (prfB_f (fun h => by rw [h.2.2.2.2.2] at h6; cases h6)).symm)
  go_enter Try.func46, Try.ntmps46
  go_wp2_with (first | (go_at_call 66; refine (lri_any _ _ _ _ zs _ (by omega) HP1.out.dz).mono ?_; rw [H4.out]; rintro e w' ⟨rfl, nd, rfl⟩) | (go_at_call 67; refine (lwi_any _ _ _ ys _ _ _ (by omega) ((HP1.out.on (bel_drewN (Below.refl _ _) nd)).sy)).mono ?_; rintro e w' ⟨rfl, rfl⟩))
  go_ret
  exact ⟨ret_bool HE.out, (by repeat (first | exact Below.refl _ _ | (refine Below.alloc ?_ (by simp <;> omega) _) | (refine Below.setCell ?_ (by simp <;> omega) _) | (refine Below.drew ?_) | (refine bel_drewN ?_ _)))⟩
end Go.Proofs.Ytkjpjhklnaehbab
namespace Go.Proofs.Ytkjpjhklnaehbab
open Go.ChangeShapes Go.WideShapes Go.ChangeAt Go.RowKit Go.Shelf Num
set_option linter.unusedVariables false
attribute [local go_sem] Oper.semAt_some

set_option maxRecDepth 100000 in
theorem kat_any (w : World) (a b : Option Addr) (c d : Nat) (zs ys : List Int) (k : Nat) (hp : Prof w w.heap.size a b zs ys) (hl : ys.length = zs.length) (hk : k < zs.length) :
    Calls Try.prog 55 #[.agg #[.slice a zs.length c, .slice b ys.length d], .int .i64 (k : Int)] w fun e w' => e = .returned (.agg #[.int .i64 (zs.getD k 0), .int .i64 (ys.getD k 0)]) ∧ Below w.heap.size w w' := by
  obtain ⟨b1, o1, rfl, hB1, h1⟩ := hp.dz.at_ hk
  obtain ⟨b2, o2, rfl, hB2, h2⟩ := hp.sy.at_ (show k < ys.length by omega)
  have lz := hp.lz
  have hk2 : k < ys.length := by omega
  clear hl
  clear hp
  obtain ⟨x, hx⟩ : ∃ x, zs.getD k 0 = x := ⟨_, rfl⟩
  obtain ⟨y, hy⟩ : ∃ y, ys.getD k 0 = y := ⟨_, rfl⟩
  rw [hx] at h1 ⊢
  rw [hy] at h2 ⊢
  clear hx hy
  go_enter Try.func55, Try.ntmps55
  go_wp2_with fail
  obtain ⟨W, hW⟩ : ∃ W, W = (w.alloc (.cells #[.slice (some ⟨b1, o1, none⟩) zs.length c, .slice (some ⟨b2, o2, none⟩) ys.length d] 32)).alloc (.cells #[.int .i64 0, .int .i64 0] 81) := ⟨_, rfl⟩
  have p0 : W.cell? ⟨w.heap.size, 0, none⟩ = some (.slice (some ⟨b1, o1, none⟩) zs.length c) := by rw [hW]; simp [go_sem]
  have p1 : W.cell? ⟨w.heap.size, 1, none⟩ = some (.slice (some ⟨b2, o2, none⟩) ys.length d) := by rw [hW]; simp [go_sem]
  have r0 : W.cell? ⟨w.heap.size + 1, 0, none⟩ = some (.int .i64 0) := by rw [hW]; simp [go_sem]
  have r1 : W.cell? ⟨w.heap.size + 1, 1, none⟩ = some (.int .i64 0) := by rw [hW]; simp [go_sem]
  have f0 : W.frozen? ⟨w.heap.size + 1, 0, none⟩ = false := by rw [hW]; simp [go_sem]
  have f1 : W.frozen? ⟨w.heap.size + 1, 1, none⟩ = false := by rw [hW]; simp [go_sem]
  have HB : Hid (Below w.heap.size w W) := Lib.hid (by rw [hW]; exact (by repeat (first | exact Below.refl _ _ | (refine Below.alloc ?_ (by simp <;> omega) _) | (refine Below.setCell ?_ (by simp <;> omega) _) | (refine Below.drew ?_) | (refine bel_drewN ?_ _))))
  replace h1 := kc1 h1 HB.out
  replace h2 := kc1 h2 HB.out
  rw [← hW]
  clear hW
  go_still_tail 11, (by kernel_rfl)
  go_wp2
  exact bodyPost_ret (v := .agg #[.int .i64 x, .int .i64 y]) (by simp [results, Try.results55, go_sem, r0, r1]) rfl ⟨rfl, (HB.out.drew.setCell (by simp) _).setCell (by simp) _⟩

/-- a knot as the loop is handed it -/
def knE (zs ys : List Int) (x : Nat) : Array Value := #[.int .i64 (x : Int), .agg #[.int .i64 (zs.getD x 0), .int .i64 (ys.getD x 0)]]
/-- a block of cells, whole -/
def Bk (W : World) (B : Nat) (cs : Array Value) (t : TypeId) : Prop := W.heap[B]? = some (.cells cs t (0, 0))
theorem Bk.lt {W : World} {B : Nat} {cs : Array Value} {t : TypeId} (h : Bk W B cs t) : B < W.heap.size := (Array.getElem?_eq_some_iff.1 h).1
theorem Bk.cell {W : World} {B : Nat} {cs : Array Value} {t : TypeId} (h : Bk W B cs t) (i : Nat) {v : Value} (e : cs[i]? = some v) : W.cell? ⟨B, i, none⟩ = some v := by simp [World.cell?, show W.heap[B]? = _ from h, e]
theorem Bk.frozen {W : World} {B : Nat} {cs : Array Value} {t : TypeId} (h : Bk W B cs t) (i : Nat) : W.frozen? ⟨B, i, none⟩ = false := by simp [World.frozen?, show W.heap[B]? = _ from h]
theorem Bk.new (W : World) (cs : Array Value) (t : TypeId) : Bk (W.alloc (.cells cs t)) W.heap.size cs t := World.alloc_heap_new W _
theorem Bk.new' {W : World} {n : Nat} {cs : Array Value} {t : TypeId} (hn : n = W.heap.size) : Bk (W.alloc (.cells cs t)) n cs t := by subst hn; exact Bk.new W cs t
theorem Bk.kept {W W' : World} {row : Option Nat} {B : Nat} {cs : Array Value} {t : TypeId} (h : Bk W B cs t) (hg : W.grownBy W' row) (hne : some B ≠ row) : Bk W' B cs t := (hg.block B h.lt hne).trans h
theorem Bk.alloc {W : World} {B : Nat} {cs : Array Value} {t : TypeId} (h : Bk W B cs t) (o : Obj) : Bk (W.alloc o) B cs t := h.kept (World.grownBy_alloc W o none) (by simp)
theorem Bk.on {W W' : World} {B : Nat} {cs : Array Value} {t : TypeId} (h : Bk W B cs t) (hb : Below W.heap.size W W') : Bk W' B cs t := (hb.block B h.lt).trans h
theorem Bk.set {W : World} {B : Nat} {cs cs' : Array Value} {t : TypeId} (h : Bk W B cs t) (i : Nat) (v : Value) (e : cs.setIfInBounds i v = cs') : Bk (W.setCell ⟨B, i, none⟩ v) B cs' t := by
  subst e; exact heap_setCell_same W B i _ _ _ h
theorem Bk.other {W : World} {B B' : Nat} {cs : Array Value} {t : TypeId} (h : Bk W B cs t) (hne : B ≠ B') (i : Nat) (u : Value) : Bk (W.setCell ⟨B', i, none⟩ u) B cs t := (Below.heap_setCell W ⟨B', i, none⟩ u B hne).trans h
/-- blocks that were laid ahead of a call lie behind it -/
theorem nk1 {W wA : World} {z y : Value} {t : TypeId} (hb : Below (W.alloc (.cells #[z, y] t)).heap.size (W.alloc (.cells #[z, y] t)) wA) : Bk wA W.heap.size #[z, y] t := (Bk.new W _ _).on hb
theorem nk2 {W wA : World} {z y z' y' : Value} {t t' : TypeId} (hb : Below ((W.alloc (.cells #[z, y] t)).alloc (.cells #[z', y'] t')).heap.size ((W.alloc (.cells #[z, y] t)).alloc (.cells #[z', y'] t')) wA) : Bk wA W.heap.size #[z, y] t ∧ Bk wA (W.heap.size + 1) #[z', y'] t' :=
  ⟨((Bk.new W _ _).alloc _).on hb, (Bk.new' (by simp)).on hb⟩
theorem nk1d {W wA : World} {z y : Value} {t : TypeId} (hb : Below (W.alloc (.cells #[z, y] t)).drew.heap.size (W.alloc (.cells #[z, y] t)).drew wA) : Bk wA W.heap.size #[z, y] t := Bk.on (W := (W.alloc (.cells #[z, y] t)).drew) (Bk.new W _ _) hb
theorem nk2d {W wA : World} {z y z' y' : Value} {t t' : TypeId} (hb : Below ((W.alloc (.cells #[z, y] t)).alloc (.cells #[z', y'] t')).drew.heap.size ((W.alloc (.cells #[z, y] t)).alloc (.cells #[z', y'] t')).drew wA) : Bk wA W.heap.size #[z, y] t ∧ Bk wA (W.heap.size + 1) #[z', y'] t' :=
  ⟨Bk.on (W := ((W.alloc (.cells #[z, y] t)).alloc (.cells #[z', y'] t')).drew) ((Bk.new W _ _).alloc _) hb, Bk.on (W := ((W.alloc (.cells #[z, y] t)).alloc (.cells #[z', y'] t')).drew) (Bk.new' (by simp)) hb⟩
theorem ck1 {wA wB : World} {o : Obj} {B : Nat} {cs : Array Value} {t : TypeId} (hb : Below (wA.alloc o).heap.size (wA.alloc o) wB) (h : Bk wA B cs t) : Bk wB B cs t := (h.alloc o).on hb
theorem Bk.drew {W : World} {B : Nat} {cs : Array Value} {t : TypeId} (h : Bk W B cs t) : Bk W.drew B cs t := h
theorem Bk.own {β : Type} (B : Nat) (f : β → Array Value) (t : TypeId) : Own (fun (s : β) W => Bk W B (f s) t) := fun s X Y row hs hg hrow =>
  hs.kept hg (fun e' => by obtain ⟨o, ho, hc⟩ := hrow B e'.symm; rw [show X.heap[B]? = _ from hs] at ho; cases ho; cases hc)
/-- what a round keeps: whatever lay below n₀, and the box of the profile -/
def KpB (n₀ Bp : Nat) (W W' : World) : Prop := Below n₀ W W' ∧ W'.heap[Bp]? = W.heap[Bp]?
theorem KpB.refl (n₀ Bp : Nat) (W : World) : KpB n₀ Bp W W := ⟨Below.refl _ _, rfl⟩
theorem kpB_t {n₀ Bp : Nat} {A B C : World} (h : KpB n₀ Bp A B) (k : KpB n₀ Bp B C) : KpB n₀ Bp A C := ⟨h.1.trans k.1, k.2.trans h.2⟩
theorem kpB_b {n₀ Bp : Nat} {w : World} (hn : n₀ ≤ w.heap.size) (hB : Bp < w.heap.size) (W : World) (l : Nat) (o o' : Obj) (hl : w.heap.size ≤ l) (h : W.heap[l]? = some o) (h1 : o.isCells = false) (h2 : o.isWalk = false) : KpB n₀ Bp W (W.putObj l o') :=
  ⟨belowK_b hn W l o o' hl h h1 h2, World.putObj_heap_other (by omega)⟩
theorem KpB.of {n₀ Bp : Nat} {W W' : World} (h : Below W.heap.size W W') (hn : n₀ ≤ W.heap.size) (hB : Bp < W.heap.size) : KpB n₀ Bp W W' := ⟨h.mono hn, h.block Bp hB⟩
theorem KpB.cell {n₀ Bp o : Nat} {W W' : World} (h : KpB n₀ Bp W W') : W'.cell? ⟨Bp, o, none⟩ = W.cell? ⟨Bp, o, none⟩ := World.cell?_of_block (a := ⟨Bp, o, none⟩) h.2
theorem KpB.set {n₀ Bp : Nat} (W : World) (B i : Nat) (v : Value) (hn : n₀ ≤ B) (hne : Bp ≠ B) : KpB n₀ Bp W (W.setCell ⟨B, i, none⟩ v) := ⟨(Below.refl _ W).setCell (p := ⟨B, i, none⟩) hn _, Below.heap_setCell W ⟨B, i, none⟩ v Bp hne⟩
theorem grown_none {w w' : World} (h : Below w.heap.size w w') : w.grownBy w' none := ⟨h.os, h.tape, h.output, h.size, fun k hk _ => h.block k hk⟩

end Go.Proofs.Ytkjpjhklnaehbab
namespace Go.Proofs.Ytkjpjhklnaehbab
open Go.ChangeShapes Go.WideShapes Go.ChangeAt Go.RowKit Go.Shelf
set_option linter.unusedVariables false
def iv4 (n : Int) : Value := .int .i64 n
theorem own_bel {w w' : World} {B k n : Nat} {e : TypeId} {v : Value} {xs : List Value} (h : w.ownsRow B e k v n xs) (hb : Below w.heap.size w w') : w'.ownsRow B e k v n xs := h.kept (grown_none hb) (by
  cases hv : v.ownBlock with
  | none => exact Or.inl rfl
  | some x => exact Or.inr (by simp))
theorem own_caps {w : World} {B n c : Nat} {a : Option Addr} {e : TypeId} {xs : List Value} (h : w.ownsRow B e 1 (.slice a n c) n xs) : n ≤ c := by
  rcases h.2 with ⟨h', h0⟩ | ⟨g, cap, cur, h', _, _, hle, _⟩
  · omega
  · simp only [Value.slice.injEq] at h'; omega
theorem own_ints {w : World} {B c : Nat} {a : Option Addr} {L : List Int} (h : w.ownsRow B 2 1 (.slice a L.length c) L.length (L.map iv4)) : Ints .i64 w w.heap.size a L := fun hp => by
  rcases h.2 with ⟨h', h0⟩ | ⟨g, cap, cur, h', hb, hg, hle, _⟩
  · omega
  · simp only [Value.slice.injEq] at h'
    obtain ⟨rfl, -, rfl⟩ := h'
    refine ⟨g, 0, rfl, (h.lt g (by simp [Value.ownBlock])).2, fun j hj => ?_⟩
    rw [Nat.zero_add, h.cellAt j (by omega), List.getElem?_map, List.getElem?_eq_getElem hj, List.getD_eq_getElem?_getD, List.getElem?_eq_getElem hj]
    rfl
end Go.Proofs.Ytkjpjhklnaehbab
namespace Go.Proofs.Ytkjpjhklnaehbab
open Go.ChangeShapes Go.WideShapes Go.ChangeAt Go.RowKit Go.Shelf Num
set_option linter.unusedVariables false
theorem Prof.drew {w : World} {B : Nat} {a b : Option Addr} {zs ys : List Int} (h : Prof w B a b zs ys) : Prof w.drew B a b zs ys := ⟨h.dz, h.sy, h.lz, h.ly⟩

theorem szi_any (w : World) (a : Option Addr) (c n : Nat) (x : Int) (hx : -1 ≤ x) (hx2 : x ≤ 1048576) (hn : n ≤ 9223372036854775807) :
    Calls Try.prog 23 #[.slice a n c, .int .i64 x] w fun e w' => e = .returned (.int .i64 (if x - (n : Int) < 0 then -1 else x - (n : Int))) ∧ w = w' := by
  have hw : IntKind.wrap .i64 (x - (n : Int)) = x - (n : Int) := IntWalk.i64_in _ (by omega)
  by_cases h : x - (n : Int) < 0
  · go_enter Try.func23, Try.ntmps23
    go_wp2
    go_ret
    exact ⟨ret_int (by first | rfl | rw [if_pos h]), rfl⟩
  · go_enter Try.func23, Try.ntmps23
    go_wp2
    go_ret
    exact ⟨ret_int (by first | rfl | rw [if_neg h]), rfl⟩
/-- what is left of the size -/
def szP (m n : Nat) : Int := if 1048576 < m + n then -1 else 1048576 - (m : Int) - (n : Int)
theorem szp_any (w : World) (a b : Option Addr) (c d m n : Nat) (hm : m ≤ 9223372036854775807) (hn : n ≤ 9223372036854775807) :
    Calls Try.prog 6 #[.agg #[.slice a m c, .slice b n d], .int .i64 1048576] w fun e w' => e = .returned (.int .i64 (szP m n)) ∧ Below w.heap.size w w' := by
  by_cases h1 : (1048576 : Int) - (m : Int) < 0
  · have e1 : (if (1048576 : Int) - (m : Int) < 0 then (-1 : Int) else 1048576 - (m : Int)) = -1 := if_pos h1
    have H : Hid (szP m n = -1) := Lib.hid (by unfold szP; rw [if_pos (by omega)])
    have E := Lib.hid e1
    clear h1 e1
    go_enter Try.func6, Try.ntmps6
    go_wp2_with fail
    refine (szi_any _ _ _ _ _ (by omega) (by omega) hm).mono ?_
    rw [E.out]
    rintro e w1 ⟨rfl, rfl⟩
    go_wp2
    go_ret
    exact ⟨ret_int H.out.symm, (by repeat (first | exact Below.refl _ _ | (refine Below.alloc ?_ (by simp <;> omega) _) | (refine Below.setCell ?_ (by simp <;> omega) _) | (refine Below.drew ?_) | (refine bel_drewN ?_ _)))⟩
  · have e1 : (if (1048576 : Int) - (m : Int) < 0 then (-1 : Int) else 1048576 - (m : Int)) = 1048576 - (m : Int) := if_neg h1
    have E1 := Lib.hid e1
    clear e1
    by_cases h2 : (1048576 : Int) - (m : Int) - (n : Int) < 0
    · have e2 : (if (1048576 : Int) - (m : Int) - (n : Int) < 0 then (-1 : Int) else 1048576 - (m : Int) - (n : Int)) = -1 := if_pos h2
      have H : Hid (szP m n = -1) := Lib.hid (by unfold szP; rw [if_pos (by omega)])
      have E2 := Lib.hid e2
      clear e2 h2
      go_enter Try.func6, Try.ntmps6
      go_wp2_with fail
      refine (szi_any _ _ _ _ _ (by omega) (by omega) hm).mono ?_
      rw [E1.out]
      rintro e w1 ⟨rfl, rfl⟩
      go_wp2_with fail
      refine (szi_any _ _ _ _ _ (by omega) (by omega) hn).mono ?_
      rw [E2.out]
      rintro e w1 ⟨rfl, rfl⟩
      go_wp2
      go_ret
      exact ⟨ret_int H.out.symm, (by repeat (first | exact Below.refl _ _ | (refine Below.alloc ?_ (by simp <;> omega) _) | (refine Below.setCell ?_ (by simp <;> omega) _) | (refine Below.drew ?_) | (refine bel_drewN ?_ _)))⟩
    · have e2 : (if (1048576 : Int) - (m : Int) - (n : Int) < 0 then (-1 : Int) else 1048576 - (m : Int) - (n : Int)) = 1048576 - (m : Int) - (n : Int) := if_neg h2
      have H : Hid (szP m n = 1048576 - (m : Int) - (n : Int)) := Lib.hid (by unfold szP; rw [if_neg (by omega)])
      have E2 := Lib.hid e2
      clear e2
      go_enter Try.func6, Try.ntmps6
      go_wp2_with fail
      refine (szi_any _ _ _ _ _ (by omega) (by omega) hm).mono ?_
      rw [E1.out]
      rintro e w1 ⟨rfl, rfl⟩
      go_wp2_with fail
      refine (szi_any _ _ _ _ _ (by omega) (by omega) hn).mono ?_
      rw [E2.out]
      rintro e w1 ⟨rfl, rfl⟩
      go_wp2
      go_ret
      exact ⟨ret_int H.out.symm, (by repeat (first | exact Below.refl _ _ | (refine Below.alloc ?_ (by simp <;> omega) _) | (refine Below.setCell ?_ (by simp <;> omega) _) | (refine Below.drew ?_) | (refine bel_drewN ?_ _)))⟩

/-- a profile in new memory of its own -/
def NewProf (w : World) (zs ys : List Int) (e : Ending) (w' : World) : Prop :=
  ∃ g h, e = .returned (.agg #[.slice (some ⟨g, 0, none⟩) zs.length zs.length, .slice (some ⟨h, 0, none⟩) ys.length ys.length]) ∧ w.heap.size ≤ g ∧ g < h ∧ w'.rowIs g 2 zs.length (cellsOf zs) ∧ w'.rowIs h 2 ys.length (cellsOf ys) ∧ Below w.heap.size w w'
theorem Prof.of_rows {w : World} {g h : Nat} {t : TypeId} {zs ys : List Int} (h1 : w.rowIs g t zs.length (cellsOf zs)) (h2 : w.rowIs h t ys.length (cellsOf ys)) (lz : zs.length ≤ 1048576) (ly : ys.length ≤ 1048576) : Prof w w.heap.size (some ⟨g, 0, none⟩) (some ⟨h, 0, none⟩) zs ys :=
  ⟨Ints.of_rowIs h1, Ints.of_rowIs h2, lz, ly⟩
theorem rowIs_on {w w' : World} {g : Nat} {t : TypeId} {n : Nat} {f : Nat → Value} (h : w.rowIs g t n f) (hb : Below w.heap.size w w') : w'.rowIs g t n f := h.of_block (hb.block g h.lt)

set_option maxRecDepth 100000 in
theorem top_any (w : World) (a b : Option Addr) (c d : Nat) (zs ys : List Int) (hp : Prof w w.heap.size a b zs ys) :
    Calls Try.prog 8 #[.agg #[.slice a zs.length c, .slice b ys.length d]] w (NewProf w zs ys) := by
  have HP := Lib.hid hp
  clear hp
  go_enter Try.func8, Try.ntmps8
  go_wp2_with fail
  obtain ⟨W, hW⟩ : ∃ W, W = ((w.alloc (.cells #[.slice a zs.length c, .slice b ys.length d] 24)).alloc (.cells #[.slice none 0 0, .slice none 0 0] 32)).alloc (.cells #[.slice none 0 0, .slice none 0 0] 32) := ⟨_, rfl⟩
  have bA : Bk W w.heap.size #[.slice a zs.length c, .slice b ys.length d] 24 := by rw [hW]; exact ((Bk.new' rfl).alloc _).alloc _
  have bR : Bk W (w.heap.size + 1) #[.slice none 0 0, .slice none 0 0] 32 := by rw [hW]; exact (Bk.new' (by simp)).alloc _
  have bO : Bk W (w.heap.size + 1 + 1) #[.slice none 0 0, .slice none 0 0] 32 := by rw [hW]; exact Bk.new' (by simp)
  have HB : Hid (Below w.heap.size w W) := Lib.hid (by rw [hW]; exact (by repeat (first | exact Below.refl _ _ | (refine Below.alloc ?_ (by simp <;> omega) _) | (refine Below.setCell ?_ (by simp <;> omega) _) | (refine Below.drew ?_) | (refine bel_drewN ?_ _))))
  rw [← hW]
  clear hW
  refine (to_any _ _ _ zs HP.out.lz (HP.out.on HB.out).dz).mono ?_
  rintro e w1 ⟨g, rfl, hg, hr, hb⟩
  have hgO : w.heap.size + 1 + 1 < g := Nat.lt_of_lt_of_le bO.lt hg
  replace bA := bA.on hb
  replace bR := bR.on hb
  replace bO := bO.on hb
  have HB1 := Lib.hid (bel_end HB.out hb)
  have HR := Lib.hid hr
  clear hb hr hg
  have fO := bO.frozen 0
  have cO := bO.cell 0 rfl
  have cA := bA.cell 1 rfl
  go_wp2_with fail
  clear fO cO cA
  obtain ⟨W1, hW⟩ : ∃ W, W = w1.setCell ⟨w.heap.size + 1 + 1, 0, none⟩ (.slice (some ⟨g, 0, none⟩) zs.length zs.length) := ⟨_, rfl⟩
  replace bR : Bk W1 (w.heap.size + 1) #[.slice none 0 0, .slice none 0 0] 32 := by rw [hW]; exact bR.other (by omega) _ _
  replace bO : Bk W1 (w.heap.size + 1 + 1) #[.slice (some ⟨g, 0, none⟩) zs.length zs.length, .slice none 0 0] 32 := by rw [hW]; exact bO.set 0 _ rfl
  replace HR : Hid (W1.rowIs g 2 zs.length (cellsOf zs)) := Lib.hid (by rw [hW]; exact HR.out.setOther (by simp; omega) _)
  replace HB1 : Hid (Below w.heap.size w W1) := Lib.hid (by rw [hW]; exact HB1.out.setCell (by simp; omega) _)
  rw [← hW]
  clear hW bA HB
  refine (to_any _ _ _ ys HP.out.ly (HP.out.on HB1.out).sy).mono ?_
  rintro e w2 ⟨h, rfl, hh, hr, hb⟩
  have hgh : g < h := Nat.lt_of_lt_of_le HR.out.lt hh
  have hhO : w.heap.size + 1 + 1 < h := by omega
  replace bR := bR.on hb
  replace bO := bO.on hb
  replace HR := Lib.hid (rowIs_on HR.out hb)
  replace HB1 := Lib.hid (bel_end HB1.out hb)
  have HR2 := Lib.hid hr
  clear hb hr hh
  have fO := bO.frozen 1
  have cO := bO.cell 1 rfl
  have cO0 := bO.cell 0 rfl
  have fR0 := bR.frozen 0
  have fR1 := bR.frozen 1
  have cR0 := bR.cell 0 rfl
  have cR1 := bR.cell 1 rfl
  go_wp2
  exact bodyPost_ret (v := .agg #[.slice (some ⟨g, 0, none⟩) zs.length zs.length, .slice (some ⟨h, 0, none⟩) ys.length ys.length]) (by simp [results, Try.results8, go_sem, cR0, cR1]) rfl
    ⟨g, h, rfl, by omega, hgh, ((HR.out.setOther (by simp; omega) _).setOther (by simp; omega) _).setOther (by simp; omega) _, ((HR2.out.setOther (by simp; omega) _).setOther (by simp; omega) _).setOther (by simp; omega) _, ((HB1.out.setCell (by simp; omega) _).setCell (by simp) _).setCell (by simp) _⟩

theorem eqp_any (w : World) (a b a' b' : Option Addr) (c d c' d' : Nat) (zs ys zs' ys' : List Int) (hp : Prof w w.heap.size a b zs ys) (hq : Prof w w.heap.size a' b' zs' ys') :
    Calls Try.prog 12 #[.agg #[.slice a zs.length c, .slice b ys.length d], .agg #[.slice a' zs'.length c', .slice b' ys'.length d']] w fun e w' => e = .returned (.bool (sameB zs zs' && sameB ys ys')) ∧ Below w.heap.size w w' := by
  have HP := Lib.hid hp
  have HQ := Lib.hid hq
  clear hp hq
  go_enter Try.func12, Try.ntmps12
  go_wp2_with fail
  obtain ⟨W, hW⟩ : ∃ W, W = (w.alloc (.cells #[.slice a zs.length c, .slice b ys.length d] 32)).alloc (.cells #[.slice a' zs'.length c', .slice b' ys'.length d'] 32) := ⟨_, rfl⟩
  have bX : Bk W w.heap.size #[.slice a zs.length c, .slice b ys.length d] 32 := by rw [hW]; exact (Bk.new' rfl).alloc _
  have bY : Bk W (w.heap.size + 1) #[.slice a' zs'.length c', .slice b' ys'.length d'] 32 := by rw [hW]; exact Bk.new' (by simp)
  have HB : Hid (Below w.heap.size w W) := Lib.hid (by rw [hW]; exact (by repeat (first | exact Below.refl _ _ | (refine Below.alloc ?_ (by simp <;> omega) _) | (refine Below.setCell ?_ (by simp <;> omega) _) | (refine Below.drew ?_) | (refine bel_drewN ?_ _))))
  have HP1 := Lib.hid (HP.out.on HB.out)
  have HQ1 := Lib.hid (HQ.out.on HB.out)
  have cX := bX.cell 1 rfl
  have cY := bY.cell 1 rfl
  rw [← hW]
  clear hW bX bY
  have l1 := HP.out.lz
  have l2 := HQ.out.lz
  have l3 := HP.out.ly
  have l4 := HQ.out.ly
  cases h1 : sameB zs zs'
  · have H1 := Lib.hid h1
    clear h1
    refine (eqi_any _ _ _ _ _ _ zs zs' (by omega) (by omega) HP1.out.dz HQ1.out.dz).mono ?_
    rw [H1.out]
    rintro e w1 ⟨rfl, n, rfl⟩
    go_wp2
    go_ret
    exact ⟨ret_bool (by rw [H1.out]; rfl), bel_drewN HB.out _⟩
  · have H1 := Lib.hid h1
    clear h1
    refine (eqi_any _ _ _ _ _ _ zs zs' (by omega) (by omega) HP1.out.dz HQ1.out.dz).mono ?_
    rw [H1.out]
    rintro e w1 ⟨rfl, n, rfl⟩
    go_wp2_with fail
    cases h2 : sameB ys ys'
    all_goals
      have H2 := Lib.hid h2
      clear h2
      refine (eqi_any _ _ _ _ _ _ ys ys' (by omega) (by omega) (HP1.out.sy.drewN n) (HQ1.out.sy.drewN n)).mono ?_
      rw [H2.out]
      rintro e w1 ⟨rfl, n2, rfl⟩
      go_wp2
      go_ret
      exact ⟨ret_bool (by rw [H1.out, H2.out]; rfl), bel_drewN HB.out _⟩
/-- a profile that came in -/
theorem Prof.of_in {w : World} {a b : Option Addr} {m n c d : Nat} {zs ys : List Int} (h : IsRow .i64 w a m c zs) (g : IsRow .i64 w b n d ys) :
    m ≤ 9223372036854775807 ∧ n ≤ 9223372036854775807 ∧ (zs.take m).length = m ∧ (ys.take n).length = n ∧ (m + n ≤ 1048576 → Prof w w.heap.size a b (zs.take m) (ys.take n)) := by
  obtain ⟨h1, h2, h3, _⟩ := Ints.of_row h
  obtain ⟨g1, g2, g3, _⟩ := Ints.of_row g
  exact ⟨h1, g1, h2, g2, fun e => ⟨h3, g3, by omega, by omega⟩⟩
theorem szP_big {m n : Nat} (h : 1048576 < m + n) : szP m n = -1 := by unfold szP; rw [if_pos h]
theorem szP_fit {m n : Nat} (h : ¬ 1048576 < m + n) : 0 ≤ szP m n := by unfold szP; rw [if_neg h]; omega
theorem same_self (zs ys : List Int) : (sameB zs zs && sameB ys ys) = true := by rw [sameB_t rfl, sameB_t rfl]; rfl
end Go.Proofs.Ytkjpjhklnaehbab
