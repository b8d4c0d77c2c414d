/- Contracts of slices.Min and slices.Max at a list of integers that is not empty, and of slices.ContainsFunc at the method value 'lacks' of an interval. -/
import Derived.Test.YtcaekheghjnipabDoorMem
import Derived.Test.YtcaekheghjnipabDoorIvl
import Derived.LoopTactic
import Derived.Outline
namespace Go.Proofs.YtcaekheghjnipabDoor
open Go.ChangeShapes Go.WideShapes Go.ChangeAt Go.RowKit
set_option linter.unusedVariables false
/-- the least, the greatest of the first k + 1 elements -/
def mnTo (zs : List Int) : Nat → Int | 0 => zs.getD 0 0 | k + 1 => if zs.getD (k + 1) 0 < mnTo zs k then zs.getD (k + 1) 0 else mnTo zs k
def mxTo (zs : List Int) : Nat → Int | 0 => zs.getD 0 0 | k + 1 => if mxTo zs k < zs.getD (k + 1) 0 then zs.getD (k + 1) 0 else mxTo zs k
theorem mnTo_succ (zs : List Int) (k : Nat) : mnTo zs (k + 1) = if zs.getD (k + 1) 0 < mnTo zs k then zs.getD (k + 1) 0 else mnTo zs k := rfl
theorem mxTo_succ (zs : List Int) (k : Nat) : mxTo zs (k + 1) = if mxTo zs k < zs.getD (k + 1) 0 then zs.getD (k + 1) 0 else mxTo zs k := rfl

/-- an element lies outside of the interval -/
def anyLack (lo hi : Int) (zs : List Int) : Bool := zs.any fun x => !hasB lo hi x
theorem anyLack_t {lo hi : Int} {zs : List Int} {k : Nat} (hk : k < zs.length) (h : hasB lo hi (zs.getD k 0) = false) : anyLack lo hi zs = true := by
  unfold anyLack
  rw [List.any_eq_true]
  rw [List.getD_eq_getElem?_getD, List.getElem?_eq_getElem hk] at h
  exact ⟨zs[k], List.getElem_mem hk, by simpa using h⟩
theorem anyLack_f {lo hi : Int} {zs : List Int} (h : ∀ k, k < zs.length → hasB lo hi (zs.getD k 0) = true) : anyLack lo hi zs = false := by
  unfold anyLack
  rw [List.any_eq_false]
  intro x hx
  obtain ⟨k, hk, rfl⟩ := List.getElem_of_mem hx
  have := h k hk
  rw [List.getD_eq_getElem?_getD, List.getElem?_eq_getElem hk] at this
  simpa using this
/-- what the search for an element outside leaves -/
def IxPost (w : World) (b : Bool) (e : Ending) (w' : World) : Prop := ∃ i : Int, e = .returned (.int .i64 i) ∧ decide (0 ≤ i) = b ∧ Below w.heap.size w w'
theorem ixl_any (w : World) (a : Option Addr) (cap : Nat) (zs : List Int) (lo hi : Int) (hl : zs.length ≤ 9223372036854775807) (hz : Ints .i64 w w.heap.size a zs) :
    Calls Tryd.prog 55 #[.slice a zs.length cap, .func (.func 43) #[.agg #[.int .i64 lo, .int .i64 hi]] #[]] w (IxPost w (anyLack lo hi zs)) := by
  go_enter Tryd.func55, Tryd.ntmps55
  go_wp2
  go_loopw [8] (fun i wr => ∃ k : Nat, k ≤ zs.length ∧ i = .int .i64 k ∧ Below w.heap.size w wr ∧ ∀ j, j < k → hasB lo hi (zs.getD j 0) = true) (fun i _ => zs.length - (intOf i).toNat)
  case atStart => exact ⟨0, by omega, rfl, Below.refl _ _, fun j hj => by omega⟩
  case round =>
    obtain ⟨k, hk, rfl, hb, hr⟩ := hrel
    have HR := Lib.hid hr
    clear hr
    by_cases hlt : k < zs.length
    · obtain ⟨b, off, rfl, hB, hc⟩ := hz.at_ hlt
      have hc1 := (hb.cell (p := ⟨b, off + k, none⟩) hB).trans hc
      have HB := Lib.hid hb
      clear hb hc
      obtain ⟨x, hx⟩ : ∃ x, zs.getD k 0 = x := ⟨_, rfl⟩
      rw [hx] at hc1
      have HX := Lib.hid hx
      clear hx
      cases hh : hasB lo hi x
      · go_wp2_with (go_at_call 43; refine (lacks_any _ _ _ _).mono ?_; rw [hh]; rintro e w' ⟨rfl, rfl⟩)
        go_ret
        exact ⟨(k : Int), rfl, by rw [anyLack_t hlt (by rw [HX.out]; exact hh)]; simp, bel_end HB.out (by repeat (first | exact Below.refl _ _ | (refine Below.alloc ?_ (by simp <;> omega) _) | (refine Below.setCell ?_ (by simp <;> omega) _) | (refine Below.drew ?_) | (refine bel_drewN ?_ _)))⟩
      · go_wp2_with (go_at_call 43; refine (lacks_any _ _ _ _).mono ?_; rw [hh]; rintro e w' ⟨rfl, rfl⟩)
        go_roundw
        case rel => exact ⟨k + 1, by omega, by go_num, bel_end HB.out (by repeat (first | exact Below.refl _ _ | (refine Below.alloc ?_ (by simp <;> omega) _) | (refine Below.setCell ?_ (by simp <;> omega) _) | (refine Below.drew ?_) | (refine bel_drewN ?_ _))), fun j hj => by
          by_cases hjk : j < k
          · exact HR.out j hjk
          · obtain rfl : j = k := by omega
            rw [HX.out]; exact hh⟩
        case measure => simp [intOf]; omega
    · go_wp2
      go_ret
      exact ⟨-1, rfl, by rw [anyLack_f (fun j hj => HR.out j (by omega))]; rfl, hb⟩
theorem cfl_any (w : World) (a : Option Addr) (cap : Nat) (zs : List Int) (lo hi : Int) (hl : zs.length ≤ 9223372036854775807) (hz : Ints .i64 w w.heap.size a zs) :
    Calls Tryd.prog 42 #[.slice a zs.length cap, .func (.func 43) #[.agg #[.int .i64 lo, .int .i64 hi]] #[]] w fun e w' => e = .returned (.bool (anyLack lo hi zs)) ∧ Below w.heap.size w w' := by
  go_enter Tryd.func42, Tryd.ntmps42
  go_wp2_with fail
  refine (ixl_any _ _ _ zs lo hi hl hz).mono ?_
  rintro e w' ⟨i, rfl, hi, hb⟩
  have HI := Lib.hid hi
  have HB := Lib.hid hb
  clear hi hb
  go_wp2
  go_ret
  exact ⟨ret_bool HI.out, HB.out⟩
end Go.Proofs.YtcaekheghjnipabDoor
