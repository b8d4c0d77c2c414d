/- Contracts of IsRising, the program's and the model's. Contracts of slices.Min and slices.Max at a list of integers that is not empty, and of slices.ContainsFunc at the method value 'lacks' of an interval. Profiles: two slices of numbers, depths and speeds, in the memory; when a profile is valid; contracts of IsProfile, the program's and the model's. The knots of a profile, produced by a function that is ranged over: contracts of a knot, of the maker, and of the iterator. Rows of numbers of one's own: kept over calls, read. Contracts of the laws' own helpers on profiles: their size, their copy in new memory, their comparison. -/
import Derived.Test.YtlahgdhofakinaaBas
import Derived.LoopTactic
import Derived.Deep.QuietTactic
import Derived.BigQuiet
import Derived.Outline
import Derived.RangeFuncNested
import Derived.RangeFuncBound
import Derived.RangeFuncCalls
import Derived.RangeFuncLeaves
import Derived.Shelf.Abstract
import Derived.Shelf.RegionOpen
import Derived.OwnWalkIn
import Derived.TacticsInMore
import Derived.LoopNIn
import Derived.LoopIn
import Derived.StillTailTactics
import Derived.OwnWalk
import Derived.Laws.OwnMore
namespace Go.Proofs.Ytlahgdhofakinaa
open Go.ChangeShapes Go.WideShapes Go.ChangeAt Go.RowKit Num
set_option linter.unusedVariables false
/-- strictly increasing, all elements from 0 to n - 1 -/
def risP (zs : List Int) (n : Int) (i : Nat) : Prop := 0 ≤ zs.getD i 0 ∧ zs.getD i 0 < n ∧ (0 < i → zs.getD (i - 1) 0 < zs.getD i 0)
instance (zs : List Int) (n : Int) (i : Nat) : Decidable (risP zs n i) := by unfold risP; infer_instance
def risB (zs : List Int) (n : Int) : Bool := decide (∀ i, i < zs.length → risP zs n i)
theorem risB_t {zs : List Int} {n : Int} (h : ∀ i, i < zs.length → risP zs n i) : risB zs n = true := by unfold risB; exact decide_eq_true h
theorem risB_f {zs : List Int} {n : Int} {k : Nat} (hk : k < zs.length) (h : ¬ risP zs n k) : risB zs n = false := by
  unfold risB; exact decide_eq_false (fun g => h (g k hk))

end Go.Proofs.Ytlahgdhofakinaa
namespace Go.Proofs.Ytlahgdhofakinaa
open Go.ChangeShapes Go.WideShapes Go.ChangeAt Go.RowKit
set_option linter.unusedVariables false
/-- the least, the greatest of the first k + 1 elements -/
def mnTo (zs : List Int) : Nat → Int | 0 => zs.getD 0 0 | k + 1 => if zs.getD (k + 1) 0 < mnTo zs k then zs.getD (k + 1) 0 else mnTo zs k
def mxTo (zs : List Int) : Nat → Int | 0 => zs.getD 0 0 | k + 1 => if mxTo zs k < zs.getD (k + 1) 0 then zs.getD (k + 1) 0 else mxTo zs k
theorem mnTo_succ (zs : List Int) (k : Nat) : mnTo zs (k + 1) = if zs.getD (k + 1) 0 < mnTo zs k then zs.getD (k + 1) 0 else mnTo zs k := rfl
theorem mxTo_succ (zs : List Int) (k : Nat) : mxTo zs (k + 1) = if mxTo zs k < zs.getD (k + 1) 0 then zs.getD (k + 1) 0 else mxTo zs k := rfl

/-- an element lies outside of the interval -/
def anyLack (lo hi : Int) (zs : List Int) : Bool := zs.any fun x => !hasB lo hi x
theorem anyLack_t {lo hi : Int} {zs : List Int} {k : Nat} (hk : k < zs.length) (h : hasB lo hi (zs.getD k 0) = false) : anyLack lo hi zs = true := by
  unfold anyLack
  rw [List.any_eq_true]
  rw [List.getD_eq_getElem?_getD, List.getElem?_eq_getElem hk] at h
  exact ⟨zs[k], List.getElem_mem hk, by simpa using h⟩
theorem anyLack_f {lo hi : Int} {zs : List Int} (h : ∀ k, k < zs.length → hasB lo hi (zs.getD k 0) = true) : anyLack lo hi zs = false := by
  unfold anyLack
  rw [List.any_eq_false]
  intro x hx
  obtain ⟨k, hk, rfl⟩ := List.getElem_of_mem hx
  have := h k hk
  rw [List.getD_eq_getElem?_getD, List.getElem?_eq_getElem hk] at this
  simpa using this
/-- what the search for an element outside leaves -/
def IxPost (w : World) (b : Bool) (e : Ending) (w' : World) : Prop := ∃ i : Int, e = .returned (.int .i64 i) ∧ decide (0 ≤ i) = b ∧ Below w.heap.size w w'
theorem ixl_any (w : World) (a : Option Addr) (cap : Nat) (zs : List Int) (lo hi : Int) (hl : zs.length ≤ 9223372036854775807) (hz : Ints .i64 w w.heap.size a zs) :
    Calls Try.prog 122 #[.slice a zs.length cap, .func (.func 112) #[.agg #[.int .i64 lo, .int .i64 hi]] #[]] w (IxPost w (anyLack lo hi zs)) := by
  go_enter Try.func122, Try.ntmps122
  go_wp2
  go_loopw [8] (fun i wr => ∃ k : Nat, k ≤ zs.length ∧ i = .int .i64 k ∧ Below w.heap.size w wr ∧ ∀ j, j < k → hasB lo hi (zs.getD j 0) = true) (fun i _ => zs.length - (intOf i).toNat)
  case atStart => exact ⟨0, by omega, rfl, Below.refl _ _, fun j hj => by omega⟩
  case round =>
    obtain ⟨k, hk, rfl, hb, hr⟩ := hrel
    have HR := Lib.hid hr
    clear hr
    by_cases hlt : k < zs.length
    · obtain ⟨b, off, rfl, hB, hc⟩ := hz.at_ hlt
      have hc1 := (hb.cell (p := ⟨b, off + k, none⟩) hB).trans hc
      have HB := Lib.hid hb
      clear hb hc
      obtain ⟨x, hx⟩ : ∃ x, zs.getD k 0 = x := ⟨_, rfl⟩
      rw [hx] at hc1
      have HX := Lib.hid hx
      clear hx
      cases hh : hasB lo hi x
      · go_wp2_with (go_at_call 112; refine (lacks_any _ _ _ _).mono ?_; rw [hh]; rintro e w' ⟨rfl, rfl⟩)
        go_ret
        exact ⟨(k : Int), rfl, by rw [anyLack_t hlt (by rw [HX.out]; exact hh)]; simp, bel_end HB.out (by repeat (first | exact Below.refl _ _ | (refine Below.alloc ?_ (by simp <;> omega) _) | (refine Below.setCell ?_ (by simp <;> omega) _) | (refine Below.drew ?_) | (refine bel_drewN ?_ _)))⟩
      · go_wp2_with (go_at_call 112; refine (lacks_any _ _ _ _).mono ?_; rw [hh]; rintro e w' ⟨rfl, rfl⟩)
        go_roundw
        case rel => exact ⟨k + 1, by omega, by go_num, bel_end HB.out (by repeat (first | exact Below.refl _ _ | (refine Below.alloc ?_ (by simp <;> omega) _) | (refine Below.setCell ?_ (by simp <;> omega) _) | (refine Below.drew ?_) | (refine bel_drewN ?_ _))), fun j hj => by
          by_cases hjk : j < k
          · exact HR.out j hjk
          · obtain rfl : j = k := by omega
            rw [HX.out]; exact hh⟩
        case measure => simp [intOf]; omega
    · go_wp2
      go_ret
      exact ⟨-1, rfl, by rw [anyLack_f (fun j hj => HR.out j (by omega))]; rfl, hb⟩
theorem cfl_any (w : World) (a : Option Addr) (cap : Nat) (zs : List Int) (lo hi : Int) (hl : zs.length ≤ 9223372036854775807) (hz : Ints .i64 w w.heap.size a zs) :
    Calls Try.prog 111 #[.slice a zs.length cap, .func (.func 112) #[.agg #[.int .i64 lo, .int .i64 hi]] #[]] w fun e w' => e = .returned (.bool (anyLack lo hi zs)) ∧ Below w.heap.size w w' := by
  go_enter Try.func111, Try.ntmps111
  go_wp2_with fail
  refine (ixl_any _ _ _ zs lo hi hl hz).mono ?_
  rintro e w' ⟨i, rfl, hi, hb⟩
  have HI := Lib.hid hi
  have HB := Lib.hid hb
  clear hi hb
  go_wp2
  go_ret
  exact ⟨ret_bool HI.out, HB.out⟩
end Go.Proofs.Ytlahgdhofakinaa
namespace Go.Proofs.Ytlahgdhofakinaa
open Go.ChangeShapes Go.WideShapes Go.ChangeAt Go.RowKit Num
set_option linter.unusedVariables false
/-- depths and speeds in the memory -/
structure Prof (w : World) (B : Nat) (a b : Option Addr) (zs ys : List Int) : Prop where
  dz : Ints .i64 w B a zs
  sy : Ints .i64 w B b ys
  lz : zs.length ≤ 1048576
  ly : ys.length ≤ 1048576
theorem Prof.below {w w' : World} {B : Nat} {a b : Option Addr} {zs ys : List Int} (h : Prof w B a b zs ys) (hb : Below B w w') : Prof w' B a b zs ys := ⟨h.dz.below hb, h.sy.below hb, h.lz, h.ly⟩
theorem Prof.more {w : World} {B B' : Nat} {a b : Option Addr} {zs ys : List Int} (h : Prof w B a b zs ys) (hb : B ≤ B') : Prof w B' a b zs ys := ⟨h.dz.more hb, h.sy.more hb, h.lz, h.ly⟩
/-- behind a call that leaves all old blocks alone -/
theorem Prof.on {w w' : World} {a b : Option Addr} {zs ys : List Int} (h : Prof w w.heap.size a b zs ys) (hb : Below w.heap.size w w') : Prof w' w'.heap.size a b zs ys := (h.below hb).more hb.size
/-- a cell, a mark, behind a call that leaves all old blocks alone -/
theorem kc1 {W w2 : World} {m o : Nat} {v0 : Value} (c0 : W.cell? ⟨m, o, none⟩ = some v0) (h : Below W.heap.size W w2) : w2.cell? ⟨m, o, none⟩ = some v0 := (h.cell (p := ⟨m, o, none⟩) (World.block_lt_of_cell? W _ c0)).trans c0
theorem kcf {W w2 : World} {m o : Nat} {v0 : Value} {b : Bool} (f0 : W.frozen? ⟨m, o, none⟩ = b) (c0 : W.cell? ⟨m, o, none⟩ = some v0) (h : Below W.heap.size W w2) : w2.frozen? ⟨m, o, none⟩ = b := (h.frozen (p := ⟨m, o, none⟩) (World.block_lt_of_cell? W _ c0)).trans f0
/-- the profile as a value -/
def pfV (a b : Option Addr) (zs ys : List Int) (c d : Nat) : Value := .agg #[.slice a zs.length c, .slice b ys.length d]
/-- valid depths and speeds -/
def prfP (zs ys : List Int) : Prop := 2 ≤ zs.length ∧ zs.length ≤ 12 ∧ ys.length = zs.length ∧ risB zs 1000001 = true ∧ zs.getD 0 0 = 0 ∧ anyLack 1300000 1700000 ys = false
instance (zs ys : List Int) : Decidable (prfP zs ys) := by unfold prfP; infer_instance
def prfB (zs ys : List Int) : Bool := decide (prfP zs ys)
theorem prfB_t {zs ys : List Int} (h : prfP zs ys) : prfB zs ys = true := by unfold prfB; exact decide_eq_true h
theorem prfB_f {zs ys : List Int} (h : ¬ prfP zs ys) : prfB zs ys = false := by unfold prfB; exact decide_eq_false h
theorem prfB_p {zs ys : List Int} (h : prfB zs ys = true) : prfP zs ys := by unfold prfB at h; exact of_decide_eq_true h
theorem anyLack_at {lo hi : Int} {zs : List Int} (h : anyLack lo hi zs = false) {k : Nat} (hk : k < zs.length) : lo ≤ zs.getD k 0 ∧ zs.getD k 0 ≤ hi := by
  cases hh : hasB lo hi (zs.getD k 0)
  · rw [anyLack_t hk hh] at h; cases h
  · unfold hasB at hh
    simp only [Bool.and_eq_true, decide_eq_true_eq] at hh
    exact hh
/-- what is known of a valid profile -/
structure Okp (zs ys : List Int) : Prop where
  n2 : 2 ≤ zs.length
  n12 : zs.length ≤ 12
  len : ys.length = zs.length
  lo : ∀ j, 0 ≤ zs.getD j 0
  hi : ∀ j, zs.getD j 0 ≤ 1000000
  step : ∀ j, j + 1 < zs.length → zs.getD j 0 < zs.getD (j + 1) 0
  zero : zs.getD 0 0 = 0
  slo : ∀ j, j < zs.length → 1300000 ≤ ys.getD j 0
  shi : ∀ j, ys.getD j 0 ≤ 1700000
  sge : ∀ j, 0 ≤ ys.getD j 0
theorem getD_out {zs : List Int} {j : Nat} (h : zs.length ≤ j) : zs.getD j 0 = 0 := by
  rw [List.getD_eq_getElem?_getD, List.getElem?_eq_none h]; rfl
theorem Okp.of {zs ys : List Int} (h : prfB zs ys = true) : Okp zs ys := by
  obtain ⟨h1, h2, h3, h4, h5, h6⟩ := prfB_p h
  have hr : ∀ i, i < zs.length → risP zs 1000001 i := by unfold risB at h4; exact of_decide_eq_true h4
  refine ⟨h1, h2, h3, fun j => ?_, fun j => ?_, fun j hj => ?_, h5, fun j hj => (anyLack_at h6 (by omega)).1, fun j => ?_, fun j => ?_⟩
  · rcases Nat.lt_or_ge j zs.length with hj | hj
    · exact (hr j hj).1
    · rw [getD_out hj]; omega
  · rcases Nat.lt_or_ge j zs.length with hj | hj
    · have := (hr j hj).2.1; omega
    · rw [getD_out hj]; omega
  · have := (hr (j + 1) hj).2.2 (by omega); rwa [Nat.add_sub_cancel] at this
  · rcases Nat.lt_or_ge j ys.length with hj | hj
    · exact (anyLack_at h6 hj).2
    · rw [getD_out hj]; omega
  · rcases Nat.lt_or_ge j ys.length with hj | hj
    · have := (anyLack_at h6 hj).1; omega
    · rw [getD_out hj]; omega
theorem Okp.mono {zs ys : List Int} (h : Okp zs ys) {i : Nat} : ∀ j, i < j → j < zs.length → zs.getD i 0 < zs.getD j 0
  | 0, hi, _ => by omega
  | j + 1, hi, hj => by
    have hs := h.step j hj
    rcases Nat.lt_or_ge i j with hlt | hge
    · have := Okp.mono h j hlt (by omega); omega
    · obtain rfl : i = j := by omega
      exact hs

theorem inB_hasB (x lo hi : Int) : inB x lo hi = hasB lo hi x := by
  unfold inB hasB
  rw [Bool.eq_iff_iff]
  simp

theorem lwi_any (w : World) (a : Option Addr) (cap : Nat) (zs : List Int) (m lo hi : Int) (hl : zs.length ≤ 1048576) (hz : Ints .i64 w w.heap.size a zs) :
    Calls Try.prog 95 #[.slice a zs.length cap, .int .i64 m, .int .i64 lo, .int .i64 hi] w fun e w' => e = .returned (.bool (!anyLack lo hi zs && decide ((zs.length : Int) ≤ m))) ∧ w = w' := by
  go_enter Try.func95, Try.ntmps95
  go_wp2
  go_loop [9] (fun i => ∃ k : Nat, k ≤ zs.length ∧ i = .int .i64 k ∧ ∀ j, j < k → hasB lo hi (zs.getD j 0) = true) (fun i => zs.length - (intOf i).toNat)
  case atStart => exact ⟨0, by omega, rfl, fun j hj => by omega⟩
  case round =>
    obtain ⟨k, hk, rfl, hr⟩ := hrel
    have HR := Lib.hid hr
    clear hr
    by_cases hlt : k < zs.length
    · obtain ⟨b, off, rfl, hB, hc⟩ := hz.at_ hlt
      obtain ⟨x, hx⟩ : ∃ x, zs.getD k 0 = x := ⟨_, rfl⟩
      rw [hx] at hc
      have HX := Lib.hid hx
      clear hx
      cases hh : hasB lo hi x
      · go_wp2_with (go_at_call 106; refine (lin_any _ _ _ _).mono ?_; rw [show inB x lo hi = false from hh ▸ inB_hasB x lo hi]; rintro e w' ⟨rfl, rfl⟩)
        go_ret
        exact ⟨ret_bool (by rw [anyLack_t hlt (by rw [HX.out]; exact hh)]; rfl), rfl⟩
      · go_wp2_with (go_at_call 106; refine (lin_any _ _ _ _).mono ?_; rw [show inB x lo hi = true from hh ▸ inB_hasB x lo hi]; rintro e w' ⟨rfl, rfl⟩)
        go_round
        case rel => exact ⟨k + 1, by omega, by go_num, fun j hj => by
          by_cases hjk : j < k
          · exact HR.out j hjk
          · obtain rfl : j = k := by omega
            rw [HX.out]; exact hh⟩
        case measure => simp [intOf]; omega
    · go_wp2
      go_ret
      exact ⟨ret_bool (by rw [anyLack_f (fun j hj => HR.out j (by omega))]; rfl), rfl⟩

end Go.Proofs.Ytlahgdhofakinaa
namespace Go.Proofs.Ytlahgdhofakinaa
open Go.ChangeShapes Go.WideShapes Go.ChangeAt Go.RowKit Go.Shelf Num
set_option linter.unusedVariables false
attribute [local go_sem] Oper.semAt_some

/-- a knot as the loop is handed it -/
def knE (zs ys : List Int) (x : Nat) : Array Value := #[.int .i64 (x : Int), .agg #[.int .i64 (zs.getD x 0), .int .i64 (ys.getD x 0)]]
/-- a block of cells, whole -/
def Bk (W : World) (B : Nat) (cs : Array Value) (t : TypeId) : Prop := W.heap[B]? = some (.cells cs t (0, 0))
theorem Bk.lt {W : World} {B : Nat} {cs : Array Value} {t : TypeId} (h : Bk W B cs t) : B < W.heap.size := (Array.getElem?_eq_some_iff.1 h).1
theorem Bk.cell {W : World} {B : Nat} {cs : Array Value} {t : TypeId} (h : Bk W B cs t) (i : Nat) {v : Value} (e : cs[i]? = some v) : W.cell? ⟨B, i, none⟩ = some v := by simp [World.cell?, show W.heap[B]? = _ from h, e]
theorem Bk.frozen {W : World} {B : Nat} {cs : Array Value} {t : TypeId} (h : Bk W B cs t) (i : Nat) : W.frozen? ⟨B, i, none⟩ = false := by simp [World.frozen?, show W.heap[B]? = _ from h]
theorem Bk.new (W : World) (cs : Array Value) (t : TypeId) : Bk (W.alloc (.cells cs t)) W.heap.size cs t := World.alloc_heap_new W _
theorem Bk.new' {W : World} {n : Nat} {cs : Array Value} {t : TypeId} (hn : n = W.heap.size) : Bk (W.alloc (.cells cs t)) n cs t := by subst hn; exact Bk.new W cs t
theorem Bk.kept {W W' : World} {row : Option Nat} {B : Nat} {cs : Array Value} {t : TypeId} (h : Bk W B cs t) (hg : W.grownBy W' row) (hne : some B ≠ row) : Bk W' B cs t := (hg.block B h.lt hne).trans h
theorem Bk.alloc {W : World} {B : Nat} {cs : Array Value} {t : TypeId} (h : Bk W B cs t) (o : Obj) : Bk (W.alloc o) B cs t := h.kept (World.grownBy_alloc W o none) (by simp)
theorem Bk.on {W W' : World} {B : Nat} {cs : Array Value} {t : TypeId} (h : Bk W B cs t) (hb : Below W.heap.size W W') : Bk W' B cs t := (hb.block B h.lt).trans h
theorem Bk.set {W : World} {B : Nat} {cs cs' : Array Value} {t : TypeId} (h : Bk W B cs t) (i : Nat) (v : Value) (e : cs.setIfInBounds i v = cs') : Bk (W.setCell ⟨B, i, none⟩ v) B cs' t := by
  subst e; exact heap_setCell_same W B i _ _ _ h
theorem Bk.other {W : World} {B B' : Nat} {cs : Array Value} {t : TypeId} (h : Bk W B cs t) (hne : B ≠ B') (i : Nat) (u : Value) : Bk (W.setCell ⟨B', i, none⟩ u) B cs t := (Below.heap_setCell W ⟨B', i, none⟩ u B hne).trans h
/-- blocks that were laid ahead of a call lie behind it -/
theorem nk1 {W wA : World} {z y : Value} {t : TypeId} (hb : Below (W.alloc (.cells #[z, y] t)).heap.size (W.alloc (.cells #[z, y] t)) wA) : Bk wA W.heap.size #[z, y] t := (Bk.new W _ _).on hb
theorem nk2 {W wA : World} {z y z' y' : Value} {t t' : TypeId} (hb : Below ((W.alloc (.cells #[z, y] t)).alloc (.cells #[z', y'] t')).heap.size ((W.alloc (.cells #[z, y] t)).alloc (.cells #[z', y'] t')) wA) : Bk wA W.heap.size #[z, y] t ∧ Bk wA (W.heap.size + 1) #[z', y'] t' :=
  ⟨((Bk.new W _ _).alloc _).on hb, (Bk.new' (by simp)).on hb⟩
theorem nk1d {W wA : World} {z y : Value} {t : TypeId} (hb : Below (W.alloc (.cells #[z, y] t)).drew.heap.size (W.alloc (.cells #[z, y] t)).drew wA) : Bk wA W.heap.size #[z, y] t := Bk.on (W := (W.alloc (.cells #[z, y] t)).drew) (Bk.new W _ _) hb
theorem nk2d {W wA : World} {z y z' y' : Value} {t t' : TypeId} (hb : Below ((W.alloc (.cells #[z, y] t)).alloc (.cells #[z', y'] t')).drew.heap.size ((W.alloc (.cells #[z, y] t)).alloc (.cells #[z', y'] t')).drew wA) : Bk wA W.heap.size #[z, y] t ∧ Bk wA (W.heap.size + 1) #[z', y'] t' :=
  ⟨Bk.on (W := ((W.alloc (.cells #[z, y] t)).alloc (.cells #[z', y'] t')).drew) ((Bk.new W _ _).alloc _) hb, Bk.on (W := ((W.alloc (.cells #[z, y] t)).alloc (.cells #[z', y'] t')).drew) (Bk.new' (by simp)) hb⟩
theorem ck1 {wA wB : World} {o : Obj} {B : Nat} {cs : Array Value} {t : TypeId} (hb : Below (wA.alloc o).heap.size (wA.alloc o) wB) (h : Bk wA B cs t) : Bk wB B cs t := (h.alloc o).on hb
theorem Bk.drew {W : World} {B : Nat} {cs : Array Value} {t : TypeId} (h : Bk W B cs t) : Bk W.drew B cs t := h
theorem Bk.own {β : Type} (B : Nat) (f : β → Array Value) (t : TypeId) : Own (fun (s : β) W => Bk W B (f s) t) := fun s X Y row hs hg hrow =>
  hs.kept hg (fun e' => by obtain ⟨o, ho, hc⟩ := hrow B e'.symm; rw [show X.heap[B]? = _ from hs] at ho; cases ho; cases hc)
/-- what a round keeps: whatever lay below n₀, and the box of the profile -/
def KpB (n₀ Bp : Nat) (W W' : World) : Prop := Below n₀ W W' ∧ W'.heap[Bp]? = W.heap[Bp]?
theorem KpB.refl (n₀ Bp : Nat) (W : World) : KpB n₀ Bp W W := ⟨Below.refl _ _, rfl⟩
theorem kpB_t {n₀ Bp : Nat} {A B C : World} (h : KpB n₀ Bp A B) (k : KpB n₀ Bp B C) : KpB n₀ Bp A C := ⟨h.1.trans k.1, k.2.trans h.2⟩
theorem kpB_b {n₀ Bp : Nat} {w : World} (hn : n₀ ≤ w.heap.size) (hB : Bp < w.heap.size) (W : World) (l : Nat) (o o' : Obj) (hl : w.heap.size ≤ l) (h : W.heap[l]? = some o) (h1 : o.isCells = false) (h2 : o.isWalk = false) : KpB n₀ Bp W (W.putObj l o') :=
  ⟨belowK_b hn W l o o' hl h h1 h2, World.putObj_heap_other (by omega)⟩
theorem KpB.of {n₀ Bp : Nat} {W W' : World} (h : Below W.heap.size W W') (hn : n₀ ≤ W.heap.size) (hB : Bp < W.heap.size) : KpB n₀ Bp W W' := ⟨h.mono hn, h.block Bp hB⟩
theorem KpB.cell {n₀ Bp o : Nat} {W W' : World} (h : KpB n₀ Bp W W') : W'.cell? ⟨Bp, o, none⟩ = W.cell? ⟨Bp, o, none⟩ := World.cell?_of_block (a := ⟨Bp, o, none⟩) h.2
theorem KpB.set {n₀ Bp : Nat} (W : World) (B i : Nat) (v : Value) (hn : n₀ ≤ B) (hne : Bp ≠ B) : KpB n₀ Bp W (W.setCell ⟨B, i, none⟩ v) := ⟨(Below.refl _ W).setCell (p := ⟨B, i, none⟩) hn _, Below.heap_setCell W ⟨B, i, none⟩ v Bp hne⟩
theorem grown_none {w w' : World} (h : Below w.heap.size w w') : w.grownBy w' none := ⟨h.os, h.tape, h.output, h.size, fun k hk _ => h.block k hk⟩

end Go.Proofs.Ytlahgdhofakinaa
namespace Go.Proofs.Ytlahgdhofakinaa
open Go.ChangeShapes Go.WideShapes Go.ChangeAt Go.RowKit Go.Shelf
set_option linter.unusedVariables false
def iv4 (n : Int) : Value := .int .i64 n
theorem own_bel {w w' : World} {B k n : Nat} {e : TypeId} {v : Value} {xs : List Value} (h : w.ownsRow B e k v n xs) (hb : Below w.heap.size w w') : w'.ownsRow B e k v n xs := h.kept (grown_none hb) (by
  cases hv : v.ownBlock with
  | none => exact Or.inl rfl
  | some x => exact Or.inr (by simp))
theorem own_caps {w : World} {B n c : Nat} {a : Option Addr} {e : TypeId} {xs : List Value} (h : w.ownsRow B e 1 (.slice a n c) n xs) : n ≤ c := by
  rcases h.2 with ⟨h', h0⟩ | ⟨g, cap, cur, h', _, _, hle, _⟩
  · omega
  · simp only [Value.slice.injEq] at h'; omega
theorem own_ints {w : World} {B c : Nat} {a : Option Addr} {L : List Int} (h : w.ownsRow B 2 1 (.slice a L.length c) L.length (L.map iv4)) : Ints .i64 w w.heap.size a L := fun hp => by
  rcases h.2 with ⟨h', h0⟩ | ⟨g, cap, cur, h', hb, hg, hle, _⟩
  · omega
  · simp only [Value.slice.injEq] at h'
    obtain ⟨rfl, -, rfl⟩ := h'
    refine ⟨g, 0, rfl, (h.lt g (by simp [Value.ownBlock])).2, fun j hj => ?_⟩
    rw [Nat.zero_add, h.cellAt j (by omega), List.getElem?_map, List.getElem?_eq_getElem hj, List.getD_eq_getElem?_getD, List.getElem?_eq_getElem hj]
    rfl
end Go.Proofs.Ytlahgdhofakinaa
namespace Go.Proofs.Ytlahgdhofakinaa
open Go.ChangeShapes Go.WideShapes Go.ChangeAt Go.RowKit Go.Shelf Num
set_option linter.unusedVariables false
theorem Prof.drew {w : World} {B : Nat} {a b : Option Addr} {zs ys : List Int} (h : Prof w B a b zs ys) : Prof w.drew B a b zs ys := ⟨h.dz, h.sy, h.lz, h.ly⟩

theorem szi_any (w : World) (a : Option Addr) (c n : Nat) (x : Int) (hx : -1 ≤ x) (hx2 : x ≤ 1048576) (hn : n ≤ 9223372036854775807) :
    Calls Try.prog 96 #[.slice a n c, .int .i64 x] w fun e w' => e = .returned (.int .i64 (if x - (n : Int) < 0 then -1 else x - (n : Int))) ∧ w = w' := by
  have hw : IntKind.wrap .i64 (x - (n : Int)) = x - (n : Int) := IntWalk.i64_in _ (by omega)
  by_cases h : x - (n : Int) < 0
  · go_enter Try.func96, Try.ntmps96
    go_wp2
    go_ret
    exact ⟨ret_int (by first | rfl | rw [if_pos h]), rfl⟩
  · go_enter Try.func96, Try.ntmps96
    go_wp2
    go_ret
    exact ⟨ret_int (by first | rfl | rw [if_neg h]), rfl⟩
/-- what is left of the size -/
def szP (m n : Nat) : Int := if 1048576 < m + n then -1 else 1048576 - (m : Int) - (n : Int)
/-- a profile in new memory of its own -/
def NewProf (w : World) (zs ys : List Int) (e : Ending) (w' : World) : Prop :=
  ∃ g h, e = .returned (.agg #[.slice (some ⟨g, 0, none⟩) zs.length zs.length, .slice (some ⟨h, 0, none⟩) ys.length ys.length]) ∧ w.heap.size ≤ g ∧ g < h ∧ w'.rowIs g 2 zs.length (cellsOf zs) ∧ w'.rowIs h 2 ys.length (cellsOf ys) ∧ Below w.heap.size w w'
theorem Prof.of_rows {w : World} {g h : Nat} {t : TypeId} {zs ys : List Int} (h1 : w.rowIs g t zs.length (cellsOf zs)) (h2 : w.rowIs h t ys.length (cellsOf ys)) (lz : zs.length ≤ 1048576) (ly : ys.length ≤ 1048576) : Prof w w.heap.size (some ⟨g, 0, none⟩) (some ⟨h, 0, none⟩) zs ys :=
  ⟨Ints.of_rowIs h1, Ints.of_rowIs h2, lz, ly⟩
theorem rowIs_on {w w' : World} {g : Nat} {t : TypeId} {n : Nat} {f : Nat → Value} (h : w.rowIs g t n f) (hb : Below w.heap.size w w') : w'.rowIs g t n f := h.of_block (hb.block g h.lt)

/-- a profile that came in -/
theorem Prof.of_in {w : World} {a b : Option Addr} {m n c d : Nat} {zs ys : List Int} (h : IsRow .i64 w a m c zs) (g : IsRow .i64 w b n d ys) :
    m ≤ 9223372036854775807 ∧ n ≤ 9223372036854775807 ∧ (zs.take m).length = m ∧ (ys.take n).length = n ∧ (m + n ≤ 1048576 → Prof w w.heap.size a b (zs.take m) (ys.take n)) := by
  obtain ⟨h1, h2, h3, _⟩ := Ints.of_row h
  obtain ⟨g1, g2, g3, _⟩ := Ints.of_row g
  exact ⟨h1, g1, h2, g2, fun e => ⟨h3, g3, by omega, by omega⟩⟩
theorem szP_big {m n : Nat} (h : 1048576 < m + n) : szP m n = -1 := by unfold szP; rw [if_pos h]
theorem szP_fit {m n : Nat} (h : ¬ 1048576 < m + n) : 0 ≤ szP m n := by unfold szP; rw [if_neg h]; omega
theorem same_self (zs ys : List Int) : (sameB zs zs && sameB ys ys) = true := by rw [sameB_t rfl, sameB_t rfl]; rfl
end Go.Proofs.Ytlahgdhofakinaa
