/- Contracts of pulses' small functions, the program's and the model's: numbers within bounds, signals, sums of products, correlations, sidelobes. -/
import Derived.Test.YtdkiikmmlfdlcaaPuM
import Derived.Test.YtdkiikmmlfdlcaaPrs
import Derived.LoopTactic
import Derived.Outline
import Derived.Handy
import Derived.Deep.QuietTactic
import Derived.BigQuiet
namespace Go.Proofs.Ytdkiikmmlfdlcaa
open Go.ChangeShapes Go.WideShapes Go.ChangeAt Go.RowKit Num
set_option linter.unusedVariables false
set_option linter.unusedSimpArgs false
theorem are_any (w : World) (a : Option Addr) (cap n : Nat) (zs : List Int) (lo hi : Int) (hn : zs.length = n) (hl : n ≤ 9223372036854775807) (hz : Ints .i64 w w.heap.size a zs) :
    Calls Try.prog 61 #[.agg #[.int .i64 lo, .int .i64 hi], .slice a n cap] w fun e w' => e = .returned (.bool (!anyLack lo hi zs)) ∧ Below w.heap.size w w' := by
  subst hn
  have HZ := Lib.hid hz
  clear hz
  go_enter Try.func61, Try.ntmps61
  go_wp2_with fail
  have hb : Below w.heap.size w (w.alloc (.cells #[.int .i64 lo, .int .i64 hi] 89)) := (by repeat (first | exact Below.refl _ _ | (refine Below.alloc ?_ (by simp <;> omega) _) | (refine Below.setCell ?_ (by simp <;> omega) _) | (refine Below.drew ?_) | (refine bel_drewN ?_ _)))
  have HB := Lib.hid hb
  refine (cfl_any _ _ _ zs lo hi hl ((HZ.out.below hb).more hb.size)).mono ?_
  rintro e w1 ⟨rfl, hb1⟩
  replace HB := Lib.hid (bel_end HB.out hb1)
  clear hb hb1
  go_wp2
  go_ret
  exact ⟨rfl, HB.out⟩
/-- the model's bounds -/
def withB (zs : List Int) (most lo hi : Int) : Bool := !anyLack lo hi zs && decide ((zs.length : Int) ≤ most)
theorem hasB_inB (x lo hi : Int) : hasB lo hi x = inB x lo hi := by unfold hasB inB; rw [Bool.eq_iff_iff]; simp
/-- where a slice from k on begins -/
def frA (a : Option Addr) (c k : Nat) : Option Addr := if c = k then a else a.map (·.add k)
theorem Ints.from_ {w : World} {B : Nat} {a : Option Addr} {zs : List Int} (h : Ints .i64 w B a zs) {c k : Nat} (hc : zs.length ≤ c) : Ints .i64 w B (frA a c k) (zs.drop k) := fun hp => by
  rw [List.length_drop] at hp
  obtain ⟨b, off, rfl, hB, hcl⟩ := h (by omega)
  refine ⟨b, off + k, by unfold frA; rw [if_neg (by omega)]; simp [Addr.add], hB, fun j hj => ?_⟩
  rw [List.length_drop] at hj
  rw [getD_drop, Nat.add_assoc]
  exact hcl (k + j) (by omega)
end Go.Proofs.Ytdkiikmmlfdlcaa
