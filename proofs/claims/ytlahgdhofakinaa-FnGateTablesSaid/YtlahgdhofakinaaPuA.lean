/- Contracts of pulses' small functions, the program's and the model's: numbers within bounds, signals, sums of products, correlations, sidelobes. -/
import Derived.Test.YtlahgdhofakinaaPuM
import Derived.Test.YtlahgdhofakinaaPrs
import Derived.LoopTactic
import Derived.Outline
import Derived.Handy
import Derived.Deep.QuietTactic
import Derived.BigQuiet
namespace Go.Proofs.Ytlahgdhofakinaa
open Go.ChangeShapes Go.WideShapes Go.ChangeAt Go.RowKit Num
set_option linter.unusedVariables false
set_option linter.unusedSimpArgs false
theorem are_any (w : World) (a : Option Addr) (cap n : Nat) (zs : List Int) (lo hi : Int) (hn : zs.length = n) (hl : n ≤ 9223372036854775807) (hz : Ints .i64 w w.heap.size a zs) :
    Calls Try.prog 72 #[.agg #[.int .i64 lo, .int .i64 hi], .slice a n cap] w fun e w' => e = .returned (.bool (!anyLack lo hi zs)) ∧ Below w.heap.size w w' := by
  subst hn
  have HZ := Lib.hid hz
  clear hz
  go_enter Try.func72, Try.ntmps72
  go_wp2_with fail
  have hb : Below w.heap.size w (w.alloc (.cells #[.int .i64 lo, .int .i64 hi] 81)) := (by repeat (first | exact Below.refl _ _ | (refine Below.alloc ?_ (by simp <;> omega) _) | (refine Below.setCell ?_ (by simp <;> omega) _) | (refine Below.drew ?_) | (refine bel_drewN ?_ _)))
  have HB := Lib.hid hb
  refine (cfl_any _ _ _ zs lo hi hl ((HZ.out.below hb).more hb.size)).mono ?_
  rintro e w1 ⟨rfl, hb1⟩
  replace HB := Lib.hid (bel_end HB.out hb1)
  clear hb hb1
  go_wp2
  go_ret
  exact ⟨rfl, HB.out⟩
/-- the model's bounds -/
def withB (zs : List Int) (most lo hi : Int) : Bool := !anyLack lo hi zs && decide ((zs.length : Int) ≤ most)
theorem hasB_inB (x lo hi : Int) : hasB lo hi x = inB x lo hi := by unfold hasB inB; rw [Bool.eq_iff_iff]; simp
theorem wth_any (w : World) (B : Nat) (a : Option Addr) (cap : Nat) (zs : List Int) (most lo hi : Int) (hl : zs.length ≤ 9223372036854775807) (hz : Ints .i64 w B a zs) :
    Calls Try.prog 95 #[.slice a zs.length cap, .int .i64 most, .int .i64 lo, .int .i64 hi] w fun e w' => e = .returned (.bool (withB zs most lo hi)) ∧ w = w' := by
  go_enter Try.func95, Try.ntmps95
  go_wp2
  go_loop [9] (fun i => ∃ k : Nat, k ≤ zs.length ∧ i = .int .i64 k ∧ ∀ j, j < k → hasB lo hi (zs.getD j 0) = true) (fun i => zs.length - (intOf i).toNat)
  case atStart => exact ⟨0, by omega, rfl, fun j hj => by omega⟩
  case round =>
    obtain ⟨k, hk, rfl, hr⟩ := hrel
    have HR := Lib.hid hr
    clear hr
    by_cases hlt : k < zs.length
    · obtain ⟨b, off, rfl, hB, hc⟩ := hz.at_ hlt
      clear hz
      obtain ⟨x, hx⟩ : ∃ x, zs.getD k 0 = x := ⟨_, rfl⟩
      rw [hx] at hc
      have HX := Lib.hid hx
      clear hx
      cases hv : inB x lo hi
      · go_wp2_with (go_at_call 106; refine (lin_any _ _ _ _).mono ?_; rw [hv]; rintro e w' ⟨rfl, rfl⟩)
        go_ret
        exact ⟨ret_bool (by unfold withB; rw [anyLack_t hlt (by rw [HX.out, hasB_inB]; exact hv)]; rfl), rfl⟩
      · go_wp2_with (go_at_call 106; refine (lin_any _ _ _ _).mono ?_; rw [hv]; rintro e w' ⟨rfl, rfl⟩)
        go_round
        case rel => exact ⟨k + 1, by omega, by go_num, fun j hj => by
          by_cases hjk : j = k
          · rw [hjk, HX.out, hasB_inB]; exact hv
          · exact HR.out j (by omega)⟩
        case measure => simp [intOf]; omega
    · obtain rfl : k = zs.length := by omega
      clear hz
      go_wp2
      go_ret
      exact ⟨ret_bool (by unfold withB; rw [anyLack_f HR.out]; rfl), rfl⟩
/-- where a slice from k on begins -/
def frA (a : Option Addr) (c k : Nat) : Option Addr := if c = k then a else a.map (·.add k)
theorem Ints.from_ {w : World} {B : Nat} {a : Option Addr} {zs : List Int} (h : Ints .i64 w B a zs) {c k : Nat} (hc : zs.length ≤ c) : Ints .i64 w B (frA a c k) (zs.drop k) := fun hp => by
  rw [List.length_drop] at hp
  obtain ⟨b, off, rfl, hB, hcl⟩ := h (by omega)
  refine ⟨b, off + k, by unfold frA; rw [if_neg (by omega)]; simp [Addr.add], hB, fun j hj => ?_⟩
  rw [List.length_drop] at hj
  rw [getD_drop, Nat.add_assoc]
  exact hcl (k + j) (by omega)
end Go.Proofs.Ytlahgdhofakinaa
