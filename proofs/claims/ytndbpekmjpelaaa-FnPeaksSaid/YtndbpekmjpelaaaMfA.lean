/- Contracts of matched filters' small functions, the program's and the model's: traces, thresholds, errors of a match, matches, weights. -/
import Derived.Test.YtndbpekmjpelaaaMfM
import Derived.Test.YtndbpekmjpelaaaPuL
namespace Go.Proofs.Ytndbpekmjpelaaa
open Go.ChangeShapes Go.WideShapes Go.ChangeAt Go.RowKit Go.Shelf Num
set_option linter.unusedVariables false
set_option linter.unusedSimpArgs false
theorem itc_any (w : World) (a : Option Addr) (cap : Nat) (zs : List Int) (hl : zs.length ≤ 9223372036854775807) (hz : Ints .i64 w w.heap.size a zs) :
    Calls Try.prog 23 #[.slice a zs.length cap] w fun e w' => e = .returned (.bool (trcB zs)) ∧ Below w.heap.size w w' := by
  have HZ := Lib.hid hz
  clear hz
  by_cases h4 : zs.length ≤ 400
  · have HE : Hid (trcB zs = !anyLack (-1000000000000) 1000000000000 zs) := Lib.hid (by unfold trcB; rw [decide_eq_true h4]; rfl)
    have hb : Below w.heap.size w (w.alloc (.cells #[.int .i64 (-1000000000000), .int .i64 1000000000000] 41)) := (by repeat (first | exact Below.refl _ _ | (refine Below.alloc ?_ (by simp <;> omega) _) | (refine Below.setCell ?_ (by simp <;> omega) _) | (refine Below.drew ?_) | (refine bel_drewN ?_ _)))
    have K := Lib.hid (are_any (w.alloc (.cells #[.int .i64 (-1000000000000), .int .i64 1000000000000] 41)) a cap _ zs (-1000000000000) 1000000000000 rfl hl ((HZ.out.below hb).more hb.size))
    have HB := Lib.hid hb
    clear hb
    go_enter Try.func23, Try.ntmps23
    go_wp2_with fail
    refine K.out.mono ?_
    rintro e w1 ⟨rfl, hb1⟩
    replace HB := Lib.hid (bel_end HB.out hb1)
    clear hb1
    go_wp2
    go_ret
    exact ⟨ret_bool HE.out.symm, HB.out⟩
  · have HE : Hid (trcB zs = false) := Lib.hid (by unfold trcB; rw [decide_eq_false h4]; rfl)
    go_enter Try.func23, Try.ntmps23
    go_wp2
    go_ret
    exact ⟨ret_bool HE.out.symm, (by repeat (first | exact Below.refl _ _ | (refine Below.alloc ?_ (by simp <;> omega) _) | (refine Below.setCell ?_ (by simp <;> omega) _) | (refine Below.drew ?_) | (refine bel_drewN ?_ _)))⟩
theorem stc_any (w : World) (B : Nat) (a : Option Addr) (cap : Nat) (zs : List Int) (hl : zs.length ≤ 9223372036854775807) (hz : Ints .i64 w B a zs) :
    Calls Try.prog 18 #[.slice a zs.length cap] w fun e w' => e = .returned (.bool (trcB zs)) ∧ w = w' := by
  have HE : Hid (withB zs 400 (-1000000000000) 1000000000000 = trcB zs) := Lib.hid (by unfold withB trcB; rw [Bool.and_comm]; congr 1; rw [Bool.eq_iff_iff]; simp; omega)
  go_enter Try.func18, Try.ntmps18
  go_wp2_with (go_at_call 37; refine (wth_any _ _ _ _ zs _ _ _ hl hz).mono ?_; rw [HE.out]; rintro e w' ⟨rfl, rfl⟩)
  go_ret
  exact ⟨rfl, rfl⟩
theorem ith_any (w : World) (x : Int) :
    Calls Try.prog 24 #[.int .i64 x] w fun e w' => e = .returned (.bool (hasB 1 1000000000000 x)) ∧ w = w' := by
  by_cases h1 : 1 ≤ x
  · by_cases h2 : x ≤ 1000000000000
    · go_enter Try.func24, Try.ntmps24
      go_wp2
      go_ret
      exact ⟨ret_bool (by unfold hasB; rw [decide_eq_true h1, decide_eq_true h2]; rfl), rfl⟩
    · go_enter Try.func24, Try.ntmps24
      go_wp2
      go_ret
      exact ⟨ret_bool (by unfold hasB; rw [decide_eq_true (by omega), decide_eq_false (by omega)]; rfl), rfl⟩
  · go_enter Try.func24, Try.ntmps24
    go_wp2
    go_ret
    exact ⟨ret_bool (by unfold hasB; rw [decide_eq_false (by omega)]; rfl), rfl⟩
end Go.Proofs.Ytndbpekmjpelaaa
