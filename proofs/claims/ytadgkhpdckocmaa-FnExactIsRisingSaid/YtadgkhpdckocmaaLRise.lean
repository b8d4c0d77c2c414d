/- The walk of the exact law of IsRising. -/
import Derived.Test.YtadgkhpdckocmaaRise
import Derived.Test.YtadgkhpdckocmaaCopy
namespace Go.Proofs.Ytadgkhpdckocmaa
open Go.ChangeShapes Go.WideShapes Go.ChangeAt Go.RowKit Num
set_option linter.unusedVariables false
theorem lir (a0 : Option Addr) (len0 cap0 : Nat) (z0 : List Int) (a1 : Int) (w : World) (w0 : IsRow .i64 w a0 len0 cap0 z0) (w1 : (Lit.int .i64 a1).wf = true) :
    Calls Try.prog 11 #[.slice a0 len0 cap0, .int .i64 a1] w fun e w' => e = .returned (.bool true) ∧ Below w.heap.size w w' := by
  obtain ⟨hm, hlen, hz, hwf⟩ := Ints.of_row w0
  clear w0 w1 hwf
  obtain ⟨zs, hzs⟩ : ∃ zs, z0.take len0 = zs := ⟨_, rfl⟩
  rw [hzs] at hz hlen
  subst hlen
  clear hzs
  by_cases hbig : 1048576 < zs.length
  · go_enter Try.func11, Try.ntmps11
    go_wp2
    go_ret
    exact ⟨rfl, Below.refl _ _⟩
  · have HZ := Lib.hid hz
    clear hz
    go_enter Try.func11, Try.ntmps11
    go_wp2_with fail
    refine (to_any _ _ _ zs (by omega) HZ.out).mono ?_
    rintro e w1 ⟨g1, rfl, hg1, hr1, hb1⟩
    have R1 := Lib.hid hr1
    have B1 := Lib.hid hb1
    clear hr1 hb1
    go_wp2_with fail
    refine (sir_any _ _ _ _ zs _ (by omega) (Ints.of_rowIs R1.out)).mono ?_
    rintro e w' ⟨rfl, n1, rfl⟩
    go_wp2_with fail
    refine (to_any _ _ _ zs (by omega) (((HZ.out.below B1.out).more B1.out.size).drewN _)).mono ?_
    rintro e w2 ⟨g2, rfl, hg2, hr2, hb2⟩
    have R2 := Lib.hid hr2
    have B2 := Lib.hid (below_drewN B1.out n1 |>.trans (hb2.mono B1.out.size))
    clear hr2 hb2
    go_wp2_with fail
    refine (iir_any _ _ _ _ zs _ (by omega) (Ints.of_rowIs R2.out)).mono ?_
    rintro e w' ⟨rfl, rfl⟩
    go_wp2_with fail
    refine (to_any _ _ _ zs (by omega) ((HZ.out.below B2.out).more B2.out.size)).mono ?_
    rintro e w3 ⟨g3, rfl, hg3, hr3, hb3⟩
    have R3 := Lib.hid hr3
    have B3 := Lib.hid (B2.out.trans (hb3.mono B2.out.size))
    have HB3 := Lib.hid hb3
    clear hr3 hb3
    go_wp2_with fail
    refine (eqi_any _ _ _ _ _ _ zs zs (by omega) (by omega) (((Ints.of_rowIs R2.out).below HB3.out).more HB3.out.size) (Ints.of_rowIs R3.out)).mono ?_
    rw [sameB_t rfl]
    rintro e w' ⟨rfl, n2, rfl⟩
    go_wp2
    go_ret
    exact ⟨rfl, below_drewN B3.out _⟩
end Go.Proofs.Ytadgkhpdckocmaa
