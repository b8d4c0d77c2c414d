/- The walk of the exact law of MedianOf. -/
import Derived.Test.YtaamfgpdfakakaaMed
import Derived.Test.YtaamfgpdfakakaaCopy
namespace Go.Proofs.Ytaamfgpdfakakaa
open Go.ChangeShapes Go.WideShapes Go.ChangeAt Go.RowKit Num
set_option linter.unusedVariables false
set_option maxHeartbeats 2000000 in
theorem lmd (a0 : Option Addr) (len0 cap0 : Nat) (z0 : List Int) (w : World) (w0 : IsRow .i64 w a0 len0 cap0 z0) :
    Calls Try.prog 6 #[.slice a0 len0 cap0] w fun e w' => e = .returned (.bool true) ∧ Below w.heap.size w w' := by
  obtain ⟨hm, hlen, hz, hwf⟩ := Ints.of_row w0
  clear w0 hwf
  obtain ⟨zs, hzs⟩ : ∃ zs, z0.take len0 = zs := ⟨_, rfl⟩
  rw [hzs] at hz hlen
  subst hlen
  clear hzs
  by_cases hbig : 1048576 < zs.length
  · go_enter Try.func6, Try.ntmps6
    go_wp2
    go_ret
    exact ⟨rfl, Below.refl _ _⟩
  · have HZ := Lib.hid hz
    clear hz
    go_enter Try.func6, Try.ntmps6
    go_wp2_with fail
    refine (to_any _ _ _ zs (by omega) HZ.out).mono ?_
    rintro e w1 ⟨g1, rfl, hg1, hr1, hb1⟩
    have R1 := Lib.hid hr1
    have B1 := Lib.hid hb1
    have G1 := Lib.hid hg1
    clear hr1 hb1 hg1
    go_wp2_with fail
    refine (smd_any _ _ _ zs (by omega) (Ints.of_rowIs R1.out)).mono ?_
    rintro e w2 ⟨rfl, hb2⟩
    have B2 := Lib.hid (B1.out.trans (hb2.mono B1.out.size))
    clear hb2
    go_wp2_with fail
    refine (to_any _ _ _ zs (by omega) ((HZ.out.below B2.out).more B2.out.size)).mono ?_
    rintro e w3 ⟨g3, rfl, hg3, hr3, hb3⟩
    have R3 := Lib.hid hr3
    have B3 := Lib.hid (B2.out.trans (hb3.mono B2.out.size))
    clear hr3 hb3
    go_wp2_with fail
    refine (imd_any _ _ _ zs (by omega) (Ints.of_rowIs R3.out)).mono ?_
    rintro e w4 ⟨rfl, hb4⟩
    have R4 := Lib.hid (((Ints.of_rowIs R3.out).below hb4).more hb4.size)
    have B4 := Lib.hid (B3.out.trans (hb4.mono B3.out.size))
    clear hb4
    go_wp2_with fail
    refine (to_any _ _ _ zs (by omega) ((HZ.out.below B4.out).more B4.out.size)).mono ?_
    rintro e w5 ⟨g5, rfl, hg5, hr5, hb5⟩
    have R5 := Lib.hid hr5
    have B5 := Lib.hid (B4.out.trans (hb5.mono B4.out.size))
    have R6 := Lib.hid ((R4.out.below hb5).more hb5.size)
    clear hr5 hb5
    go_wp2_with fail
    refine (eqi_any _ _ _ _ _ _ zs zs (by omega) (by omega) R6.out (Ints.of_rowIs R5.out)).mono ?_
    rw [sameB_t rfl]
    rintro e w' ⟨rfl, n2, rfl⟩
    go_wp2
    go_ret
    exact ⟨rfl, below_drewN B5.out _⟩
end Go.Proofs.Ytaamfgpdfakakaa
