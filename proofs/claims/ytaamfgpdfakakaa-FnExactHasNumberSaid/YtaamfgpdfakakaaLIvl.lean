/- The walks of the exact laws of IsInterval, MeetInterval and HasNumber: each returns true and writes nothing that was there. -/
import Derived.Test.YtaamfgpdfakakaaIvl2
import Derived.Below
namespace Go.Proofs.Ytaamfgpdfakakaa
open Go.ChangeShapes Go.WideShapes Go.ChangeAt Go.RowKit
set_option linter.unusedVariables false
theorem lisi (a0 b0 : Int) (w : World) :
    Calls Try.prog 10 #[.agg #[.int .i64 a0, .int .i64 b0]] w fun e w' => e = .returned (.bool true) ∧ Below w.heap.size w w' := by
  go_enter Try.func10, Try.ntmps10
  go_wp2_with fail
  refine (toi_any _ _ _).mono ?_
  rintro e w1 ⟨rfl, hb⟩
  have B1 := Lib.hid hb
  clear hb
  obtain ⟨hc, -, -⟩ := bel_rules B1.out
  go_wp2_with fail
  refine (svb_any _ _ _).mono ?_
  rintro e w2 ⟨rfl, hb⟩
  have B2 := Lib.hid (B1.out.trans (hb.mono B1.out.size))
  clear hb hc
  obtain ⟨hc, -, -⟩ := bel_rules B2.out
  go_wp2_with fail
  refine (toi_any _ _ _).mono ?_
  rintro e w3 ⟨rfl, hb⟩
  have B3 := Lib.hid (B2.out.trans (hb.mono B2.out.size))
  clear hb hc
  obtain ⟨hc, -, -⟩ := bel_rules B3.out
  go_wp2_with fail
  refine (iii_any _ _ _).mono ?_
  rintro e w4 ⟨rfl, hb⟩
  have B4 := Lib.hid (B3.out.trans (hb.mono B3.out.size))
  clear hb hc
  obtain ⟨hc, -, -⟩ := bel_rules B4.out
  go_wp2
  go_ret
  exact ⟨rfl, bel_end (by repeat (first | exact Below.refl _ _ | (refine Below.alloc ?_ (by simp <;> omega) _) | (refine Below.setCell ?_ (by simp <;> omega) _) | (refine Below.drew ?_) | (refine bel_drewN ?_ _))) B4.out⟩

theorem lhni (a0 b0 a1 : Int) (w1 : (Lit.int .i64 a1).wf = true) (w : World) :
    Calls Try.prog 17 #[.agg #[.int .i64 a0, .int .i64 b0], .int .i64 a1] w fun e w' => e = .returned (.bool true) ∧ Below w.heap.size w w' := by
  clear w1
  go_enter Try.func17, Try.ntmps17
  go_wp2_with fail
  refine (toi_any _ _ _).mono ?_
  rintro e w1 ⟨rfl, hb⟩
  have B1 := Lib.hid hb
  clear hb
  obtain ⟨hc, -, -⟩ := bel_rules B1.out
  go_wp2_with fail
  refine (shn_any _ _ _ _).mono ?_
  rintro e w2 ⟨rfl, hb⟩
  have B2 := Lib.hid (B1.out.trans (hb.mono B1.out.size))
  clear hb hc
  obtain ⟨hc, -, -⟩ := bel_rules B2.out
  go_wp2_with fail
  refine (toi_any _ _ _).mono ?_
  rintro e w3 ⟨rfl, hb⟩
  have B3 := Lib.hid (B2.out.trans (hb.mono B2.out.size))
  clear hb hc
  obtain ⟨hc, -, -⟩ := bel_rules B3.out
  go_wp2_with fail
  refine (ihn_any _ _ _ _).mono ?_
  rintro e w4 ⟨rfl, hb⟩
  have B4 := Lib.hid (B3.out.trans (hb.mono B3.out.size))
  clear hb hc
  obtain ⟨hc, -, -⟩ := bel_rules B4.out
  go_wp2
  go_ret
  exact ⟨rfl, bel_end (by repeat (first | exact Below.refl _ _ | (refine Below.alloc ?_ (by simp <;> omega) _) | (refine Below.setCell ?_ (by simp <;> omega) _) | (refine Below.drew ?_) | (refine bel_drewN ?_ _))) B4.out⟩
end Go.Proofs.Ytaamfgpdfakakaa
