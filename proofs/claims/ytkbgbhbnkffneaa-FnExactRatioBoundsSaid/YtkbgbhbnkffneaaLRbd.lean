/- The walks of the exact laws of RatioBounds: it returns true and writes nothing that was there. -/
import Derived.Test.YtkbgbhbnkffneaaRbd
import Derived.Test.YtkbgbhbnkffneaaLRat
namespace Go.Proofs.Ytkbgbhbnkffneaa
open Go.ChangeShapes Go.WideShapes Go.ChangeAt Go.RowKit Num
set_option linter.unusedVariables false
set_option maxHeartbeats 1000000 in
theorem lrbr (a0 b0 a1 : Int) (v1 : (Lit.int .i64 a1).wf = true) (w : World) :
    Calls Try.prog 16 #[.agg #[.int .i64 a0, .int .i64 b0], .int .i64 a1] w fun e w' => e = .returned (.bool true) ∧ Below w.heap.size w w' := by
  clear v1
  go_enter Try.func16, Try.ntmps16
  go_upto_region 1 with fail
  obtain ⟨W, hW⟩ : ∃ W, W = w.alloc (.cells #[.int .i64 a0, .int .i64 b0] 55) := ⟨_, rfl⟩
  have c0 : W.cell? ⟨w.heap.size, 0, none⟩ = some (.int .i64 a0) := by rw [hW]; simp [go_sem]
  have c1 : W.cell? ⟨w.heap.size, 1, none⟩ = some (.int .i64 b0) := by rw [hW]; simp [go_sem]
  have hlt := World.block_lt_of_cell? W _ c0
  have HB : Hid (Below w.heap.size w W) := Lib.hid (by rw [hW]; exact (by repeat (first | exact Below.refl _ _ | (refine Below.alloc ?_ (by simp <;> omega) _) | (refine Below.setCell ?_ (by simp <;> omega) _) | (refine Below.drew ?_) | (refine bel_drewN ?_ _))))
  rw [← hW]
  clear hW
  go_cut [5, 6] (fun s5 s6 wx => Res2 W wx s5 s6 (rbT a0 b0 a1).1 (rbT a0 b0 a1).2.1 (rbT a0 b0 a1).2.2)
  case first =>
    go_wp2_with fail
    refine (tor_any _ _ _).mono ?_
    rintro e w1 ⟨rfl, hb⟩
    have B1 := Lib.hid hb
    clear hb
    obtain ⟨hc, -, -⟩ := bel_rules B1.out
    go_wp2_with fail
    refine (srb_any _ _ _ _).mono ?_
    rintro e w2 ⟨rfl, hb⟩
    have B2 := Lib.hid (B1.out.trans (hb.mono B1.out.size))
    clear hb hc
    obtain ⟨hc, -, -⟩ := bel_rules B2.out
    go_wp2_with fail
    go_meet
    exact ⟨_, rfl, rfl, by go_simp, by go_simp, B2.out.size, B2.out.alloc B2.out.size _⟩
  case rest =>
    obtain ⟨g5, rfl, rfl, x0, x1, hg, hB⟩ := hcut
    have d0 := keep1 c0 hB
    have d1 := keep1 c1 hB
    have hlt2 := Nat.lt_of_lt_of_le hlt hB.size
    have HB2 := Lib.hid (bel_end HB.out hB)
    clear c0 c1 hB HB hg hlt
    go_upto_region 2 with fail
    go_cut [7, 8] (fun s5 s6 wx => Res2 wc wx s5 s6 (rbT a0 b0 a1).1 (rbT a0 b0 a1).2.1 (rbT a0 b0 a1).2.2)
    case first =>
      go_wp2_with fail
      refine (tor_any _ _ _).mono ?_
      rintro e w1 ⟨rfl, hb⟩
      have B1 := Lib.hid hb
      clear hb
      obtain ⟨hc, -, -⟩ := bel_rules B1.out
      go_wp2_with fail
      refine (irb_any _ _ _ _).mono ?_
      rintro e w2 ⟨rfl, hb⟩
      have B2 := Lib.hid (B1.out.trans (hb.mono B1.out.size))
      clear hb hc
      obtain ⟨hc, -, -⟩ := bel_rules B2.out
      go_wp2_with fail
      go_meet
      exact ⟨_, rfl, rfl, by go_simp, by go_simp, B2.out.size, B2.out.alloc B2.out.size _⟩
    case rest =>
      obtain ⟨g7, rfl, rfl, y0, y1, hg, hB⟩ := hcut
      have z0 := keep1 x0 hB
      have z1 := keep1 x1 hB
      have HB3 := Lib.hid (bel_end HB2.out hB)
      clear d0 d1 x0 x1 hB HB2 hg hlt2
      go_wp2_with fail
      refine (eqv_any _ _ _ _ _).mono ?_
      rintro e w9 ⟨rfl, hb⟩
      have HB4 := Lib.hid (bel_end HB3.out hb)
      clear hb
      go_wp2
      go_ret
      exact ⟨rfl, HB4.out⟩
end Go.Proofs.Ytkbgbhbnkffneaa
